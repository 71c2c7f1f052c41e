/- PROVED: for every byte slice, and whatever lies in memory besides the two tables of unicode/utf8, which read as Go's own library lays them, laws.FnTabPort returns true and leaves the slice as it was. The conditions are the row's own: the two tables; the card ties them to the library's text. -/
import Derived.Test.YtnenoaenjaghhaaDoorM5
import Derived.Test.YtnenoaenjaghhaaDoorCards
import Derived.Test.YtnenoaenjaghhaaDoorTie
import Derived.Shelf.LaysM
import Derived.Shelf.Strconv.Clone
import Derived.Shelf.Unicode.DecodeSlow
import Derived.Shelf.Unicode.DecodeAny
import Derived.BigQuiet
import Derived.Deep.QuietTactic
import Derived.Deep.RegionWith
import Derived.Deep.RegionHeld3
import Derived.Laws.StructEq
import Derived.ProofKit
import Derived.OpenShut
import Derived.ShutString
import Derived.Lib.SmallJoins
import Derived.Lib.LaidU8
import Derived.PinnedBridge
import Derived.ChangeOld
import Derived.ChangeVars
import Derived.Lay
import Derived.LaidOnce
import Derived.JoinedOf
import Derived.Handy
import Derived.SevenTiedAt
set_option linter.all false
set_option maxRecDepth 100000
set_option maxHeartbeats 16000000
namespace Go.Proofs.YtnenoaenjaghhaaDoor
open Go.RowKit Nt
theorem yU (d : Dt) (u : Value) (w : World) (h : DataAt w u d) (hsm : d.1.length ≤ 1048576 ∧ d.2.length ≤ 1048576 ∧ jb d.1) :
  Calls Tryd.prog 33 #[u] w fun e w' => AnsT e ∧ Below w.heap.size w w' := by
 obtain ⟨un, ur, rfl, hun, hur⟩ := id h
 obtain ⟨na, nc, rfl, _, _⟩ := hun.form0
 obtain ⟨ra, rc, rfl, _, _⟩ := hur.form
 have HD := hide (h.below ((Below.refl _ _).alloc (Nat.le_refl _) (.cells #[.slice na d.1.length nc, .slice ra d.2.length rc] 71)))
 have HB := hide (zh (Below.refl w.heap.size w) (.cells #[.slice na d.1.length nc, .slice ra d.2.length rc] 71))
 clear h hun hur
 go_enter Tryd.func33, Tryd.ntmps33
 go_wp2_with fail
 refine (kr d _ _ (za HD) hsm).mono ?_
 rintro e w1 ⟨⟨s, b, rfl, hs⟩, hb1⟩
 have HB1 := hide (zi (za HB) hb1)
 clear hb1
 go_wp2_with fail
 go_ret2
 exact ⟨⟨_, _, rfl, hs⟩, za HB1⟩
theorem jL (g p n cap : Nat) (a : Option Addr) (w : World) (h : Rd w g p a n cap) (hp : p ≤ 900000000) :
  Calls Tryd.prog 35 #[.pointer (some ⟨g, 0, none⟩)] w fun e w' => (∃ s, e = .returned (.string s) ∧ s.size ≤ 1000) ∧ Drawn w g p n cap a 100 w' := by
 have hlt := h.lt
 have HR := hide h
 clear h
 go_enter Tryd.func35, Tryd.ntmps35
 go_wp2_with fail
 refine (zu g p n cap a 14 _ (za HR) (by omega) (by omega)).mono ?_
 rintro e w1 ⟨⟨k0, rfl, hk0⟩, ⟨p1, hp1, hr1⟩, hk1⟩
 have hk14 : k0 < 14 := by rcases hk0 with h | h <;> omega
 have HR1 := hide hr1
 have HK1 := hide hk1
 clear hr1 hk1 hk0 HR
 go_wp2_with fail
 go_loopw [3, 4] (fun vo vi wr => ∃ (k j p' : Nat) (o : ByteArray), vo = .string o ∧ vi = .int .i64 k ∧ j + k ≤ 14 ∧ o.size ≤ 30 * j ∧ p' ≤ p1 + 2 * j ∧ Hid (Rd wr g p' a n cap) ∧ Hid (Keeps g w wr)) (fun _ vi _ => (intOf vi).toNat)
 case atStart => exact ⟨k0, 0, p1, _, rfl, rfl, by omega, by decide, by omega, HR1, HK1⟩
 case round =>
  clear HR1 HK1
  obtain ⟨k, j, p2, o, rfl, rfl, hjk, ho, hp2, hr, hK⟩ := hrel
  by_cases hk : 0 < k
  ·go_wp2_with fail
   refine (ofs_c g p2 n cap a _ _ 16 wr (za hr) (by omega) (by rfl) (by omega) (by omega) (by rfl)).mono ?_
   rintro e w3 ⟨⟨s3, rfl, hs3⟩, ⟨p3, hp3, hr3⟩, hk3⟩
   have HR3 := hide hr3
   have HK3 := hide ((za hK).trans hk3)
   have h3 : ¬ 9223372036854775807 < o.size + s3.size := by omega
   clear hr3 hk3 hr hK
   go_wp2_with fail
   refine (ofs_c g p3 n cap a _ _ 10 w3 (za HR3) (by omega) (by rfl) (by omega) (by omega) (by rfl)).mono ?_
   rintro e w4 ⟨⟨s4, rfl, hs4⟩, ⟨p4, hp4, hr4⟩, hk4⟩
   have HR4 := hide hr4
   have HK4 := hide ((za HK3).trans hk4)
   have h4 : ¬ 9223372036854775807 < (o ++ s3).size + s4.size := by rw [ByteArray.size_append]; omega
   have e4 := wi64 ((k : Int) - 1) (by omega) (by omega)
   clear hr4 hk4 HR3 HK3
   go_wp2_with fail
   go_roundw
   case rel => exact ⟨k - 1, j + 1, p4, _, rfl, by go_num, by omega, by rw [ByteArray.size_append, ByteArray.size_append]; omega, by omega, HR4, HK4⟩
   case measure => simp [intOf]; omega
  ·go_wp2_with fail
   go_ret
   exact ⟨⟨_, rfl, by omega⟩, ⟨p2, by omega, za hr⟩, za hK⟩
theorem jM (g p n cap : Nat) (a : Option Addr) (w : World) (h : Rd w g p a n cap) (hp : p ≤ 500000000) :
  Calls Tryd.prog 24 #[.pointer (some ⟨g, 0, none⟩)] w fun e w' => (∃ s, e = .returned (.string s) ∧ s.size ≤ 5000) ∧ Drawn w g p n cap a 20000 w' := by
 have hlt := h.lt
 have HR := hide h
 clear h
 go_enter Tryd.func24, Tryd.ntmps24
 go_wp2_with fail
 refine (xi g p n cap a w (za HR) (by omega)).mono ?_
 rintro e w1 ⟨⟨nv, rv, k, m, rfl, hk1, hk9, hm4, hsn, hsi⟩, ⟨p1, hp1, hr1⟩, hkp1⟩
 obtain ⟨d, hd, hl1, hl2, hnd⟩ := Zo hsn hsi (by unfold maxLen; omega)
 obtain ⟨na, nc, rfl, _, _⟩ := hsn.form
 obtain ⟨ra, rc, rfl, _, _⟩ := hsi.form
 have HD := hide hd
 have HR1 := hide hr1
 have HK1 := hide hkp1
 have hs : d.1.length ≤ 1048576 ∧ d.2.length ≤ 1048576 ∧ jb d.1 := ⟨by omega, by omega, fun nd hm => by have := hnd nd hm; omega⟩
 clear hd hr1 hkp1 hsn hsi HR hnd
 go_wp2_with fail
 refine (yU d _ w1 (za HD) hs).mono ?_
 rintro e w2 ⟨⟨s, ok, rfl, hss⟩, hb2⟩
 have HR2 := hide ((za HR1).keep hb2)
 have HK2 := hide ((za HK1).trans (Keeps.of_below hb2))
 clear hb2 HR1 HK1 HD hs
 cases ok
 case false =>
  go_wp2_with fail
  refine (jL g p1 n cap a w2 (za HR2) (by omega)).mono ?_
  rintro e w3 ⟨⟨t, rfl, ht⟩, ⟨p3, hp3, hr3⟩, hk3⟩
  have HR3 := hide hr3
  have HK3 := hide ((za HK2).trans hk3)
  clear hr3 hk3
  go_wp2_with fail
  go_ret
  exact ⟨⟨_, rfl, by omega⟩, ⟨p3, by omega, za HR3⟩, za HK3⟩
 case true =>
  go_wp2_with fail
  refine (zu g p1 n cap a 3 _ (za HR2) (by omega) (by omega)).mono ?_
  rintro e w3 ⟨⟨z, rfl, _⟩, ⟨p3, hp3, hr3⟩, hk3⟩
  have HR3 := hide hr3
  have HK3 := hide ((za HK2).trans hk3)
  clear hr3 hk3 HR2 HK2
  by_cases hz : (z : Int) = 0
  ·have hz' := qo hz
   clear hz
   go_wp2_with fail
   refine (jL g p3 n cap a w3 (za HR3) (by omega)).mono ?_
   rintro e w4 ⟨⟨t, rfl, ht⟩, ⟨p4, hp4, hr4⟩, hk4⟩
   have HR4 := hide hr4
   have HK4 := hide ((za HK3).trans hk4)
   clear hr4 hk4
   go_wp2_with fail
   go_ret
   exact ⟨⟨_, rfl, by omega⟩, ⟨p4, by omega, za HR4⟩, za HK4⟩
  ·have hz' := zF hz
   clear hz
   go_wp2_with fail
   refine (zu g p3 n cap a 6 _ (za HR3) (by omega) (by omega)).mono ?_
   rintro e w4 ⟨⟨y, rfl, _⟩, ⟨p4, hp4, hr4⟩, hk4⟩
   have HR4 := hide hr4
   have HK4 := hide ((za HK3).trans hk4)
   clear hr4 hk4 HR3 HK3
   by_cases hy0 : (y : Int) = 0
   ·have hy' := qo hy0
    clear hy0
    have e1 := wi64 ((s.size : Int) + 1) (by omega) (by omega)
    go_wp2_with fail
    refine (zu g p4 n cap a ((s.size : Int) + 1) _ (za HR4) (by omega) (by omega)).mono ?_
    rintro e w5 ⟨⟨v, rfl, hv⟩, ⟨p5, hp5, hr5⟩, hk5⟩
    have hvs : v ≤ s.size := by rcases hv with h | h <;> omega
    have HR5 := hide hr5
    have HK5 := hide ((za HK4).trans hk5)
    have hle1 : (s.extract 0 v).size ≤ 4000 := by simp; omega
    have hle2 : (s.extract v s.size).size ≤ 4000 := by simp; omega
    have hle3 : (s.extract 0 v).size + (s.extract v s.size).size ≤ 4000 := by simp; omega
    have hv1 : ¬ ((s.size : Int) < (v : Int)) := by omega
    clear hr5 hk5 HR4 HK4 hv
    go_wp2_with fail
    go_region_with (go_at_call 25; refine (ofs_c g p5 n cap a _ _ 10 w5.drew (by exact (za HR5).drew) (by omega) (by rfl) (by omega) (by omega) (by rfl)).mono ?_; rintro e w6 ⟨⟨t, rfl, ht⟩, ⟨p6, hp6, hr6⟩, hk6⟩; have hk6' := (Keeps.refl g w5).drew.trans hk6; have HR6 := hide hr6; have HK6 := hide ((za HK5).trans hk6'); have h3 : ¬ 9223372036854775807 < (s.extract 0 v).size + t.size := (by omega); have h4 : ¬ 9223372036854775807 < (s.extract 0 v ++ t).size + (s.extract v s.size).size := (by rw [ByteArray.size_append]; omega); clear hr6 hk6 hk6')
    all_goals
     go_wp2_with fail
     go_ret
     exact ⟨⟨_, rfl, by (rw [ByteArray.size_append, ByteArray.size_append]; omega)⟩, ⟨p6, by omega, za HR6⟩, za HK6⟩
   ·have hy' := zF hy0
    clear hy0
    by_cases hy1 : (y : Int) = 1
    ·have hy1' := qo hy1
     clear hy1
     by_cases hsz : 0 < (s.size : Int)
     ·have e1 := wi64 ((s.size : Int) - 1) (by omega) (by omega)
      have e2 : ((s.size : Int) - 1) = ((s.size - 1 : Nat) : Int) := by omega
      rw [e2] at e1
      have e3 : (s.extract 0 (s.size - 1)).size ≤ 4000 := by simp; omega
      have e4 : ¬ ((s.size : Int) < ((s.size - 1 : Nat) : Int)) := by omega
      go_wp2_with fail
      go_ret
      exact ⟨⟨_, rfl, by omega⟩, ⟨p4, by omega, za HR4⟩, za HK4⟩
     ·go_wp2_with fail
      go_ret
      exact ⟨⟨_, rfl, by omega⟩, ⟨p4, by omega, za HR4⟩, za HK4⟩
    ·have hy1' := zF hy1
     clear hy1
     go_wp2_with fail
     go_ret
     exact ⟨⟨_, rfl, by omega⟩, ⟨p4, by omega, za HR4⟩, za HK4⟩
theorem xl (g p n cap : Nat) (a : Option Addr) (w : World) (h : Rd w g p a n cap) (hp : p ≤ 400000000) :
  Calls Tryd.prog 14 #[.pointer (some ⟨g, 0, none⟩)] w fun e w' => (∃ (s : ByteArray) (v : Int), e = .returned (.agg #[.string s, .int .i64 v]) ∧ s.size ≤ 12000 ∧ -1 ≤ v ∧ v ≤ 12001) ∧ Drawn w g p n cap a 50000 w' := by
 have hlt := h.lt
 have HR := hide (h.alloc (.cells #[.string ⟨#[]⟩, .int .i64 0] 24))
 have HN := hide (AtC2.new w (.string ⟨#[]⟩) (.int .i64 0) 24)
 have HK := hide ((Keeps.refl g w).alloc (.cells #[.string ⟨#[]⟩, .int .i64 0] 24))
 clear h
 go_enter Tryd.func14, Tryd.ntmps14
 go_wp2_with fail
 refine (jM g p n cap a _ (za HR) (by omega)).mono ?_
 rintro e w1 ⟨⟨s1, rfl, hs1⟩, ⟨p1, hp1, hr1⟩, hk1⟩
 replace HN := hide ((za HN).keeps hk1 (by omega))
 replace HK := hide ((za HK).trans hk1)
 replace HR := hide hr1
 clear hr1 hk1
 go_wp2_with fail
 refine (ofs_c g p1 n cap a _ _ 10 w1 (za HR) (by omega) (by rfl) (by omega) (by omega) (by rfl)).mono ?_
 rintro e w2 ⟨⟨t, rfl, ht⟩, ⟨p2, hp2, hr2⟩, hk2⟩
 replace HN := hide ((za HN).keeps hk2 (by omega))
 replace HK := hide ((za HK).trans hk2)
 replace HR := hide hr2
 have hb2 : ¬ 9223372036854775807 < s1.size + t.size := by omega
 clear hr2 hk2
 go_wp2_with fail
 refine (zu g p2 n cap a 3 _ (za HR) (by omega) (by omega)).mono ?_
 rintro e w3 ⟨⟨z, rfl, _⟩, ⟨p3, hp3, hr3⟩, hk3⟩
 replace HN := hide ((za HN).keeps hk3 (by omega))
 replace HK := hide ((za HK).trans hk3)
 replace HR := hide hr3
 have hx : (s1 ++ t).size ≤ 5010 := by rw [ByteArray.size_append]; omega
 obtain ⟨x, hx'⟩ : ∃ x, s1 ++ t = x := ⟨_, rfl⟩
 rw [hx'] at hx ⊢
 clear hr3 hk3 hx' hb2
 by_cases hz : (z : Int) = 0
 ·have hz' := qo hz
  clear hz
  go_wp2_with fail
  refine (jM g p3 n cap a w3 (za HR) (by omega)).mono ?_
  rintro e w4 ⟨⟨s4, rfl, hs4⟩, ⟨p4, hp4, hr4⟩, hk4⟩
  replace HN := hide ((za HN).keeps hk4 (by omega))
  replace HK := hide ((za HK).trans hk4)
  replace HR := hide hr4
  have hb4 : ¬ 9223372036854775807 < x.size + s4.size := by omega
  have hy : (x ++ s4).size ≤ 12000 := by rw [ByteArray.size_append]; omega
  obtain ⟨y, hy'⟩ : ∃ y, x ++ s4 = y := ⟨_, rfl⟩
  rw [hy'] at hy
  have HY := hide hy'
  clear hr4 hk4 hy'
  go_wp2_with fail
  rw [za HY]
  refine (zu g p4 n cap a 20 _ (za HR) (by omega) (by omega)).mono ?_
  rintro e w6 ⟨⟨z6, rfl, _⟩, ⟨p6, hp6, hr6⟩, hk6⟩
  replace HN := hide ((za HN).keeps hk6 (by omega))
  replace HK := hide ((za HK).trans hk6)
  replace HR := hide hr6
  have e1 := wi64 ((y.size : Int) + 1) (by omega) (by omega)
  clear hr6 hk6
  by_cases hz6 : (z6 : Int) = 0
  ·have hz6' := qo hz6
   have HL := hide (AtC2.new w6 (.int .i64 (-1)) (.int .i64 ((y.size : Int) + 1)) 3)
   have HR6 := hide ((za HR).alloc (.cells #[.int .i64 (-1), .int .i64 ((y.size : Int) + 1)] 3))
   have HK6 := hide ((za HK).alloc (.cells #[.int .i64 (-1), .int .i64 ((y.size : Int) + 1)] 3))
   have HN6 := hide ((za HN).alloc (.cells #[.int .i64 (-1), .int .i64 ((y.size : Int) + 1)] 3))
   have hw6 : g < w6.heap.size := Nat.lt_of_lt_of_le hlt (za HK).size
   clear hz6
   go_wp2_with fail
   refine (zu g p6 n cap a 2 _ (za HR6) (by omega) (by omega)).mono ?_
   rintro e w7 ⟨⟨i, rfl, hi⟩, ⟨p7, hp7, hr7⟩, hk7⟩
   have hi2 : i = 0 ∨ i = 1 := by rcases hi with h | h <;> omega
   replace HN := hide ((za HN6).keeps hk7 (by omega))
   replace HK := hide ((za HK6).trans hk7)
   replace HL := hide ((za HL).keeps hk7 (by omega))
   replace HR := hide hr7
   have b0 := (za HL).n0
   have b1 := (za HL).n1
   have n0 := (za HN).n0
   have n1 := (za HN).n1
   have f0 := (za HN).f 0
   have f1 := (za HN).f 1
   clear hr7 hk7 hi HR6 HK6 HN6
   rcases hi2 with rfl | rfl
   ·go_wp2_with fail
    have hN := za HN
    have HS := hide ((hN.st0 (.string y)).st1 (.int .i64 (-1)))
    have s0 := AtC2.n0 (za HS)
    have s1 := AtC2.n1 (za HS)
    have HRZ := hide ((za HR).from (B := w.heap.size) hlt (((Below.refl w.heap.size w7).setCell (p := ⟨w.heap.size, 0, none⟩) (Nat.le_refl _) (.string y)).setCell (p := ⟨w.heap.size, 1, none⟩) (Nat.le_refl _) (.int .i64 (-1))))
    have HKZ := hide (((za HK).setNew (p := ⟨w.heap.size, 0, none⟩) (Nat.le_refl _) (.string y)).setNew (p := ⟨w.heap.size, 1, none⟩) (Nat.le_refl _) (.int .i64 (-1)))
    clear hN
    refine bodyPost_ret (v := .agg #[.string y, .int .i64 (-1)]) (by simp [results, Tryd.results14, go_sem, s0, s1]) rfl ⟨⟨_, _, rfl, by omega, by omega, by omega⟩, ⟨p7, by omega, za HRZ⟩, za HKZ⟩
   ·go_wp2_with fail
    have hN := za HN
    have HS := hide ((hN.st0 (.string y)).st1 (.int .i64 ((y.size : Int) + 1)))
    have s0 := AtC2.n0 (za HS)
    have s1 := AtC2.n1 (za HS)
    have HRZ := hide ((za HR).from (B := w.heap.size) hlt (((Below.refl w.heap.size w7).setCell (p := ⟨w.heap.size, 0, none⟩) (Nat.le_refl _) (.string y)).setCell (p := ⟨w.heap.size, 1, none⟩) (Nat.le_refl _) (.int .i64 ((y.size : Int) + 1))))
    have HKZ := hide (((za HK).setNew (p := ⟨w.heap.size, 0, none⟩) (Nat.le_refl _) (.string y)).setNew (p := ⟨w.heap.size, 1, none⟩) (Nat.le_refl _) (.int .i64 ((y.size : Int) + 1)))
    clear hN
    refine bodyPost_ret (v := .agg #[.string y, .int .i64 ((y.size : Int) + 1)]) (by simp [results, Tryd.results14, go_sem, s0, s1]) rfl ⟨⟨_, _, rfl, by omega, by omega, by omega⟩, ⟨p7, by omega, za HRZ⟩, za HKZ⟩
  ·have hz6' := zF hz6
   clear hz6
   go_wp2_with fail
   refine (zu g p6 n cap a ((y.size : Int) + 1) _ (za HR) (by omega) (by omega)).mono ?_
   rintro e w7 ⟨⟨i, rfl, hi⟩, ⟨p7, hp7, hr7⟩, hk7⟩
   have hi2 : i ≤ y.size := by rcases hi with h | h <;> omega
   replace HN := hide ((za HN).keeps hk7 (by omega))
   replace HK := hide ((za HK).trans hk7)
   replace HR := hide hr7
   clear hr7 hk7 hi
   go_wp2_with fail
   refine (zu g p7 n cap a 2 _ (za HR) (by omega) (by omega)).mono ?_
   rintro e w8 ⟨⟨j, rfl, hj⟩, ⟨p8, hp8, hr8⟩, hk8⟩
   have hj2 : j = 0 ∨ j = 1 := by rcases hj with h | h <;> omega
   replace HN := hide ((za HN).keeps hk8 (by omega))
   replace HK := hide ((za HK).trans hk8)
   replace HR := hide hr8
   have n0 := (za HN).n0
   have n1 := (za HN).n1
   have f0 := (za HN).f 0
   have f1 := (za HN).f 1
   obtain ⟨v, hv⟩ : ∃ v : Nat, (i : Int) * (j : Int) = (v : Int) := ⟨i * j, by simp⟩
   have hv2 : v ≤ y.size := by rcases hj2 with rfl | rfl <;> omega
   have e2 := wi64 (v : Int) (by omega) (by omega)
   rw [← hv] at e2
   clear hr8 hk8 hj hj2
   go_wp2_with fail
   have hN := za HN
   have HS := hide ((hN.st0 (.string y)).st1 (.int .i64 (v : Int)))
   have s0 := AtC2.n0 (za HS)
   have s1 := AtC2.n1 (za HS)
   have HRZ := hide ((za HR).from (B := w.heap.size) hlt (((Below.refl w.heap.size w8).setCell (p := ⟨w.heap.size, 0, none⟩) (Nat.le_refl _) (.string y)).setCell (p := ⟨w.heap.size, 1, none⟩) (Nat.le_refl _) (.int .i64 (v : Int))))
   have HKZ := hide (((za HK).setNew (p := ⟨w.heap.size, 0, none⟩) (Nat.le_refl _) (.string y)).setNew (p := ⟨w.heap.size, 1, none⟩) (Nat.le_refl _) (.int .i64 (v : Int)))
   clear hN
   refine bodyPost_ret (v := .agg #[.string y, .int .i64 (v : Int)]) (by simp [results, Tryd.results14, go_sem, s0, s1]) rfl ⟨⟨_, _, rfl, by omega, by omega, by omega⟩, ⟨p8, by omega, za HRZ⟩, za HKZ⟩
 ·have hz' := zF hz
  have hy : x.size ≤ 12000 := by omega
  clear hz
  go_wp2_with fail
  refine (zu g p3 n cap a 20 _ (za HR) (by omega) (by omega)).mono ?_
  rintro e w6 ⟨⟨z6, rfl, _⟩, ⟨p6, hp6, hr6⟩, hk6⟩
  replace HN := hide ((za HN).keeps hk6 (by omega))
  replace HK := hide ((za HK).trans hk6)
  replace HR := hide hr6
  have e1 := wi64 ((x.size : Int) + 1) (by omega) (by omega)
  clear hr6 hk6
  by_cases hz6 : (z6 : Int) = 0
  ·have hz6' := qo hz6
   have HL := hide (AtC2.new w6 (.int .i64 (-1)) (.int .i64 ((x.size : Int) + 1)) 3)
   have HR6 := hide ((za HR).alloc (.cells #[.int .i64 (-1), .int .i64 ((x.size : Int) + 1)] 3))
   have HK6 := hide ((za HK).alloc (.cells #[.int .i64 (-1), .int .i64 ((x.size : Int) + 1)] 3))
   have HN6 := hide ((za HN).alloc (.cells #[.int .i64 (-1), .int .i64 ((x.size : Int) + 1)] 3))
   have hw6 : g < w6.heap.size := Nat.lt_of_lt_of_le hlt (za HK).size
   clear hz6
   go_wp2_with fail
   refine (zu g p6 n cap a 2 _ (za HR6) (by omega) (by omega)).mono ?_
   rintro e w7 ⟨⟨i, rfl, hi⟩, ⟨p7, hp7, hr7⟩, hk7⟩
   have hi2 : i = 0 ∨ i = 1 := by rcases hi with h | h <;> omega
   replace HN := hide ((za HN6).keeps hk7 (by omega))
   replace HK := hide ((za HK6).trans hk7)
   replace HL := hide ((za HL).keeps hk7 (by omega))
   replace HR := hide hr7
   have b0 := (za HL).n0
   have b1 := (za HL).n1
   have n0 := (za HN).n0
   have n1 := (za HN).n1
   have f0 := (za HN).f 0
   have f1 := (za HN).f 1
   clear hr7 hk7 hi HR6 HK6 HN6
   rcases hi2 with rfl | rfl
   ·go_wp2_with fail
    have hN := za HN
    have HS := hide ((hN.st0 (.string x)).st1 (.int .i64 (-1)))
    have s0 := AtC2.n0 (za HS)
    have s1 := AtC2.n1 (za HS)
    have HRZ := hide ((za HR).from (B := w.heap.size) hlt (((Below.refl w.heap.size w7).setCell (p := ⟨w.heap.size, 0, none⟩) (Nat.le_refl _) (.string x)).setCell (p := ⟨w.heap.size, 1, none⟩) (Nat.le_refl _) (.int .i64 (-1))))
    have HKZ := hide (((za HK).setNew (p := ⟨w.heap.size, 0, none⟩) (Nat.le_refl _) (.string x)).setNew (p := ⟨w.heap.size, 1, none⟩) (Nat.le_refl _) (.int .i64 (-1)))
    clear hN
    refine bodyPost_ret (v := .agg #[.string x, .int .i64 (-1)]) (by simp [results, Tryd.results14, go_sem, s0, s1]) rfl ⟨⟨_, _, rfl, by omega, by omega, by omega⟩, ⟨p7, by omega, za HRZ⟩, za HKZ⟩
   ·go_wp2_with fail
    have hN := za HN
    have HS := hide ((hN.st0 (.string x)).st1 (.int .i64 ((x.size : Int) + 1)))
    have s0 := AtC2.n0 (za HS)
    have s1 := AtC2.n1 (za HS)
    have HRZ := hide ((za HR).from (B := w.heap.size) hlt (((Below.refl w.heap.size w7).setCell (p := ⟨w.heap.size, 0, none⟩) (Nat.le_refl _) (.string x)).setCell (p := ⟨w.heap.size, 1, none⟩) (Nat.le_refl _) (.int .i64 ((x.size : Int) + 1))))
    have HKZ := hide (((za HK).setNew (p := ⟨w.heap.size, 0, none⟩) (Nat.le_refl _) (.string x)).setNew (p := ⟨w.heap.size, 1, none⟩) (Nat.le_refl _) (.int .i64 ((x.size : Int) + 1)))
    clear hN
    refine bodyPost_ret (v := .agg #[.string x, .int .i64 ((x.size : Int) + 1)]) (by simp [results, Tryd.results14, go_sem, s0, s1]) rfl ⟨⟨_, _, rfl, by omega, by omega, by omega⟩, ⟨p7, by omega, za HRZ⟩, za HKZ⟩
  ·have hz6' := zF hz6
   clear hz6
   go_wp2_with fail
   refine (zu g p6 n cap a ((x.size : Int) + 1) _ (za HR) (by omega) (by omega)).mono ?_
   rintro e w7 ⟨⟨i, rfl, hi⟩, ⟨p7, hp7, hr7⟩, hk7⟩
   have hi2 : i ≤ x.size := by rcases hi with h | h <;> omega
   replace HN := hide ((za HN).keeps hk7 (by omega))
   replace HK := hide ((za HK).trans hk7)
   replace HR := hide hr7
   clear hr7 hk7 hi
   go_wp2_with fail
   refine (zu g p7 n cap a 2 _ (za HR) (by omega) (by omega)).mono ?_
   rintro e w8 ⟨⟨j, rfl, hj⟩, ⟨p8, hp8, hr8⟩, hk8⟩
   have hj2 : j = 0 ∨ j = 1 := by rcases hj with h | h <;> omega
   replace HN := hide ((za HN).keeps hk8 (by omega))
   replace HK := hide ((za HK).trans hk8)
   replace HR := hide hr8
   have n0 := (za HN).n0
   have n1 := (za HN).n1
   have f0 := (za HN).f 0
   have f1 := (za HN).f 1
   obtain ⟨v, hv⟩ : ∃ v : Nat, (i : Int) * (j : Int) = (v : Int) := ⟨i * j, by simp⟩
   have hv2 : v ≤ x.size := by rcases hj2 with rfl | rfl <;> omega
   have e2 := wi64 (v : Int) (by omega) (by omega)
   rw [← hv] at e2
   clear hr8 hk8 hj hj2
   go_wp2_with fail
   have hN := za HN
   have HS := hide ((hN.st0 (.string x)).st1 (.int .i64 (v : Int)))
   have s0 := AtC2.n0 (za HS)
   have s1 := AtC2.n1 (za HS)
   have HRZ := hide ((za HR).from (B := w.heap.size) hlt (((Below.refl w.heap.size w8).setCell (p := ⟨w.heap.size, 0, none⟩) (Nat.le_refl _) (.string x)).setCell (p := ⟨w.heap.size, 1, none⟩) (Nat.le_refl _) (.int .i64 (v : Int))))
   have HKZ := hide (((za HK).setNew (p := ⟨w.heap.size, 0, none⟩) (Nat.le_refl _) (.string x)).setNew (p := ⟨w.heap.size, 1, none⟩) (Nat.le_refl _) (.int .i64 (v : Int)))
   clear hN
   refine bodyPost_ret (v := .agg #[.string x, .int .i64 (v : Int)]) (by simp [results, Tryd.results14, go_sem, s0, s1]) rfl ⟨⟨_, _, rfl, by omega, by omega, by omega⟩, ⟨p8, by omega, za HRZ⟩, za HKZ⟩
theorem vI (a : Option Addr) (n cap : Nat) (w : World) (h : Bytes0 w a n) (hcap : n ≤ cap) (hmax : cap ≤ maxLen) :
  Calls Tryd.prog 6 #[.slice a n cap] w fun e w' => (∃ (s : ByteArray) (v : Int), e = .returned (.agg #[.string s, .int .i64 v]) ∧ s.size ≤ 12000 ∧ -1 ≤ v ∧ v ≤ 12001) ∧ Below w.heap.size w w' := by
 have HA := hide (h.below ((Below.refl _ _).alloc (Nat.le_refl _) (.cells #[.string ⟨#[]⟩, .int .i64 0] 24)))
 have HN := hide (AtC2.new w (.string ⟨#[]⟩) (.int .i64 0) 24)
 have HB := hide (zh (Below.refl w.heap.size w) (.cells #[.string ⟨#[]⟩, .int .i64 0] 24))
 clear h
 go_enter Tryd.func6, Tryd.ntmps6
 go_wp2_with fail
 refine (xU a n cap _ (za HA) hcap hmax).mono ?_
 rintro e w1 ⟨rfl, ⟨m, hm, hr1⟩, hb1⟩
 have HR1 := hide hr1
 have HB1 := hide (zi (za HB) hb1)
 have HN1 := hide ((za HN).below hb1)
 have hz : (w.alloc (.cells #[.string ⟨#[]⟩, .int .i64 0] 24)).heap.size = w.heap.size + 1 := by simp
 have hlt1 := hr1.lt
 clear hr1 hb1 HB HN
 rw [hz] at HR1 hlt1 ⊢
 go_wp2_with fail
 refine (xl (w.heap.size + 1) 0 m cap a w1 (za HR1) (by omega)).mono ?_
 rintro e w2 ⟨⟨s, v, rfl, hs, hv1, hv2⟩, ⟨p2, hp2, hr2⟩, hk2⟩
 have hB2 := (za HB1).trans (hk2.below (B := w.heap.size) (by omega) (za HB1).size)
 have HB2 := hide hB2
 have HN2 := hide ((za HN1).keeps hk2 (by omega))
 have n0 := (za HN2).n0
 have n1 := (za HN2).n1
 have f0 := (za HN2).f 0
 have f1 := (za HN2).f 1
 clear hr2 hk2 hB2
 go_wp2_with fail
 have HS := hide (((za HN2).st0 (.string s)).st1 (.int .i64 v))
 have s0 := AtC2.n0 (za HS)
 have s1 := AtC2.n1 (za HS)
 have HZ := hide (((za HB2).setCell (p := ⟨w.heap.size, 0, none⟩) (Nat.le_refl _) (.string s)).setCell (p := ⟨w.heap.size, 1, none⟩) (Nat.le_refl _) (.int .i64 v))
 refine bodyPost_ret (v := .agg #[.string s, .int .i64 v]) (by simp [results, Tryd.results6, go_sem, s0, s1]) rfl ⟨⟨_, _, rfl, hs, hv1, hv2⟩, za HZ⟩
end Go.Proofs.YtnenoaenjaghhaaDoor
namespace Go.Proofs.YtnenoaenjaghhaaDoor
open Go.Shelf
def Tryd.laysM316_ren : Go.Shelf.Ren := ⟨fun | 316 => 29 | n => n, fun | 9 => 9 | 3 => 3 | 4 => 4 | 37 => 22 | 0 => 0 | 127 => 73 | 5 => 5 | n => n, fun | n => n⟩
theorem Tryd.laysM316 : Go.Proofs.LaysM.n316 Tryd.prog Tryd.laysM316_ren := {
 mixed := by kernel_rfl
 f316 := Tryd.func29.trans (congrArg some (by kernel_rfl))
 t0 := Tryd.underlying0
 a0 := Tryd.isAgg0
 z0 := Tryd.sizeOf0
 v0 := Tryd.zeroValue0
 t3 := Tryd.underlying3
 a3 := Tryd.isAgg3
 z3 := Tryd.sizeOf3
 v3 := Tryd.zeroValue3
 t4 := Tryd.underlying4
 a4 := Tryd.isAgg4
 z4 := Tryd.sizeOf4
 v4 := Tryd.zeroValue4
 t9 := Tryd.underlying9
 a9 := Tryd.isAgg9
 z9 := Tryd.sizeOf9
 v9 := Tryd.zeroValue9
 t37 := Tryd.underlying22
 a37 := Tryd.isAgg22
 z37 := Tryd.sizeOf22
 v37 := Tryd.zeroValue22
 t127 := Tryd.underlying73
 a127 := Tryd.isAgg73
 z127 := Tryd.sizeOf73
 v127 := Tryd.zeroValue73
 t5 := Tryd.underlying5
 a5 := Tryd.isAgg5
 z5 := Tryd.sizeOf5
 v5 := Tryd.zeroValue5
 i0 := by kernel_rfl
 i3 := by kernel_rfl
 i4 := by kernel_rfl
 i5 := by kernel_rfl
 i9 := by kernel_rfl
 i37 := by kernel_rfl
 i127 := by kernel_rfl }
open Go.RowKit in
theorem Tryd.stringslite_Clone (s : ByteArray) (w : World) (hlim : s.size ≤ 281474976710656) :
  Calls Tryd.prog 29 #[.string s] w fun e w' => e = .returned (.string s) ∧ Below w.heap.size w w' := Any.stringslite_Clone Tryd.laysM316 s w hlim
def Tryd.lays260_ren : Go.Shelf.Ren := ⟨fun | 260 => 36 | n => n, fun | 9 => 9 | 21 => 21 | 3 => 3 | 4 => 4 | 5 => 5 | 119 => 78 | 0 => 0 | 46 => 79 | 139 => 82 | 138 => 81 | n => n, fun | 3 => 0 | 4 => 1 | n => n⟩
theorem Tryd.lays260 : Go.Proofs.Lays.n260 Tryd.prog Tryd.lays260_ren := {
 mixed := by kernel_rfl
 f260 := Tryd.func36.trans (congrArg some (by kernel_rfl))
 t0 := Tryd.underlying0
 a0 := Tryd.isAgg0
 z0 := Tryd.sizeOf0
 v0 := Tryd.zeroValue0
 t3 := Tryd.underlying3
 a3 := Tryd.isAgg3
 z3 := Tryd.sizeOf3
 v3 := Tryd.zeroValue3
 t4 := Tryd.underlying4
 a4 := Tryd.isAgg4
 z4 := Tryd.sizeOf4
 v4 := Tryd.zeroValue4
 t5 := Tryd.underlying5
 a5 := Tryd.isAgg5
 z5 := Tryd.sizeOf5
 v5 := Tryd.zeroValue5
 t9 := Tryd.underlying9
 a9 := Tryd.isAgg9
 z9 := Tryd.sizeOf9
 v9 := Tryd.zeroValue9
 t21 := Tryd.underlying21
 a21 := Tryd.isAgg21
 z21 := Tryd.sizeOf21
 v21 := Tryd.zeroValue21
 t46 := Tryd.underlying79
 a46 := Tryd.isAgg79
 z46 := Tryd.sizeOf79
 v46 := Tryd.zeroValue79
 t119 := Tryd.underlying78
 a119 := Tryd.isAgg78
 z119 := Tryd.sizeOf78
 t138 := Tryd.underlying81
 a138 := Tryd.isAgg81
 z138 := Tryd.sizeOf81
 v138 := Tryd.zeroValue81
 t139 := Tryd.underlying82
 a139 := Tryd.isAgg82
 z139 := Tryd.sizeOf82
 v139 := Tryd.zeroValue82
 g3 := by kernel_rfl
 g4 := by kernel_rfl }
def Tryd.lays197_ren : Go.Shelf.Ren := ⟨fun | 197 => 27 | 260 => 36 | n => n, fun | 9 => 9 | 21 => 21 | 3 => 3 | 4 => 4 | 5 => 5 | 105 => 62 | 119 => 78 | 0 => 0 | 46 => 79 | 139 => 82 | 138 => 81 | n => n, fun | 3 => 0 | 4 => 1 | n => n⟩
theorem Tryd.lays197 : Go.Proofs.Lays.n197 Tryd.prog Tryd.lays197_ren := {
 mixed := by kernel_rfl
 f197 := Tryd.func27.trans (congrArg some (by kernel_rfl))
 f260 := Tryd.func36.trans (congrArg some (by kernel_rfl))
 t0 := Tryd.underlying0
 a0 := Tryd.isAgg0
 z0 := Tryd.sizeOf0
 v0 := Tryd.zeroValue0
 t3 := Tryd.underlying3
 a3 := Tryd.isAgg3
 z3 := Tryd.sizeOf3
 v3 := Tryd.zeroValue3
 t4 := Tryd.underlying4
 a4 := Tryd.isAgg4
 z4 := Tryd.sizeOf4
 v4 := Tryd.zeroValue4
 t5 := Tryd.underlying5
 a5 := Tryd.isAgg5
 z5 := Tryd.sizeOf5
 v5 := Tryd.zeroValue5
 t9 := Tryd.underlying9
 a9 := Tryd.isAgg9
 z9 := Tryd.sizeOf9
 v9 := Tryd.zeroValue9
 t21 := Tryd.underlying21
 a21 := Tryd.isAgg21
 z21 := Tryd.sizeOf21
 v21 := Tryd.zeroValue21
 t46 := Tryd.underlying79
 a46 := Tryd.isAgg79
 z46 := Tryd.sizeOf79
 v46 := Tryd.zeroValue79
 t105 := Tryd.underlying62
 a105 := Tryd.isAgg62
 z105 := Tryd.sizeOf62
 v105 := Tryd.zeroValue62
 t119 := Tryd.underlying78
 a119 := Tryd.isAgg78
 z119 := Tryd.sizeOf78
 t138 := Tryd.underlying81
 a138 := Tryd.isAgg81
 z138 := Tryd.sizeOf81
 v138 := Tryd.zeroValue81
 t139 := Tryd.underlying82
 a139 := Tryd.isAgg82
 z139 := Tryd.sizeOf82
 v139 := Tryd.zeroValue82
 g3 := by kernel_rfl
 g4 := by kernel_rfl }
open Go.RowKit Go.Lib in
theorem Tryd.utf8_DecodeRuneInString (s : ByteArray) (w : World) (hT : Lib.Utf8Tabs 0 1 w) :
  Calls Tryd.prog 27 #[.string s] w fun e w' => e = .returned (.tuple #[.int .i32 (Lib.decodeGo s).1, .int .i64 (Lib.decodeGo s).2]) ∧ Below w.heap.size w w' := Any.utf8_DecodeRuneInString Tryd.lays197 s w hT
end Go.Proofs.YtnenoaenjaghhaaDoor
namespace Go.Proofs.YtnenoaenjaghhaaDoor
open Go.RowKit Nt
def Tabs (w : World) : Prop := Lib.Utf8Tabs 0 1 w
theorem Tabs.below {B : Nat} {w w' : World} (h : Tabs w) (hB : 1 < B) (k : Below B w w') : Tabs w' := by
 refine ⟨fun c hc => ?_, fun i hi => ⟨?_, ?_⟩⟩
 ·exact (k.cell (p := ⟨_, c, none⟩) (by show 0 < B; omega)).trans (h.1 c hc)
 ·exact (k.cell (p := ⟨_, 2 * i, none⟩) (by show 1 < B; omega)).trans (h.2 i hi).1
 ·exact (k.cell (p := ⟨_, 2 * i + 1, none⟩) (by show 1 < B; omega)).trans (h.2 i hi).2
def Reader (w : World) (b a : Nat) (t : ByteArray) : Prop := AtC2 w b (.int .i64 a) (.string t) 45
theorem Z3 (b a : Nat) (t : ByteArray) (w : World) (ha : a ≤ t.size) (hb : Reader w b a t) :
  Calls Tryd.prog 28 #[.pointer (some ⟨b, 0, none⟩)] w fun e w' => e = .returned (.string (t.extract a t.size)) ∧ Below w.heap.size w w' := by
 have d0 := AtC2.n0 hb
 have d1 := AtC2.n1 hb
 have h1 : ¬ ((t.size : Int) < a) := by omega
 have h2 : ¬ ((a : Int) < 0) := by omega
 have HB := hide (zV w)
 clear hb
 go_enter Tryd.func28, Tryd.ntmps28
 go_wp2
 go_quiet (fail)
 go_wp2
 go_ret
 exact ⟨rfl, za HB _⟩
theorem jA (b a : Nat) (t : ByteArray) (w : World) (hb : Reader w b a t) :
  Calls Tryd.prog 32 #[.pointer (some ⟨b, 0, none⟩)] w fun e w' => e = .returned (.bool (decide (a = t.size))) ∧ Below w.heap.size w w' := by
 have d0 := AtC2.n0 hb
 have d1 := AtC2.n1 hb
 have HB := hide (zV w)
 have HE : Hid (((a : Int) == (t.size : Int)) = decide (a = t.size)) := hide (by
  rw [Bool.eq_iff_iff]; simp; omega)
 clear hb
 go_enter Tryd.func32, Tryd.ntmps32
 go_wp2
 go_quiet (fail)
 go_wp2
 go_ret
 exact ⟨zr (za HE), za HB _⟩
theorem x3 (b a : Nat) (t : ByteArray) (w : World) (ht : t.size ≤ 1048576) (ha : a ≤ t.size) (hb : Reader w b a t) (hT : Tabs w) (h1 : 1 < w.heap.size) :
  Calls Tryd.prog 17 #[.pointer (some ⟨b, 0, none⟩)] w fun e w' => e = .returned (.int .i32 (Lib.decodeGo (t.extract a t.size)).1) ∧ Reader w' b (a + (Lib.decodeGo (t.extract a t.size)).2) t ∧ Kept (· = b) w w' := by
 have HR := hide hb
 have HT := hide hT
 have hz : (t.extract a t.size).size = t.size - a := by simp
 have hw : (Lib.decodeGo (t.extract a t.size)).2 ≤ t.size - a := by
  unfold Lib.decodeGo
  by_cases h0 : (t.extract a t.size).size = 0
  ·rw [if_pos h0]; exact Nat.zero_le _
  ·rw [if_neg h0]; have := (vR _ (by omega : 0 < (t.extract a t.size).size)).2.1; omega
 obtain ⟨r, hr⟩ : ∃ r, t.extract a t.size = r := ⟨_, rfl⟩
 have HL := hide (Z3 b a t w ha hb)
 rw [hr] at hw HL ⊢
 have HC := hide (fun w1 h => Tryd.utf8_DecodeRuneInString r w1 h)
 obtain ⟨k, hk⟩ : ∃ k, (Lib.decodeGo r).2 = k := ⟨_, rfl⟩
 rw [hk] at hw HC ⊢
 clear hb hT hz hr hk
 go_enter Tryd.func17, Tryd.ntmps17
 go_wp2_with fail
 refine (za HL).mono ?_
 rintro e w1 ⟨rfl, hb1⟩
 have HR1 := hide (AtC2.below (za HR) hb1)
 have HT1 := hide ((za HT).below h1 hb1)
 have HB1 := hide hb1
 clear hb1 HL
 go_wp2_with fail
 refine (za HC w1 (za HT1)).mono ?_
 rintro e w2 ⟨rfl, hb2⟩
 have HR2 := hide (AtC2.below (za HR1) hb2)
 have HB2 := hide (zi (za HB1) hb2)
 have d0 := AtC2.n0 (za HR2)
 have f0 := AtC2.f (za HR2) 0
 have HE : Hid (∀ k : Nat, (a : Int) + (k : Int) = ((a + k : Nat) : Int)) := hide (fun k => by omega)
 clear hb2 HR1 HT1 HB1
 go_wp2
 go_ret
 refine ⟨rfl, ?_, ?_⟩
 ·have := AtC2.st0 (za HR2) (.int .i64 ((a + k : Nat) : Int))
  rw [← za HE] at this
  exact this
 ·exact (Kept.of_below (za HB2)).trans (Kept.set (S := (· = b)) (a := ⟨b, 0, none⟩) rfl _)
theorem v8 (t : ByteArray) (w : World) (ht : t.size ≤ 1048576) :
  Calls Tryd.prog 18 #[.string t] w fun e w' => e = .returned (.string t) ∧ Below w.heap.size w w' := by
 have HC := hide (Tryd.stringslite_Clone t w (by omega))
 go_enter Tryd.func18, Tryd.ntmps18
 go_wp2_with fail
 refine (za HC).mono ?_
 rintro e w1 ⟨rfl, hb1⟩
 have HB := hide hb1
 clear hb1
 go_wp2
 go_ret
 exact ⟨rfl, za HB⟩
theorem Ze {v : Value} {a b : Bool} (h : a = b) : Ending.returned (.tuple #[v, .bool a]) = .returned (.tuple #[v, .bool b]) := by rw [h]
theorem qU (t : ByteArray) (p : Int) (w : World) :
  Calls Tryd.prog 16 #[.agg #[.string t, .int .i64 p]] w fun e w' => e = .returned (.tuple #[.pointer (some ⟨w.heap.size + 1, 0, none⟩), .bool (decide (0 ≤ p ∧ p ≤ t.size))]) ∧ AtC2 w' (w.heap.size + 1) (.int .i64 p) (.string t) 45 ∧ Below w.heap.size w w' := by
 have HW := hide (zh (zh (Below.refl w.heap.size w) (.cells #[.string t, .int .i64 p] 24)) (.cells #[.int .i64 p, .string t] 45))
 have HN := hide (AtC2.new (w.alloc (.cells #[.string t, .int .i64 p] 24)) (.int .i64 p) (.string t) 45)
 rw [World.size_alloc] at HN
 have HD := hide (zV ((w.alloc (.cells #[.string t, .int .i64 p] 24)).alloc (.cells #[.int .i64 p, .string t] 45)))
 by_cases h0 : 0 ≤ p
 ·have HE : Hid (decide (p ≤ t.size) = decide (0 ≤ p ∧ p ≤ t.size)) := hide (by simp [h0])
  go_enter Tryd.func16, Tryd.ntmps16
  go_wp2
  go_quiet (fail)
  go_wp2
  go_ret2
  exact ⟨Ze (za HE), AtC2.below (za HN) (za HD _), zi (za HW) (za HD _)⟩
 ·have hd : decide (0 ≤ p) = false := by simpa using h0
  have HE : Hid (decide (0 ≤ p ∧ p ≤ t.size) = false) := hide (by simp [h0])
  go_enter Tryd.func16, Tryd.ntmps16
  go_wp2
  go_quiet (fail)
  go_wp2
  go_ret2
  exact ⟨Ze (za HE).symm, AtC2.below (za HN) (za HD _), zi (za HW) (za HD _)⟩
theorem Za (b a : Nat) (t : ByteArray) (w : World) (ht : t.size ≤ 1048576) (hb : Reader w b a t) :
  Calls Tryd.prog 19 #[.pointer (some ⟨b, 0, none⟩)] w fun e w' => e = .returned (.agg #[.string t, .int .i64 a]) ∧ Below w.heap.size w w' := by
 have HR1 := hide (AtC2.alloc hb (.cells #[.string ⟨#[]⟩, .int .i64 0] 24))
 have HP1 := hide (AtC2.new w (.string ⟨#[]⟩) (.int .i64 0) 24)
 have HB1 := hide (zh (Below.refl w.heap.size w) (.cells #[.string ⟨#[]⟩, .int .i64 0] 24))
 clear hb
 go_enter Tryd.func19, Tryd.ntmps19
 go_wp2_with fail
 obtain ⟨W, hW⟩ : ∃ W, w.alloc (.cells #[.string ⟨#[]⟩, .int .i64 0] 24) = W := ⟨_, rfl⟩
 rw [hW] at HR1 HP1 HB1 ⊢
 clear hW
 have d0 := AtC2.n0 (za HR1)
 have d1 := AtC2.n1 (za HR1)
 have p0 := AtC2.f (za HP1) 0
 go_region_with ((go_at_call 18; refine (v8 t _ ht).mono ?_; rintro e w1 ⟨rfl, hb1⟩; have HB2 : Hid (Below W.heap.size W w1) := (Below.refl _ _).drew.trans hb1; have e0 := AtC2.n0 ((za HR1).below (za HB2)); have e1 := AtC2.n1 ((za HR1).below (za HB2)); have HP2 := hide ((za HP1).below (za HB2)); have q0 := AtC2.f (za HP2) 0; have q1 := AtC2.f (za HP2) 1; have q2 := AtC2.n0 (za HP2); have q3 := AtC2.n1 (za HP2); clear hb1))
 all_goals
  have HS := hide (((za HP2).st0 (.string t)).st1 (.int .i64 a))
  have s0 := AtC2.n0 (za HS)
  have s1 := AtC2.n1 (za HS)
  have HZ := hide ((((za HB1).trans ((za HB2).mono (za HB1).size)).setCell (p := ⟨w.heap.size, 0, none⟩) (Nat.le_refl _) (.string t)).setCell (p := ⟨w.heap.size, 1, none⟩) (Nat.le_refl _) (.int .i64 a))
  go_wp2
  refine bodyPost_ret (v := .agg #[.string t, .int .i64 a]) (by simp [results, Tryd.results19, go_sem, s0, s1]) rfl ⟨rfl, ?_⟩
  exact za HZ
theorem qE (t : ByteArray) (p : Int) (w : World) :
  Calls Tryd.prog 20 #[.agg #[.string t, .int .i64 p]] w fun e w' => e = .returned (.bool (decide (0 ≤ p ∧ p ≤ t.size))) ∧ Below w.heap.size w w' := by
 have HW := hide (zh (Below.refl w.heap.size w) (.cells #[.string t, .int .i64 p] 24))
 by_cases h0 : 0 ≤ p
 ·by_cases h1 : p ≤ t.size
  ·have HE : Hid (decide (0 ≤ p ∧ p ≤ (t.size : Int)) = true) := hide (by simp [h0, h1])
   go_enter Tryd.func20, Tryd.ntmps20
   go_wp2
   go_ret
   exact ⟨zr (by first | exact (za HE).symm | (simp; done) | (simp; omega)), za HW⟩
  ·have HE : Hid (decide (0 ≤ p ∧ p ≤ (t.size : Int)) = false) := hide (by simp; omega)
   go_enter Tryd.func20, Tryd.ntmps20
   go_wp2
   go_ret
   exact ⟨zr (by first | exact (za HE).symm | (simp; done) | (simp; omega)), za HW⟩
 ·have HE : Hid (decide (0 ≤ p ∧ p ≤ (t.size : Int)) = false) := hide (by simp; omega)
  go_enter Tryd.func20, Tryd.ntmps20
  go_wp2
  go_ret
  exact ⟨zr (by first | exact (za HE).symm | (simp; done) | (simp; omega)), za HW⟩
theorem xf (s : ByteArray) (j : Nat) (w : World) (hs : s.size ≤ 1048576) (hj : IsLine s 0 j) :
  Calls Tryd.prog 23 #[.string s, .int .i64 0] w fun e w' => e = .returned (.int .i64 j) ∧ w' = w := by
 have HJ := hide hj
 have hhi := hj.hi
 clear hj
 go_enter Tryd.func23, Tryd.ntmps23
 go_wp2
 go_loop [1] (fun i => ∃ k : Nat, k ≤ j ∧ i = .int .i64 k) (fun i => s.size - (intOf i).toNat)
 case atStart => exact ⟨0, Nat.zero_le _, rfl⟩
 case round =>
  obtain ⟨k, hk, rfl⟩ := hrel
  by_cases hlt : k < s.size
  ·by_cases hkj : k < j
   ·have h10 : ¬ ((s[k].toNat : Int) = 10) := by
     have := (za HJ).no k (Nat.zero_le _) hkj
     rw [qP s k hlt] at this
     omega
    go_wp2
    go_round
    case rel => exact ⟨k + 1, by omega, by go_num⟩
    case measure => simp [intOf]; omega
   ·obtain rfl : k = j := by omega
    have h10 : (s[k].toNat : Int) = 10 := by
     have := (za HJ).nl hlt
     rw [qP s k hlt] at this
     omega
    go_wp2
    go_ret
    exact ⟨rfl, rfl⟩
  ·obtain rfl : k = j := by omega
   go_wp2
   go_ret
   exact ⟨rfl, rfl⟩
theorem jR (t : ByteArray) (k : Nat) (hk : k < t.size) : 1 ≤ (Lib.decodeGo (t.extract k t.size)).2 ∧ k + (Lib.decodeGo (t.extract k t.size)).2 ≤ t.size ∧
  ((Lib.decodeGo (t.extract k t.size)).1 = 10 → (Lib.decodeGo (t.extract k t.size)).2 = 1 ∧ (t.get! k).toNat = 10) ∧
  ((Lib.decodeGo (t.extract k t.size)).1 ≠ 10 → ∀ i, k ≤ i → i < k + (Lib.decodeGo (t.extract k t.size)).2 → (t.get! i).toNat ≠ 10) := by
 have hz : (t.extract k t.size).size = t.size - k := by simp
 obtain ⟨h1, h2, h3, h4⟩ := vR (t.extract k t.size) (by omega)
 have e : Lib.decodeGo (t.extract k t.size) = Utf8.decode (t.extract k t.size) 0 := by unfold Lib.decodeGo; rw [if_neg (by omega)]
 rw [e]
 refine ⟨h1, by omega, fun h => ⟨(h3 h).1, ?_⟩, fun h i a b => ?_⟩
 ·have := (h3 h).2
  rwa [jU t k 0 (by omega)] at this
 ·have := h4 h (i - k) (by omega)
  rwa [jU t k (i - k) (by omega), show k + (i - k) = i by omega] at this
theorem Zm {t : ByteArray} {a j k : Nat} (h : IsLine t a j) (h1 : a ≤ k) (h2 : k < j) : (Lib.decodeGo (t.extract k t.size)).1 ≠ 10 ∧ 1 ≤ (Lib.decodeGo (t.extract k t.size)).2 ∧ k + (Lib.decodeGo (t.extract k t.size)).2 ≤ j := by
 have hj := h.hi
 obtain ⟨c1, c2, c3, c4⟩ := jR t k (by omega)
 have hn : (Lib.decodeGo (t.extract k t.size)).1 ≠ 10 := fun e => h.no k h1 h2 (c3 e).2
 refine ⟨hn, c1, ?_⟩
 by_cases hc : k + (Lib.decodeGo (t.extract k t.size)).2 ≤ j
 ·exact hc
 ·exact absurd (h.nl (by omega)) (c4 hn j (by omega) (by omega))
theorem Zn {t : ByteArray} {a j : Nat} (h : IsLine t a j) (h2 : j < t.size) : (Lib.decodeGo (t.extract j t.size)).1 = 10 ∧ (Lib.decodeGo (t.extract j t.size)).2 = 1 := by
 obtain ⟨c1, c2, c3, c4⟩ := jR t j h2
 have : (Lib.decodeGo (t.extract j t.size)).1 = 10 := by
  refine Decidable.byContradiction fun e => c4 e j (Nat.le_refl _) (by omega) (h.nl h2)
 exact ⟨this, (c3 this).1⟩
def nxt (t : ByteArray) (j : Nat) : Nat := if j < t.size then j + 1 else j
def posOf (w : World) (b : Nat) : Nat := match w.cell? ⟨b, 0, none⟩ with | some v => (intOf v).toNat | none => 0
theorem yS {w : World} {b a : Nat} {t : ByteArray} (h : Reader w b a t) : posOf w b = a := by
 unfold posOf; rw [AtC2.n0 h]; simp [intOf]
theorem Reader.below {w w' : World} {b a : Nat} {t : ByteArray} (h : Reader w b a t) (k : Below w.heap.size w w') : Reader w' b a t := AtC2.below h k
theorem ZA (b : Nat) (w : World) :
  Calls Tryd.prog 22 #[.pointer (some ⟨b, 0, none⟩)] w fun e w' => e = .returned (.func (.func 31) #[] #[.pointer (some ⟨w.heap.size, 0, none⟩)]) ∧ w' = w.alloc (.cells #[.pointer (some ⟨b, 0, none⟩)] 39) := by
 go_enter Tryd.func22, Tryd.ntmps22
 go_wp2
 go_ret
 exact ⟨rfl, rfl⟩
theorem Tabs.kept {b : Nat} {w w' : World} (h : Tabs w) (hb : 1 < b) (hs : b ≤ w.heap.size) (k : Kept (· = b) w w') : Tabs w' := h.below hb (k.below hs fun _ e => by omega)
theorem jd {S : Nat → Prop} {w w' : World} (k : Kept S w w') {a : Addr} {v : Value} (h : w.cell? a = some v) (hs : ¬ S a.block) : w'.cell? a = some v := by
 rw [World.cell?_of_block (k.block a.block (block_lt_of_cell h) hs)]; exact h
theorem Z4 (x b a j : Nat) (t : ByteArray) (w : World) (ht : t.size ≤ 1048576) (ha : a < t.size) (hl : IsLine t a j) (hb : Reader w b a t) (hx : w.cell? ⟨x, 0, none⟩ = some (.pointer (some ⟨b, 0, none⟩))) (hxb : x ≠ b) (hT : Tabs w) (h1 : 1 < b) :
  Calls Tryd.prog 31 #[.pointer (some ⟨x, 0, none⟩)] w fun e w' => e = .returned (.tuple #[.string (t.extract a j), .bool true]) ∧ Reader w' b (nxt t j) t ∧ Kept (· = b) w w' := by
 have HL := hide hl
 have HR := hide hb
 have HT := hide hT
 have HX := hide hx
 have hne : decide (a = t.size) = false := by simp; omega
 have hlo := hl.lo
 have hhi := hl.hi
 clear hb hT hl
 go_enter Tryd.func31, Tryd.ntmps31
 go_wp2_with fail
 refine (jA b a t w (za HR)).mono ?_
 rintro e w1 ⟨rfl, hb1⟩
 rw [hne]
 have HK1 := hide (Kept.of_below (S := (· = b)) hb1)
 have HR1 := hide ((za HR).below hb1)
 have x1 := jd (za HK1) hx hxb
 have r0 := AtC2.n0 (za HR1)
 have HT1 := hide ((za HT).kept h1 (Nat.le_of_lt (AtC2.lt (za HR))) (za HK1))
 clear hb1 hx hne
 go_wp2_with fail
 clear x1 r0
 go_loopw [4] (fun _ wr => ∃ k : Nat, a ≤ k ∧ k ≤ j ∧ Hid (Reader wr b k t) ∧ Hid (Kept (· = b) w wr)) (fun _ wr => t.size - posOf wr b)
 case atStart => exact ⟨a, Nat.le_refl _, hlo, HR1, HK1⟩
 case round =>
  obtain ⟨k, hk1, hk2, HRk, HKk⟩ := hrel
  have hxk := jd (za HKk) (za HX) hxb
  have hbl := Nat.le_of_lt (AtC2.lt (za HR))
  have HTk := hide ((za HT).kept h1 hbl (za HKk))
  have hpos := yS (za HRk)
  have HPOS := hide hpos
  clear hpos
  go_wp2_with fail
  refine (jA b k t wr (za HRk)).mono ?_
  rintro e w2 ⟨rfl, hb2⟩
  have HKe := hide ((za HKk).trans (Kept.of_below hb2))
  have HRe := hide ((za HRk).below hb2)
  have hxe := jd (za HKe) (za HX) hxb
  have HTe := hide ((za HT).kept h1 hbl (za HKe))
  have r0 := AtC2.n0 (za HRe)
  have r1 := AtC2.n1 (za HRe)
  clear hb2 hxk
  by_cases hend : k = t.size
  ·have hj : j = t.size := by omega
   have hd : decide (k = t.size) = true := by simpa using hend
   rw [hd]
   subst hend
   subst hj
   have HQ : Hid (Reader w2 b (nxt t t.size) t) := hide (by unfold nxt; rw [if_neg (by omega)]; exact za HRe)
   go_wp2_with fail
   go_ret2
   exact ⟨rfl, za HQ, za HKe⟩
  ·have hd : decide (k = t.size) = false := by simpa using hend
   rw [hd]
   have hkl : k < t.size := by omega
   clear hend hd
   go_wp2_with fail
   have h := x3 b k t w2 ht (by omega) (za HRe) (za HTe) (by have := AtC2.lt (za HRe); omega)
   refine h.mono ?_
   clear h
   rintro e w3 ⟨rfl, hr3, hk3⟩
   have HK3 := hide ((za HKe).trans hk3)
   have hx3 := jd (za HK3) (za HX) hxb
   clear hk3 hxe r0 r1
   by_cases hkj : k < j
   ·obtain ⟨c1, c2, c3⟩ := Zm (za HL) hk1 hkj
    obtain ⟨wd, hwd⟩ : ∃ wd, (Lib.decodeGo (t.extract k t.size)).2 = wd := ⟨_, rfl⟩
    obtain ⟨rn, hrn⟩ : ∃ rn, (Lib.decodeGo (t.extract k t.size)).1 = rn := ⟨_, rfl⟩
    rw [hwd] at c2 c3 hr3
    rw [hrn] at c1 ⊢
    have c4 : ((rn : Int) == 10) = false := by rw [beq_eq_false_iff_ne]; omega
    have HR3 := hide hr3
    have HP3 := hide (yS hr3)
    clear hr3 hwd hrn c1
    go_wp2_with fail
    go_roundw
    case rel => exact ⟨k + wd, by omega, by omega, HR3, HK3⟩
    case measure => rw [za HPOS, za HP3]; omega
   ·obtain rfl : k = j := by omega
    obtain ⟨c1, c2⟩ := Zn (za HL) (by omega)
    rw [c2] at hr3
    rw [c1]
    have HR3 := hide hr3
    have r1 := AtC2.n1 hr3
    have HQ : Hid (Reader w3 b (nxt t k) t) := hide (by unfold nxt; rw [if_pos (by omega)]; exact za HR3)
    clear hr3 c1 c2
    go_wp2_with fail
    go_ret2
    exact ⟨rfl, za HQ, za HK3⟩
theorem j5 (s : ByteArray) (h : s.size = 0) : s.toList.isEmpty = true := by
 rw [Lib.toList_data]
 have : s.data.toList = [] := List.eq_nil_of_length_eq_zero (by rw [← Lib.size_eq]; exact h)
 rw [this]; rfl
theorem jV (s : ByteArray) (h : 0 < s.size) : s.toList.isEmpty = false := by
 rw [Lib.toList_data]
 cases e : s.data.toList with
 | nil => exact absurd (by rw [Lib.size_eq, e]; rfl) (Nat.ne_of_gt h)
 | cons _ _ => rfl
theorem j4 {s : ByteArray} (h : s.size = 0) : s = ⟨#[]⟩ := ByteArray.ext (Array.eq_empty_of_size_eq_zero h)
theorem yv (t : ByteArray) (p : Int) (w : World) (hp : ¬ (0 ≤ p ∧ p ≤ t.size)) :
  Calls Tryd.prog 10 #[.agg #[.string t, .int .i64 p]] w fun e w' => e = .returned (.tuple #[.string ⟨#[]⟩, .agg #[.string ⟨#[]⟩, .int .i64 0], .bool false]) ∧ Below w.heap.size w w' := by
 have hd : decide (0 ≤ p ∧ p ≤ (t.size : Int)) = false := by simpa using hp
 clear hp
 have HW := hide (zh (zh (Below.refl w.heap.size w) (.cells #[.string t, .int .i64 p] 24)) (.cells #[.string ⟨#[]⟩, .int .i64 0] 24))
 have HP := hide ((AtC2.new w (.string t) (.int .i64 p) 24).alloc (.cells #[.string ⟨#[]⟩, .int .i64 0] 24))
 have HN := hide (AtC2.new (w.alloc (.cells #[.string t, .int .i64 p] 24)) (.string ⟨#[]⟩) (.int .i64 0) 24)
 rw [World.size_alloc] at HN
 go_enter Tryd.func10, Tryd.ntmps10
 go_wp2_with fail
 obtain ⟨W, hW⟩ : ∃ W, (w.alloc (.cells #[.string t, .int .i64 p] 24)).alloc (.cells #[.string ⟨#[]⟩, .int .i64 0] 24) = W := ⟨_, rfl⟩
 rw [hW] at HW HN HP ⊢
 clear hW
 refine (qE t p W).mono ?_
 rintro e w1 ⟨rfl, hb1⟩
 rw [hd]
 have HW1 := hide (zi (za HW) hb1)
 have HN1 := hide ((za HN).below hb1)
 have HP1 := hide ((za HP).below hb1)
 have q0 := AtC2.f (za HN1) 0
 have q1 := AtC2.f (za HN1) 1
 have q2 := AtC2.n0 (za HN1)
 have q3 := AtC2.n1 (za HN1)
 have p0 := AtC2.n0 (za HP1)
 have p1 := AtC2.n1 (za HP1)
 clear hb1 hd HN HP HW
 go_wp2_with fail
 have HS := hide (((za HN1).st0 (.string ⟨#[]⟩)).st1 (.int .i64 0))
 have s0 := AtC2.n0 (za HS)
 have s1 := AtC2.n1 (za HS)
 have HZ := hide (((za HW1).setCell (p := ⟨w.heap.size + 1, 0, none⟩) (Nat.le_succ _) (.string ⟨#[]⟩)).setCell (p := ⟨w.heap.size + 1, 1, none⟩) (Nat.le_succ _) (.int .i64 0))
 try go_wp2_with fail
 refine bodyPost_ret (v := .tuple #[.string ⟨#[]⟩, .agg #[.string ⟨#[]⟩, .int .i64 0], .bool false]) (by simp [results, Tryd.results10, go_sem, s0, s1]) rfl ⟨rfl, ?_⟩
 first | exact za HZ | exact (za HZ).drew
theorem yw (t : ByteArray) (a : Nat) (w : World) (ha : a = t.size) :
  Calls Tryd.prog 10 #[.agg #[.string t, .int .i64 a]] w fun e w' => e = .returned (.tuple #[.string ⟨#[]⟩, .agg #[.string t, .int .i64 a], .bool false]) ∧ Below w.heap.size w w' := by
 have hd : decide (0 ≤ (a : Int) ∧ (a : Int) ≤ (t.size : Int)) = true := by simp; omega
 have hr := j5 (t.extract a t.size) (by simp; omega)
 have h3 : ¬ ((t.size : Int) < (a : Int)) := by omega
 clear ha
 have HW := hide (zh (zh (Below.refl w.heap.size w) (.cells #[.string t, .int .i64 a] 24)) (.cells #[.string ⟨#[]⟩, .int .i64 0] 24))
 have HP := hide ((AtC2.new w (.string t) (.int .i64 a) 24).alloc (.cells #[.string ⟨#[]⟩, .int .i64 0] 24))
 have HN := hide (AtC2.new (w.alloc (.cells #[.string t, .int .i64 a] 24)) (.string ⟨#[]⟩) (.int .i64 0) 24)
 rw [World.size_alloc] at HN
 go_enter Tryd.func10, Tryd.ntmps10
 go_wp2_with fail
 obtain ⟨W, hW⟩ : ∃ W, (w.alloc (.cells #[.string t, .int .i64 a] 24)).alloc (.cells #[.string ⟨#[]⟩, .int .i64 0] 24) = W := ⟨_, rfl⟩
 rw [hW] at HW HN HP ⊢
 clear hW
 refine (qE t a W).mono ?_
 rintro e w1 ⟨rfl, hb1⟩
 rw [hd]
 have HW1 := hide (zi (za HW) hb1)
 have HN1 := hide ((za HN).below hb1)
 have HP1 := hide ((za HP).below hb1)
 have q0 := AtC2.f (za HN1) 0
 have q1 := AtC2.f (za HN1) 1
 have q2 := AtC2.n0 (za HN1)
 have q3 := AtC2.n1 (za HN1)
 have p0 := AtC2.n0 (za HP1)
 have p1 := AtC2.n1 (za HP1)
 clear hb1 hd HN HP HW
 go_wp2_with fail
 go_region
 all_goals
  have HS := hide (((za HN1).st0 (.string t)).st1 (.int .i64 a))
  have s0 := AtC2.n0 (za HS)
  have s1 := AtC2.n1 (za HS)
  have HZ := hide (((za HW1).setCell (p := ⟨w.heap.size + 1, 0, none⟩) (Nat.le_succ _) (.string t)).setCell (p := ⟨w.heap.size + 1, 1, none⟩) (Nat.le_succ _) (.int .i64 a))
  try go_wp2_with fail
  refine bodyPost_ret (v := .tuple #[.string ⟨#[]⟩, .agg #[.string t, .int .i64 a], .bool false]) (by simp [results, Tryd.results10, go_sem, s0, s1]) rfl ⟨rfl, ?_⟩
  first | exact za HZ | exact (za HZ).drew
theorem yX (t : ByteArray) (a j : Nat) (w : World) (ht : t.size ≤ 1048576) (ha : a < t.size) (hj : IsLine t a j) :
  Calls Tryd.prog 10 #[.agg #[.string t, .int .i64 a]] w fun e w' => e = .returned (.tuple #[.string (t.extract a j), .agg #[.string t, .int .i64 (nxt t j : Nat)], .bool true]) ∧ Below w.heap.size w w' := by
 have hd : decide (0 ≤ (a : Int) ∧ (a : Int) ≤ (t.size : Int)) = true := by simp; omega
 have hz : (t.extract a t.size).size = t.size - a := by simp
 have hr := jV (t.extract a t.size) (by omega)
 have h3 : ¬ ((t.size : Int) < (a : Int)) := by omega
 obtain ⟨k, hk⟩ := jC (t.extract a t.size) _ 0 (Nat.zero_le _) rfl
 obtain rfl : j = a + k := hj.one (hk.lift (by omega))
 have hk2 := hk.hi
 have HE := hide (kI t a k (by omega))
 have HL := hide (fun W => xf (t.extract a t.size) k W (by omega) hk)
 have hr0 := jV (t.extract a t.size) (by omega)
 obtain ⟨r, hr'⟩ : ∃ r, t.extract a t.size = r := ⟨_, rfl⟩
 rw [hr'] at hz hr HE HL hk2
 have HR := hide hr'
 have hn : nxt t (a + k) = a + (if k < r.size then k + 1 else k) := by unfold nxt; split <;> split <;> omega
 rw [hn]
 have hsl : ¬ ((r.size : Int) < (k : Int)) := by omega
 clear hj hk hr' hn
 by_cases hnl : k < r.size
 ·rw [if_pos hnl]
  have HQ : Hid ((a : Int) + ((k : Int) + 1) = ((a + (k + 1) : Nat) : Int)) := hide (by omega)
  have HW := hide (zh (zh (Below.refl w.heap.size w) (.cells #[.string t, .int .i64 a] 24)) (.cells #[.string ⟨#[]⟩, .int .i64 0] 24))
  have HP := hide ((AtC2.new w (.string t) (.int .i64 a) 24).alloc (.cells #[.string ⟨#[]⟩, .int .i64 0] 24))
  have HN := hide (AtC2.new (w.alloc (.cells #[.string t, .int .i64 a] 24)) (.string ⟨#[]⟩) (.int .i64 0) 24)
  rw [World.size_alloc] at HN
  go_enter Tryd.func10, Tryd.ntmps10
  go_wp2_with fail
  obtain ⟨W, hW⟩ : ∃ W, (w.alloc (.cells #[.string t, .int .i64 a] 24)).alloc (.cells #[.string ⟨#[]⟩, .int .i64 0] 24) = W := ⟨_, rfl⟩
  rw [hW] at HW HN HP ⊢
  clear hW
  refine (qE t a W).mono ?_
  rintro e w1 ⟨rfl, hb1⟩
  rw [hd]
  have HW1 := hide (zi (za HW) hb1)
  have HN1 := hide ((za HN).below hb1)
  have HP1 := hide ((za HP).below hb1)
  have q0 := AtC2.f (za HN1) 0
  have q1 := AtC2.f (za HN1) 1
  have q2 := AtC2.n0 (za HN1)
  have q3 := AtC2.n1 (za HN1)
  have p0 := AtC2.n0 (za HP1)
  have p1 := AtC2.n1 (za HP1)
  clear hb1 hd HN HP HW
  go_wp2_with fail
  rw [za HR]
  refine (za HL w1).mono ?_
  rintro e w2 ⟨rfl, rfl⟩
  clear hr0 h3
  go_wp2_with fail
  go_region
  all_goals
   have HS := hide (((za HN1).st0 (.string t)).st1 (.int .i64 ((a : Int) + ((k : Int) + 1))))
   have s0 := AtC2.n0 (za HS)
   have s1 := AtC2.n1 (za HS)
   have HZ := hide (((za HW1).setCell (p := ⟨w.heap.size + 1, 0, none⟩) (Nat.le_succ _) (.string t)).setCell (p := ⟨w.heap.size + 1, 1, none⟩) (Nat.le_succ _) (.int .i64 ((a : Int) + ((k : Int) + 1))))
   try go_wp2_with fail
   refine bodyPost_ret (v := .tuple #[.string (r.extract 0 k), .agg #[.string t, .int .i64 ((a : Int) + ((k : Int) + 1))], .bool true]) (by simp [results, Tryd.results10, go_sem, s0, s1]) rfl ⟨by rw [za HE, za HQ], ?_⟩
   first | exact za HZ | exact (za HZ).drew
 ·rw [if_neg hnl]
  have HQ : Hid ((a : Int) + (k : Int) = ((a + k : Nat) : Int)) := hide (by omega)
  have HW := hide (zh (zh (Below.refl w.heap.size w) (.cells #[.string t, .int .i64 a] 24)) (.cells #[.string ⟨#[]⟩, .int .i64 0] 24))
  have HP := hide ((AtC2.new w (.string t) (.int .i64 a) 24).alloc (.cells #[.string ⟨#[]⟩, .int .i64 0] 24))
  have HN := hide (AtC2.new (w.alloc (.cells #[.string t, .int .i64 a] 24)) (.string ⟨#[]⟩) (.int .i64 0) 24)
  rw [World.size_alloc] at HN
  go_enter Tryd.func10, Tryd.ntmps10
  go_wp2_with fail
  obtain ⟨W, hW⟩ : ∃ W, (w.alloc (.cells #[.string t, .int .i64 a] 24)).alloc (.cells #[.string ⟨#[]⟩, .int .i64 0] 24) = W := ⟨_, rfl⟩
  rw [hW] at HW HN HP ⊢
  clear hW
  refine (qE t a W).mono ?_
  rintro e w1 ⟨rfl, hb1⟩
  rw [hd]
  have HW1 := hide (zi (za HW) hb1)
  have HN1 := hide ((za HN).below hb1)
  have HP1 := hide ((za HP).below hb1)
  have q0 := AtC2.f (za HN1) 0
  have q1 := AtC2.f (za HN1) 1
  have q2 := AtC2.n0 (za HN1)
  have q3 := AtC2.n1 (za HN1)
  have p0 := AtC2.n0 (za HP1)
  have p1 := AtC2.n1 (za HP1)
  clear hb1 hd HN HP HW
  go_wp2_with fail
  rw [za HR]
  refine (za HL w1).mono ?_
  rintro e w2 ⟨rfl, rfl⟩
  clear hr0 h3
  go_wp2_with fail
  go_region
  all_goals
   have HS := hide (((za HN1).st0 (.string t)).st1 (.int .i64 ((a : Int) + (k : Int))))
   have s0 := AtC2.n0 (za HS)
   have s1 := AtC2.n1 (za HS)
   have HZ := hide (((za HW1).setCell (p := ⟨w.heap.size + 1, 0, none⟩) (Nat.le_succ _) (.string t)).setCell (p := ⟨w.heap.size + 1, 1, none⟩) (Nat.le_succ _) (.int .i64 ((a : Int) + (k : Int))))
   try go_wp2_with fail
   refine bodyPost_ret (v := .tuple #[.string (r.extract 0 k), .agg #[.string t, .int .i64 ((a : Int) + (k : Int))], .bool true]) (by simp [results, Tryd.results10, go_sem, s0, s1]) rfl ⟨by rw [za HE, za HQ], ?_⟩
   first | exact za HZ | exact (za HZ).drew
theorem xX (x b a : Nat) (t : ByteArray) (w : World) (ha : a = t.size) (hb : Reader w b a t) (hx : w.cell? ⟨x, 0, none⟩ = some (.pointer (some ⟨b, 0, none⟩))) :
  Calls Tryd.prog 31 #[.pointer (some ⟨x, 0, none⟩)] w fun e w' => e = .returned (.tuple #[.string ⟨#[]⟩, .bool false]) ∧ Below w.heap.size w w' := by
 have HR := hide hb
 have hne : decide (a = t.size) = true := by simpa using ha
 clear hb ha
 go_enter Tryd.func31, Tryd.ntmps31
 go_wp2_with fail
 refine (jA b a t w (za HR)).mono ?_
 rintro e w1 ⟨rfl, hb1⟩
 rw [hne]
 have HB := hide hb1
 clear hb1 hx hne
 go_wp2_with fail
 go_ret2
 exact ⟨rfl, za HB⟩
theorem y4 (t : ByteArray) (p : Int) (w : World) (hp : ¬ (0 ≤ p ∧ p ≤ t.size)) :
  Calls Tryd.prog 9 #[.agg #[.string t, .int .i64 p]] w fun e w' => e = .returned (.tuple #[.string ⟨#[]⟩, .agg #[.string ⟨#[]⟩, .int .i64 0], .bool false]) ∧ Below w.heap.size w w' := by
 have hd : decide (0 ≤ p ∧ p ≤ (t.size : Int)) = false := by simpa using hp
 have HW := hide (zh (zh (Below.refl w.heap.size w) (.cells #[.string t, .int .i64 p] 24)) (.cells #[.string ⟨#[]⟩, .int .i64 0] 24))
 have HN := hide (AtC2.new (w.alloc (.cells #[.string t, .int .i64 p] 24)) (.string ⟨#[]⟩) (.int .i64 0) 24)
 rw [World.size_alloc] at HN
 clear hp
 go_enter Tryd.func9, Tryd.ntmps9
 go_wp2_with fail
 obtain ⟨W, hW⟩ : ∃ W, (w.alloc (.cells #[.string t, .int .i64 p] 24)).alloc (.cells #[.string ⟨#[]⟩, .int .i64 0] 24) = W := ⟨_, rfl⟩
 rw [hW] at HW HN ⊢
 clear hW
 refine (qU t p W).mono ?_
 rintro e w1 ⟨rfl, _, hb1⟩
 rw [hd]
 have HW1 := hide (zi (za HW) hb1)
 have HN1 := hide ((za HN).below hb1)
 have q0 := AtC2.f (za HN1) 0
 have q1 := AtC2.f (za HN1) 1
 have q2 := AtC2.n0 (za HN1)
 have q3 := AtC2.n1 (za HN1)
 clear hb1 hd HN
 go_wp2_with fail
 have HS := hide (((za HN1).st0 (.string ⟨#[]⟩)).st1 (.int .i64 0))
 have s0 := AtC2.n0 (za HS)
 have s1 := AtC2.n1 (za HS)
 have HZ := hide (((za HW1).setCell (p := ⟨w.heap.size + 1, 0, none⟩) (Nat.le_succ _) (.string ⟨#[]⟩)).setCell (p := ⟨w.heap.size + 1, 1, none⟩) (Nat.le_succ _) (.int .i64 0))
 refine bodyPost_ret (v := .tuple #[.string ⟨#[]⟩, .agg #[.string ⟨#[]⟩, .int .i64 0], .bool false]) (by simp [results, Tryd.results9, go_sem, s0, s1]) rfl ⟨rfl, ?_⟩
 exact za HZ
theorem vD (t r : ByteArray) (a a' : Nat) (k : Bool) (w : World) (ht : t.size ≤ 1048576) (ha : a ≤ t.size) (hr : r.size ≤ 1048576) (hT : Tabs w) (h1 : 1 < w.heap.size)
  (hL : ∀ W x b, Reader W b a t → W.cell? ⟨x, 0, none⟩ = some (.pointer (some ⟨b, 0, none⟩)) → x ≠ b → Tabs W → 1 < b → Calls Tryd.prog 31 #[.pointer (some ⟨x, 0, none⟩)] W fun e w' => e = .returned (.tuple #[.string r, .bool k]) ∧ Reader w' b a' t ∧ Kept (· = b) W w') :
  Calls Tryd.prog 9 #[.agg #[.string t, .int .i64 a]] w fun e w' => e = .returned (.tuple #[.string r, .agg #[.string t, .int .i64 a'], .bool k]) ∧ Below w.heap.size w w' := by
 have hd : decide (0 ≤ (a : Int) ∧ (a : Int) ≤ (t.size : Int)) = true := by simp; omega
 have HW := hide (zh (zh (Below.refl w.heap.size w) (.cells #[.string t, .int .i64 a] 24)) (.cells #[.string ⟨#[]⟩, .int .i64 0] 24))
 have HN := hide (AtC2.new (w.alloc (.cells #[.string t, .int .i64 a] 24)) (.string ⟨#[]⟩) (.int .i64 0) 24)
 rw [World.size_alloc] at HN
 have HL := hide hL
 have HT := hide hT
 clear hL hT
 go_enter Tryd.func9, Tryd.ntmps9
 go_wp2_with fail
 obtain ⟨W, hW⟩ : ∃ W, (w.alloc (.cells #[.string t, .int .i64 a] 24)).alloc (.cells #[.string ⟨#[]⟩, .int .i64 0] 24) = W := ⟨_, rfl⟩
 have hWs : w.heap.size + 2 = W.heap.size := by rw [← hW]; simp
 rw [hW] at HW HN ⊢
 clear hW
 refine (qU t a W).mono ?_
 rintro e w1 ⟨rfl, hrd, hb1⟩
 rw [hd]
 have HW1 := hide (zi (za HW) hb1)
 have HN1 := hide ((za HN).below hb1)
 obtain ⟨b, hbe⟩ : ∃ b, W.heap.size + 1 = b := ⟨_, rfl⟩
 rw [hbe] at hrd ⊢
 have HR1 : Hid (Reader w1 b a t) := hrd
 have hnb : w.heap.size + 1 < b := by omega
 have h1b : 1 < b := by omega
 have HBE := hide (⟨hWs, hbe⟩ : _ ∧ _)
 clear hb1 hd HN hrd hbe hWs HW
 go_wp2_with fail
 refine (ZA b w1).mono ?_
 rintro e w2 ⟨rfl, hw2⟩
 have HB2 := hide (Below.alloc (Below.refl w1.heap.size w1) (Nat.le_refl _) (.cells #[.pointer (some ⟨b, 0, none⟩)] 39))
 have hx2 : w2.cell? ⟨w1.heap.size, 0, none⟩ = some (.pointer (some ⟨b, 0, none⟩)) := by rw [hw2]; simp
 rw [← hw2] at HB2
 have hbl := AtC2.lt (za HR1)
 have hne : w1.heap.size ≠ b := by omega
 have HR2 := hide ((za HR1).below (za HB2))
 have HN2 := hide ((za HN1).below (za HB2))
 have HW2 := hide (zi (za HW1) (za HB2))
 have HT2 := hide ((za HT).below h1 (za HW2))
 clear hw2 hbl
 go_wp2_with fail
 refine ((za HL) w2 w1.heap.size b (za HR2) hx2 hne (za HT2) h1b).mono ?_
 rintro e w3 ⟨rfl, hr3, hk3⟩
 have hsz := (za HW2).size
 have hbl2 := AtC2.lt (za HR2)
 have HW3 := hide ((za HW2).trans (hk3.below (base := w.heap.size) hsz (fun _ e => by omega)))
 have HN3 := hide ((za HN2).kept hk3 (by show ¬ (w.heap.size + 1 = b); omega))
 have HR3 := hide hr3
 clear hr3 hk3 hx2 hne hsz hbl2 HL
 go_wp2_with fail
 refine (v8 r w3 hr).mono ?_
 rintro e w4 ⟨rfl, hb4⟩
 have HW4 := hide (zi (za HW3) hb4)
 have HN4 := hide ((za HN3).below hb4)
 have HR4 := hide ((za HR3).below hb4)
 clear hb4
 go_wp2_with fail
 refine (Za b a' t w4 ht (za HR4)).mono ?_
 rintro e w5 ⟨rfl, hb5⟩
 have HW5 := hide (zi (za HW4) hb5)
 have HN5 := hide ((za HN4).below hb5)
 have q0 := AtC2.f (za HN5) 0
 have q1 := AtC2.f (za HN5) 1
 have q2 := AtC2.n0 (za HN5)
 have q3 := AtC2.n1 (za HN5)
 clear hb5
 go_wp2_with fail
 have HS := hide (((za HN5).st0 (.string t)).st1 (.int .i64 a'))
 have s0 := AtC2.n0 (za HS)
 have s1 := AtC2.n1 (za HS)
 have HZ := hide (((za HW5).setCell (p := ⟨w.heap.size + 1, 0, none⟩) (Nat.le_succ _) (.string t)).setCell (p := ⟨w.heap.size + 1, 1, none⟩) (Nat.le_succ _) (.int .i64 a'))
 refine bodyPost_ret (v := .tuple #[.string r, .agg #[.string t, .int .i64 a'], .bool k]) (by simp [results, Tryd.results9, go_sem, s0, s1]) rfl ⟨rfl, ?_⟩
 exact za HZ
theorem yZ (t : ByteArray) (p : Int) (w : World) (hp : ¬ (0 ≤ p ∧ p ≤ t.size)) :
  Calls Tryd.prog 7 #[.agg #[.string t, .int .i64 p]] w fun e w' => e = .returned (.tuple #[.string ⟨#[]⟩, .agg #[.string ⟨#[]⟩, .int .i64 0]]) ∧ Below w.heap.size w w' := by
 have hd : decide (0 ≤ p ∧ p ≤ (t.size : Int)) = false := by simpa using hp
 have HW := hide (zh (zh (Below.refl w.heap.size w) (.cells #[.string t, .int .i64 p] 24)) (.cells #[.string ⟨#[]⟩, .int .i64 0] 24))
 have HN := hide (AtC2.new (w.alloc (.cells #[.string t, .int .i64 p] 24)) (.string ⟨#[]⟩) (.int .i64 0) 24)
 rw [World.size_alloc] at HN
 clear hp
 go_enter Tryd.func7, Tryd.ntmps7
 go_wp2_with fail
 obtain ⟨W, hW⟩ : ∃ W, (w.alloc (.cells #[.string t, .int .i64 p] 24)).alloc (.cells #[.string ⟨#[]⟩, .int .i64 0] 24) = W := ⟨_, rfl⟩
 rw [hW] at HW HN ⊢
 clear hW
 refine (qU t p W).mono ?_
 rintro e w1 ⟨rfl, _, hb1⟩
 rw [hd]
 have HW1 := hide (zi (za HW) hb1)
 have HN1 := hide ((za HN).below hb1)
 have q0 := AtC2.f (za HN1) 0
 have q1 := AtC2.f (za HN1) 1
 have q2 := AtC2.n0 (za HN1)
 have q3 := AtC2.n1 (za HN1)
 clear hb1 hd HN
 go_wp2_with fail
 have HS := hide (((za HN1).st0 (.string ⟨#[]⟩)).st1 (.int .i64 0))
 have s0 := AtC2.n0 (za HS)
 have s1 := AtC2.n1 (za HS)
 have HZ := hide (((za HW1).setCell (p := ⟨w.heap.size + 1, 0, none⟩) (Nat.le_succ _) (.string ⟨#[]⟩)).setCell (p := ⟨w.heap.size + 1, 1, none⟩) (Nat.le_succ _) (.int .i64 0))
 refine bodyPost_ret (v := .tuple #[.string ⟨#[]⟩, .agg #[.string ⟨#[]⟩, .int .i64 0]]) (by simp [results, Tryd.results7, go_sem, s0, s1]) rfl ⟨rfl, ?_⟩
 exact za HZ
def zx (t : ByteArray) (a : Nat) : Nat := a + (Lib.decodeGo (t.extract a t.size)).2
theorem qk (t : ByteArray) (a : Nat) (ha : a ≤ t.size) : a ≤ zx t a ∧ zx t a ≤ t.size := by
 unfold zx
 by_cases h : a < t.size
 ·have := jR t a h; omega
 ·have e : (t.extract a t.size).size = 0 := by simp; omega
  have : (Lib.decodeGo (t.extract a t.size)).2 = 0 := by unfold Lib.decodeGo; rw [if_pos e]
  omega
theorem vC (t : ByteArray) (a : Nat) (w : World) (ht : t.size ≤ 1048576) (ha : a ≤ t.size) (hT : Tabs w) (h1 : 1 < w.heap.size) :
  Calls Tryd.prog 7 #[.agg #[.string t, .int .i64 a]] w fun e w' => e = .returned (.tuple #[.string (t.extract a (zx t a)), .agg #[.string t, .int .i64 (zx t a : Nat)]]) ∧ Below w.heap.size w w' := by
 have hd : decide (0 ≤ (a : Int) ∧ (a : Int) ≤ (t.size : Int)) = true := by simp; omega
 have HW := hide (zh (zh (Below.refl w.heap.size w) (.cells #[.string t, .int .i64 a] 24)) (.cells #[.string ⟨#[]⟩, .int .i64 0] 24))
 have HN := hide (AtC2.new (w.alloc (.cells #[.string t, .int .i64 a] 24)) (.string ⟨#[]⟩) (.int .i64 0) 24)
 rw [World.size_alloc] at HN
 have HT := hide hT
 have hbh := qk t a ha
 have HC := hide (fun W b h2 h3 h4 => x3 b a t W ht ha h2 h3 h4)
 obtain ⟨a', ha'⟩ : ∃ a', zx t a = a' := ⟨_, rfl⟩
 unfold zx at ha'
 rw [ha'] at HC
 rw [show zx t a = a' from ha'] at hbh ⊢
 obtain ⟨rn, hrn⟩ : ∃ rn, (Lib.decodeGo (t.extract a t.size)).1 = rn := ⟨_, rfl⟩
 rw [hrn] at HC
 have hes : (t.extract a a').size ≤ 1048576 := by simp; omega
 clear hT ha' hrn
 go_enter Tryd.func7, Tryd.ntmps7
 go_wp2_with fail
 obtain ⟨W, hW⟩ : ∃ W, (w.alloc (.cells #[.string t, .int .i64 a] 24)).alloc (.cells #[.string ⟨#[]⟩, .int .i64 0] 24) = W := ⟨_, rfl⟩
 have hWs : w.heap.size + 2 = W.heap.size := by rw [← hW]; simp
 rw [hW] at HW HN ⊢
 clear hW
 refine (qU t a W).mono ?_
 rintro e w1 ⟨rfl, hrd, hb1⟩
 rw [hd]
 have HW1 := hide (zi (za HW) hb1)
 have HN1 := hide ((za HN).below hb1)
 obtain ⟨b, hbe⟩ : ∃ b, W.heap.size + 1 = b := ⟨_, rfl⟩
 rw [hbe] at hrd ⊢
 have HR1 : Hid (Reader w1 b a t) := hrd
 have hnb : w.heap.size + 1 < b := by omega
 have r0 := AtC2.n0 (za HR1)
 have HT1 := hide ((za HT).below h1 (za HW1))
 clear hb1 hd HN hrd hbe hWs HW HT
 go_wp2_with fail
 refine ((za HC) w1 b (za HR1) (za HT1) (by have := AtC2.lt (za HR1); omega)).mono ?_
 rintro e w2 ⟨rfl, hr2, hk2⟩
 have hsz := (za HW1).size
 have hbl1 := AtC2.lt (za HR1)
 have HW2 := hide ((za HW1).trans (hk2.below (base := w.heap.size) hsz (fun _ e => by omega)))
 have HN2 := hide ((za HN1).kept hk2 (by show ¬ (w.heap.size + 1 = b); omega))
 have HR2 := hide hr2
 clear hr2 hk2 hsz hbl1 HC r0 HR1 HN1 HW1 HT1
 have r0 := AtC2.n0 (za HR2)
 have r1 := AtC2.n1 (za HR2)
 have h3 : ¬ ((a' : Int) < (a : Int)) := by omega
 have h4 : ¬ ((t.size : Int) < (a' : Int)) := by omega
 go_wp2_with fail
 go_region_with (first
  | (go_at_call 18; refine (v8 (t.extract a a') _ hes).mono ?_; rintro e wc ⟨rfl, hbc⟩; have HRc : Hid (Reader wc b a' t) := hide (by first | exact (za HRp).below hbc | exact (za HR2).below (zt hbc)); have HNc : Hid (AtC2 wc (w.heap.size + 1) (.string ⟨#[]⟩) (.int .i64 0) 24) := hide (by first | exact (za HNp).below hbc | exact (za HN2).below (zt hbc)); have HWc : Hid (Below w.heap.size w wc) := hide (by first | exact zi (za HWp) hbc | exact zi (za HW2) (zt hbc)); have r0c := AtC2.n0 (za HRc); have r1c := AtC2.n1 (za HRc); have q0c := AtC2.f (za HNc) 0; have q1c := AtC2.f (za HNc) 1; have q2c := AtC2.n0 (za HNc); have q3c := AtC2.n1 (za HNc); clear hbc)
  | (go_at_call 19; refine (Za b a' t _ ht (by first | exact za HR2 | exact za HRc)).mono ?_; rintro e wp ⟨rfl, hbp⟩; have HRp : Hid (Reader wp b a' t) := hide (by first | exact (za HRc).below hbp | exact (za HR2).below (zt hbp)); have HNp : Hid (AtC2 wp (w.heap.size + 1) (.string ⟨#[]⟩) (.int .i64 0) 24) := hide (by first | exact (za HNc).below hbp | exact (za HN2).below (zt hbp)); have HWp : Hid (Below w.heap.size w wp) := hide (by first | exact zi (za HWc) hbp | exact zi (za HW2) (zt hbp)); have r0p := AtC2.n0 (za HRp); have r1p := AtC2.n1 (za HRp); have q0p := AtC2.f (za HNp) 0; have q1p := AtC2.f (za HNp) 1; have q2p := AtC2.n0 (za HNp); have q3p := AtC2.n1 (za HNp); clear hbp))
 all_goals first
  | (have HS := hide (((za HNp).st0 (.string t)).st1 (.int .i64 a'))
     have s0 := AtC2.n0 (za HS)
     have s1 := AtC2.n1 (za HS)
     have HZ := hide (((za HWp).setCell (p := ⟨w.heap.size + 1, 0, none⟩) (Nat.le_succ _) (.string t)).setCell (p := ⟨w.heap.size + 1, 1, none⟩) (Nat.le_succ _) (.int .i64 a'))
     go_wp2_with fail
     refine bodyPost_ret (v := .tuple #[.string (t.extract a a'), .agg #[.string t, .int .i64 a']]) (by simp [results, Tryd.results7, go_sem, s0, s1]) rfl ⟨rfl, ?_⟩
     exact za HZ)
  | (have HS := hide (((za HNc).st0 (.string t)).st1 (.int .i64 a'))
     have s0 := AtC2.n0 (za HS)
     have s1 := AtC2.n1 (za HS)
     have HZ := hide (((za HWc).setCell (p := ⟨w.heap.size + 1, 0, none⟩) (Nat.le_succ _) (.string t)).setCell (p := ⟨w.heap.size + 1, 1, none⟩) (Nat.le_succ _) (.int .i64 a'))
     go_wp2_with fail
     refine bodyPost_ret (v := .tuple #[.string (t.extract a a'), .agg #[.string t, .int .i64 a']]) (by simp [results, Tryd.results7, go_sem, s0, s1]) rfl ⟨rfl, ?_⟩
     exact za HZ)
theorem yt (t : ByteArray) (p : Int) (w : World) (hp : ¬ (0 ≤ p ∧ p ≤ t.size)) :
  Calls Tryd.prog 8 #[.agg #[.string t, .int .i64 p]] w fun e w' => e = .returned (.tuple #[.string ⟨#[]⟩, .agg #[.string ⟨#[]⟩, .int .i64 0]]) ∧ Below w.heap.size w w' := by
 have hd : decide (0 ≤ p ∧ p ≤ (t.size : Int)) = false := by simpa using hp
 clear hp
 have HW := hide (zh (zh (Below.refl w.heap.size w) (.cells #[.string t, .int .i64 p] 24)) (.cells #[.string ⟨#[]⟩, .int .i64 0] 24))
 have HP := hide ((AtC2.new w (.string t) (.int .i64 p) 24).alloc (.cells #[.string ⟨#[]⟩, .int .i64 0] 24))
 have HN := hide (AtC2.new (w.alloc (.cells #[.string t, .int .i64 p] 24)) (.string ⟨#[]⟩) (.int .i64 0) 24)
 rw [World.size_alloc] at HN
 go_enter Tryd.func8, Tryd.ntmps8
 go_wp2_with fail
 obtain ⟨W, hW⟩ : ∃ W, (w.alloc (.cells #[.string t, .int .i64 p] 24)).alloc (.cells #[.string ⟨#[]⟩, .int .i64 0] 24) = W := ⟨_, rfl⟩
 rw [hW] at HW HN HP ⊢
 clear hW
 refine (qE t p W).mono ?_
 rintro e w1 ⟨rfl, hb1⟩
 rw [hd]
 have HW1 := hide (zi (za HW) hb1)
 have HN1 := hide ((za HN).below hb1)
 have HP1 := hide ((za HP).below hb1)
 have q0 := AtC2.f (za HN1) 0
 have q1 := AtC2.f (za HN1) 1
 have q2 := AtC2.n0 (za HN1)
 have q3 := AtC2.n1 (za HN1)
 have p0 := AtC2.n0 (za HP1)
 have p1 := AtC2.n1 (za HP1)
 clear hb1 hd HN HP HW
 go_wp2_with fail
 have HS := hide (((za HN1).st0 (.string ⟨#[]⟩)).st1 (.int .i64 0))
 have s0 := AtC2.n0 (za HS)
 have s1 := AtC2.n1 (za HS)
 have HZ := hide (((za HW1).setCell (p := ⟨w.heap.size + 1, 0, none⟩) (Nat.le_succ _) (.string ⟨#[]⟩)).setCell (p := ⟨w.heap.size + 1, 1, none⟩) (Nat.le_succ _) (.int .i64 0))
 try go_wp2_with fail
 refine bodyPost_ret (v := .tuple #[.string ⟨#[]⟩, .agg #[.string ⟨#[]⟩, .int .i64 0]]) (by simp [results, Tryd.results8, go_sem, s0, s1]) rfl ⟨rfl, ?_⟩
 first | exact za HZ | exact (za HZ).drew
theorem yu (t : ByteArray) (a : Nat) (w : World) (ha : a = t.size) :
  Calls Tryd.prog 8 #[.agg #[.string t, .int .i64 a]] w fun e w' => e = .returned (.tuple #[.string ⟨#[]⟩, .agg #[.string t, .int .i64 a]]) ∧ Below w.heap.size w w' := by
 have hd : decide (0 ≤ (a : Int) ∧ (a : Int) ≤ (t.size : Int)) = true := by simp; omega
 have hr := j5 (t.extract a t.size) (by simp; omega)
 have h3 : ¬ ((t.size : Int) < (a : Int)) := by omega
 clear ha
 have HW := hide (zh (zh (Below.refl w.heap.size w) (.cells #[.string t, .int .i64 a] 24)) (.cells #[.string ⟨#[]⟩, .int .i64 0] 24))
 have HP := hide ((AtC2.new w (.string t) (.int .i64 a) 24).alloc (.cells #[.string ⟨#[]⟩, .int .i64 0] 24))
 have HN := hide (AtC2.new (w.alloc (.cells #[.string t, .int .i64 a] 24)) (.string ⟨#[]⟩) (.int .i64 0) 24)
 rw [World.size_alloc] at HN
 go_enter Tryd.func8, Tryd.ntmps8
 go_wp2_with fail
 obtain ⟨W, hW⟩ : ∃ W, (w.alloc (.cells #[.string t, .int .i64 a] 24)).alloc (.cells #[.string ⟨#[]⟩, .int .i64 0] 24) = W := ⟨_, rfl⟩
 rw [hW] at HW HN HP ⊢
 clear hW
 refine (qE t a W).mono ?_
 rintro e w1 ⟨rfl, hb1⟩
 rw [hd]
 have HW1 := hide (zi (za HW) hb1)
 have HN1 := hide ((za HN).below hb1)
 have HP1 := hide ((za HP).below hb1)
 have q0 := AtC2.f (za HN1) 0
 have q1 := AtC2.f (za HN1) 1
 have q2 := AtC2.n0 (za HN1)
 have q3 := AtC2.n1 (za HN1)
 have p0 := AtC2.n0 (za HP1)
 have p1 := AtC2.n1 (za HP1)
 clear hb1 hd HN HP HW
 go_wp2_with fail
 go_region
 all_goals
  have HS := hide (((za HN1).st0 (.string t)).st1 (.int .i64 a))
  have s0 := AtC2.n0 (za HS)
  have s1 := AtC2.n1 (za HS)
  have HZ := hide (((za HW1).setCell (p := ⟨w.heap.size + 1, 0, none⟩) (Nat.le_succ _) (.string t)).setCell (p := ⟨w.heap.size + 1, 1, none⟩) (Nat.le_succ _) (.int .i64 a))
  try go_wp2_with fail
  refine bodyPost_ret (v := .tuple #[.string ⟨#[]⟩, .agg #[.string t, .int .i64 a]]) (by simp [results, Tryd.results8, go_sem, s0, s1]) rfl ⟨rfl, ?_⟩
  first | exact za HZ | exact (za HZ).drew
theorem yW (t : ByteArray) (a : Nat) (w : World) (ht : t.size ≤ 1048576) (ha : a < t.size) :
  Calls Tryd.prog 8 #[.agg #[.string t, .int .i64 a]] w fun e w' => e = .returned (.tuple #[.string (t.extract a (zx t a)), .agg #[.string t, .int .i64 (zx t a : Nat)]]) ∧ Below w.heap.size w w' := by
 have hd : decide (0 ≤ (a : Int) ∧ (a : Int) ≤ (t.size : Int)) = true := by simp; omega
 have hz : (t.extract a t.size).size = t.size - a := by simp
 have hr0 := jV (t.extract a t.size) (by omega)
 have h3 : ¬ ((t.size : Int) < (a : Int)) := by omega
 have hbh := qk t a (by omega)
 have hm := vw (t.extract a t.size) (by omega)
 have hbe : zx t a = a + (Utf8.decode (t.extract a t.size) 0).2 := by unfold zx Lib.decodeGo; rw [if_neg (by omega)]
 rw [← hm] at hbe
 have HE := hide (kI t a (zx t a - a) (by omega))
 have HL := hide (fun W => vU (t.extract a t.size) W (by omega) (by omega))
 obtain ⟨m, hm'⟩ : ∃ m, sizeM (t.extract a t.size) = m := ⟨_, rfl⟩
 rw [hm'] at hbe HL
 obtain ⟨r, hr'⟩ : ∃ r, t.extract a t.size = r := ⟨_, rfl⟩
 rw [hr'] at hz HE HL
 have hr1 := hr0
 rw [hr'] at hr1
 have HR := hide hr'
 clear hr' hm hm'
 by_cases hm0 : m = 0
 ·subst hm0
  rw [if_pos rfl] at hbe
  rw [hbe] at HE hbh ⊢
  rw [Nat.add_sub_cancel_left] at HE
  have HQ : Hid ((a : Int) + 1 = ((a + 1 : Nat) : Int)) := hide (by omega)
  have hsl : ¬ ((r.size : Int) < 1) := by omega
  clear hbe
  have HW := hide (zh (zh (Below.refl w.heap.size w) (.cells #[.string t, .int .i64 a] 24)) (.cells #[.string ⟨#[]⟩, .int .i64 0] 24))
  have HP := hide ((AtC2.new w (.string t) (.int .i64 a) 24).alloc (.cells #[.string ⟨#[]⟩, .int .i64 0] 24))
  have HN := hide (AtC2.new (w.alloc (.cells #[.string t, .int .i64 a] 24)) (.string ⟨#[]⟩) (.int .i64 0) 24)
  rw [World.size_alloc] at HN
  go_enter Tryd.func8, Tryd.ntmps8
  go_wp2_with fail
  obtain ⟨W, hW⟩ : ∃ W, (w.alloc (.cells #[.string t, .int .i64 a] 24)).alloc (.cells #[.string ⟨#[]⟩, .int .i64 0] 24) = W := ⟨_, rfl⟩
  rw [hW] at HW HN HP ⊢
  clear hW
  refine (qE t a W).mono ?_
  rintro e w1 ⟨rfl, hb1⟩
  rw [hd]
  have HW1 := hide (zi (za HW) hb1)
  have HN1 := hide ((za HN).below hb1)
  have HP1 := hide ((za HP).below hb1)
  have q0 := AtC2.f (za HN1) 0
  have q1 := AtC2.f (za HN1) 1
  have q2 := AtC2.n0 (za HN1)
  have q3 := AtC2.n1 (za HN1)
  have p0 := AtC2.n0 (za HP1)
  have p1 := AtC2.n1 (za HP1)
  clear hb1 hd HN HP HW
  go_wp2_with fail
  rw [za HR]
  refine (za HL w1).mono ?_
  rintro e w2 ⟨rfl, hb2⟩
  replace HW1 := hide (zi (za HW1) hb2)
  replace HN1 := hide ((za HN1).below hb2)
  replace HP1 := hide ((za HP1).below hb2)
  clear q0 q1 q2 q3 p0 p1 hb2
  have q0 := AtC2.f (za HN1) 0
  have q1 := AtC2.f (za HN1) 1
  have q2 := AtC2.n0 (za HN1)
  have q3 := AtC2.n1 (za HN1)
  have p0 := AtC2.n0 (za HP1)
  have p1 := AtC2.n1 (za HP1)
  clear hr0 h3
  go_wp2_with fail
  go_region
  all_goals
   have HS := hide (((za HN1).st0 (.string t)).st1 (.int .i64 ((a : Int) + 1)))
   have s0 := AtC2.n0 (za HS)
   have s1 := AtC2.n1 (za HS)
   have HZ := hide (((za HW1).setCell (p := ⟨w.heap.size + 1, 0, none⟩) (Nat.le_succ _) (.string t)).setCell (p := ⟨w.heap.size + 1, 1, none⟩) (Nat.le_succ _) (.int .i64 ((a : Int) + 1)))
   try go_wp2_with fail
   refine bodyPost_ret (v := .tuple #[.string (r.extract 0 1), .agg #[.string t, .int .i64 ((a : Int) + 1)]]) (by simp [results, Tryd.results8, go_sem, s0, s1]) rfl ⟨by rw [za HE, za HQ], ?_⟩
   first | exact za HZ | exact (za HZ).drew
 ·rw [if_neg hm0] at hbe
  rw [hbe] at HE hbh ⊢
  rw [Nat.add_sub_cancel_left] at HE
  have HQ : Hid ((a : Int) + (m : Int) = ((a + m : Nat) : Int)) := hide (by omega)
  have hsl : ¬ ((r.size : Int) < (m : Int)) := by omega
  have hmz : ((m : Int) == 0) = false := by rw [beq_eq_false_iff_ne]; omega
  clear hbe hm0
  have HW := hide (zh (zh (Below.refl w.heap.size w) (.cells #[.string t, .int .i64 a] 24)) (.cells #[.string ⟨#[]⟩, .int .i64 0] 24))
  have HP := hide ((AtC2.new w (.string t) (.int .i64 a) 24).alloc (.cells #[.string ⟨#[]⟩, .int .i64 0] 24))
  have HN := hide (AtC2.new (w.alloc (.cells #[.string t, .int .i64 a] 24)) (.string ⟨#[]⟩) (.int .i64 0) 24)
  rw [World.size_alloc] at HN
  go_enter Tryd.func8, Tryd.ntmps8
  go_wp2_with fail
  obtain ⟨W, hW⟩ : ∃ W, (w.alloc (.cells #[.string t, .int .i64 a] 24)).alloc (.cells #[.string ⟨#[]⟩, .int .i64 0] 24) = W := ⟨_, rfl⟩
  rw [hW] at HW HN HP ⊢
  clear hW
  refine (qE t a W).mono ?_
  rintro e w1 ⟨rfl, hb1⟩
  rw [hd]
  have HW1 := hide (zi (za HW) hb1)
  have HN1 := hide ((za HN).below hb1)
  have HP1 := hide ((za HP).below hb1)
  have q0 := AtC2.f (za HN1) 0
  have q1 := AtC2.f (za HN1) 1
  have q2 := AtC2.n0 (za HN1)
  have q3 := AtC2.n1 (za HN1)
  have p0 := AtC2.n0 (za HP1)
  have p1 := AtC2.n1 (za HP1)
  clear hb1 hd HN HP HW
  go_wp2_with fail
  rw [za HR]
  refine (za HL w1).mono ?_
  rintro e w2 ⟨rfl, hb2⟩
  replace HW1 := hide (zi (za HW1) hb2)
  replace HN1 := hide ((za HN1).below hb2)
  replace HP1 := hide ((za HP1).below hb2)
  clear q0 q1 q2 q3 p0 p1 hb2
  have q0 := AtC2.f (za HN1) 0
  have q1 := AtC2.f (za HN1) 1
  have q2 := AtC2.n0 (za HN1)
  have q3 := AtC2.n1 (za HN1)
  have p0 := AtC2.n0 (za HP1)
  have p1 := AtC2.n1 (za HP1)
  clear hr0 h3
  go_wp2_with fail
  go_region
  all_goals
   have HS := hide (((za HN1).st0 (.string t)).st1 (.int .i64 ((a : Int) + (m : Int))))
   have s0 := AtC2.n0 (za HS)
   have s1 := AtC2.n1 (za HS)
   have HZ := hide (((za HW1).setCell (p := ⟨w.heap.size + 1, 0, none⟩) (Nat.le_succ _) (.string t)).setCell (p := ⟨w.heap.size + 1, 1, none⟩) (Nat.le_succ _) (.int .i64 ((a : Int) + (m : Int))))
   try go_wp2_with fail
   refine bodyPost_ret (v := .tuple #[.string (r.extract 0 m), .agg #[.string t, .int .i64 ((a : Int) + (m : Int))]]) (by simp [results, Tryd.results8, go_sem, s0, s1]) rfl ⟨by rw [za HE, za HQ], ?_⟩
   first | exact za HZ | exact (za HZ).drew
theorem x9 (t : ByteArray) (p : Int) : (¬ (0 ≤ p ∧ p ≤ t.size)) ∨ ∃ a : Nat, p = a ∧ a ≤ t.size := by
 by_cases h : 0 ≤ p ∧ p ≤ t.size
 ·exact .inr ⟨p.toNat, by omega, by omega⟩
 ·exact .inl h
theorem kU (t : ByteArray) (a : Nat) (ha : a < t.size) : a < zx t a := by
 have := jR t a ha
 unfold zx
 omega
theorem jT (t : ByteArray) (p a b : Nat) (h1 : p ≤ a) (h2 : a ≤ b) : t.extract p a ++ t.extract a b = t.extract p b :=
 (ByteArray.extract_eq_extract_append_extract a h1 h2).symm
theorem xI (t : ByteArray) (p a : Nat) (h1 : p ≤ a) (h2 : a ≤ t.size) : t.extract p a ++ t.extract a (zx t a) = t.extract p (zx t a) :=
 jT t p a _ h1 (qk t a h2).1
theorem Zs (t : ByteArray) (j : Nat) (hj : j < t.size) (h : (t.get! j).toNat = 10) : t.extract j (j + 1) = ⟨#[10]⟩ := by
 apply ByteArray.ext_getElem
 ·rw [ByteArray.size_extract]; show _ = 1; omega
 ·intro i h1 h2
  have hi : i < 1 := h2
  have e : i = 0 := by omega
  subst e
  rw [ByteArray.getElem_extract, ← qP]
  rw [Nat.add_zero]
  exact UInt8.toNat_inj.1 h
theorem Zz {t : ByteArray} {a j : Nat} (ha : a < t.size) (h : IsLine t a j) : 0 < nxt t j ∧ nxt t j ≤ t.size ∧ a < nxt t j ∧ ((t.get! (nxt t j - 1)).toNat = 10 ↔ j < t.size) := by
 have h1 := h.lo
 have h2 := h.hi
 unfold nxt
 by_cases hj : j < t.size
 ·rw [if_pos hj]
  refine ⟨by omega, by omega, by omega, fun _ => hj, fun _ => ?_⟩
  rw [Nat.add_sub_cancel]
  exact h.nl hj
 ·rw [if_neg hj]
  refine ⟨by omega, by omega, by omega, fun e => ?_, fun e => absurd e hj⟩
  exact absurd e (h.no (j - 1) (by omega) (by omega))
theorem xW {t : ByteArray} {p a j : Nat} (hp : p ≤ a) (h : IsLine t a j) (hj : j < t.size) : t.extract p a ++ t.extract a j ++ ⟨#[10]⟩ = t.extract p (nxt t j) := by
 have h1 := h.lo
 rw [jT t p a j hp h1, ← Zs t j hj (h.nl hj)]
 unfold nxt
 rw [if_pos hj]
 exact jT t p j _ (by omega) (by omega)
theorem xo {t : ByteArray} {p a j : Nat} (hp : p ≤ a) (h : IsLine t a j) (hj : ¬ j < t.size) : t.extract p a ++ t.extract a j = t.extract p (nxt t j) := by
 have h1 := h.lo
 rw [jT t p a j hp h1]
 unfold nxt
 rw [if_neg hj]
def jZ (t : ByteArray) (a : Nat) (l : ByteArray) (q : Nat) (ok : Bool) : Prop := (a < t.size ∧ ∃ j, IsLine t a j ∧ l = t.extract a j ∧ q = nxt t j ∧ ok = true) ∨ (a = t.size ∧ l = ⟨#[]⟩ ∧ q = a ∧ ok = false)
theorem kL (t : ByteArray) (a : Nat) (ha : a ≤ t.size) : ∃ l q ok, jZ t a l q ok := by
 by_cases h : a < t.size
 ·obtain ⟨j, hj⟩ := jC t _ a ha rfl
  exact ⟨_, _, _, .inl ⟨h, j, hj, rfl, rfl, rfl⟩⟩
 ·exact ⟨_, _, _, .inr ⟨by omega, rfl, rfl, rfl⟩⟩
theorem kB {t l : ByteArray} {a q : Nat} {ok : Bool} (h : jZ t a l q ok) (W : World) (ht : t.size ≤ 1048576) :
  Calls Tryd.prog 10 #[.agg #[.string t, .int .i64 a]] W fun e w' => e = .returned (.tuple #[.string l, .agg #[.string t, .int .i64 (q : Nat)], .bool ok]) ∧ Below W.heap.size W w' := by
 rcases h with ⟨h1, j, hj, rfl, rfl, rfl⟩ | ⟨h1, rfl, rfl, rfl⟩
 ·exact yX t a j W ht h1 hj
 ·exact yw t _ W h1
theorem j7 {t l : ByteArray} {a q : Nat} {ok : Bool} (h : jZ t a l q ok) (W : World) (ht : t.size ≤ 1048576) (hT : Tabs W) (hw : 1 < W.heap.size) :
  Calls Tryd.prog 9 #[.agg #[.string t, .int .i64 a]] W fun e w' => e = .returned (.tuple #[.string l, .agg #[.string t, .int .i64 (q : Nat)], .bool ok]) ∧ Below W.heap.size W w' := by
 rcases h with ⟨h1, j, hj, rfl, rfl, rfl⟩ | ⟨h1, rfl, rfl, rfl⟩
 ·exact vD t (t.extract a j) a (nxt t j) true W ht (by omega) (by have := hj.hi; simp; omega) hT hw
   (fun W' x b hR hx hxb hT' hb' => Z4 x b a j t W' ht h1 hj hR hx hxb hT' hb')
 ·exact vD t ⟨#[]⟩ _ _ false W ht (by omega) (Nat.zero_le _) hT hw
   (fun W' x b hR hx _ _ _ => (xX x b _ t W' h1 hR hx).mono (by
    rintro e w' ⟨rfl, hb2⟩
    exact ⟨rfl, hR.below hb2, Kept.of_below hb2⟩))
theorem kA (t : ByteArray) (a : Nat) (W : World) (ht : t.size ≤ 1048576) (ha : a ≤ t.size) :
  Calls Tryd.prog 8 #[.agg #[.string t, .int .i64 a]] W fun e w' => e = .returned (.tuple #[.string (t.extract a (zx t a)), .agg #[.string t, .int .i64 (zx t a : Nat)]]) ∧ Below W.heap.size W w' := by
 by_cases h : a < t.size
 ·exact yW t a W ht h
 ·have he : a = t.size := by omega
  have hbh := qk t a ha
  have e1 : zx t a = a := by omega
  rw [e1, j4 (s := t.extract a a) (by simp)]
  exact yu t a W he
theorem kx (W : World) (x y : Operand) (xs ys : Array Value) : (eqGuard .neq 24 x y (.agg xs) (.agg ys)).run Tryd.prog W = .ok () W := run_eqGuard_agg W .neq 24 x y xs ys (by kernel_rfl)
theorem Zb (W : World) (s : ByteArray) (v : Int) : (binOp .neq 24 (.agg #[.string s, .int .i64 v]) (.agg #[.string s, .int .i64 v])).run Tryd.prog W = .ok (.bool false) W := by
 have hp : Tryd.prog.stoodInHeld 24 = false := by kernel_rfl
 rw [run_neq_struct]
 rw [show (10000 : Nat) = 9999 + 1 from rfl, run_equalIn_agg W 9999 24 _ _ (by kernel_rfl) hp]
 simp [go_sem, Op.eqFields, Program.fieldsOf, Tryd.underlying24, part, Tryd.underlying3, Tryd.underlying9]
def PBox (W : World) (l : List (Nat × ByteArray × Int)) : Prop := ∀ x ∈ l, AtC2 W x.1 (.string x.2.1) (.int .i64 x.2.2) 24
theorem PBox.below {W W' : World} {l : List (Nat × ByteArray × Int)} (h : PBox W l) (k : Below W.heap.size W W') : PBox W' l := fun x hx => (h x hx).below k
theorem PBox.push {W : World} {l : List (Nat × ByteArray × Int)} (h : PBox W l) (s : ByteArray) (v : Int) : PBox (W.alloc (.cells #[.string s, .int .i64 v] 24)) ((W.heap.size, s, v) :: l) := fun x hx => by
 rcases List.mem_cons.1 hx with rfl | hx
 ·exact AtC2.new W _ _ _
 ·exact (h x hx).alloc _
theorem PBox.nil (W : World) : PBox W [] := fun x hx => by simp at hx
theorem xn (a : Option Addr) (n cap : Nat) (w : World) (h : Bytes0 w a n) (hcap : n ≤ cap) (hmax : cap ≤ maxLen) (hT : Tabs w) (h1 : 1 < w.heap.size) :
  Calls Tryd.prog 3 #[.slice a n cap] w fun e w' => e = .returned (.bool true) ∧ Below w.heap.size w w' := by
 have H := hide h
 have HT := hide hT
 have HG := hide kx
 have HE := hide Zb
 clear h hT
 by_cases hn : 1048576 < (n : Int)
 ·unfold maxLen at hmax
  go_enter Tryd.func3, Tryd.ntmps3
  go_wp2_with fail
  go_ret
  exact ⟨rfl, Below.refl _ _⟩
 go_enter Tryd.func3, Tryd.ntmps3
 go_wp2_with fail
 refine (vI a n cap w (za H) hcap hmax).mono ?_
 rintro e w1 ⟨⟨t, v, rfl, ht, hv1, hv2⟩, hb1⟩
 have HB1 := hide hb1
 have hszw := hb1.size
 clear hb1 H
 have hts : t.size ≤ 1048576 := by omega
 rcases x9 t v with hp | ⟨p, rfl, hp⟩
 ·
  have HX := hide ((PBox.nil w1).push t v)
  have HB := hide (zh (za HB1) (.cells #[.string t, .int .i64 v] 24))
  clear HB1
  go_wp2_with fail
  refine (yZ t v _ hp).mono ?_
  rintro e w2 ⟨rfl, hb⟩
  replace HB := hide (zh (zi (za HB) hb) (.cells #[.string ⟨#[]⟩, .int .i64 0] 24))
  replace HX := hide (((za HX).below hb).push ⟨#[]⟩ 0)
  have a0 := ((za HX) (w1.heap.size, t, v) (by simp)).n0
  have a1 := ((za HX) (w1.heap.size, t, v) (by simp)).n1
  have hlt := AtC2.lt ((za HX) (w1.heap.size, t, v) (by simp))
  have hz_w2 : w1.heap.size + 1 ≤ w2.heap.size := by have := hb.size; simpa using this
  clear hb
  go_wp2_with fail
  clear a0 a1 hlt
  refine (yt t v _ hp).mono ?_
  rintro e w3 ⟨rfl, hb⟩
  replace HB := hide (zh (zi (za HB) hb) (.cells #[.string ⟨#[]⟩, .int .i64 0] 24))
  replace HX := hide (((za HX).below hb).push ⟨#[]⟩ 0)
  have a0 := ((za HX) (w1.heap.size, t, v) (by simp)).n0
  have a1 := ((za HX) (w1.heap.size, t, v) (by simp)).n1
  have hlt := AtC2.lt ((za HX) (w1.heap.size, t, v) (by simp))
  have hz_w3 : w2.heap.size + 1 ≤ w3.heap.size := by have := hb.size; simpa using this
  clear hb
  go_wp2_with fail
  clear a0 a1 hlt
  refine (y4 t v _ hp).mono ?_
  rintro e w4 ⟨rfl, hb⟩
  replace HB := hide (zh (zi (za HB) hb) (.cells #[.string ⟨#[]⟩, .int .i64 0] 24))
  replace HX := hide (((za HX).below hb).push ⟨#[]⟩ 0)
  have a0 := ((za HX) (w1.heap.size, t, v) (by simp)).n0
  have a1 := ((za HX) (w1.heap.size, t, v) (by simp)).n1
  have hlt := AtC2.lt ((za HX) (w1.heap.size, t, v) (by simp))
  have hz_w4 : w3.heap.size + 1 ≤ w4.heap.size := by have := hb.size; simpa using this
  clear hb
  go_wp2_with fail
  clear a0 a1 hlt
  refine (yv t v _ hp).mono ?_
  rintro e w5 ⟨rfl, hb⟩
  replace HB := hide (zh (zi (za HB) hb) (.cells #[.string ⟨#[]⟩, .int .i64 0] 24))
  replace HX := hide (((za HX).below hb).push ⟨#[]⟩ 0)
  have a0 := ((za HX) (w1.heap.size, t, v) (by simp)).n0
  have a1 := ((za HX) (w1.heap.size, t, v) (by simp)).n1
  have hlt := AtC2.lt ((za HX) (w1.heap.size, t, v) (by simp))
  have hz_w5 : w4.heap.size + 1 ≤ w5.heap.size := by have := hb.size; simpa using this
  clear hb
  have b0 := ((za HX) (w2.heap.size, ⟨#[]⟩, 0) (by simp)).n0
  have b1 := ((za HX) (w2.heap.size, ⟨#[]⟩, 0) (by simp)).n1
  have c0 := ((za HX) (w3.heap.size, ⟨#[]⟩, 0) (by simp)).n0
  have c1 := ((za HX) (w3.heap.size, ⟨#[]⟩, 0) (by simp)).n1
  have d0 := ((za HX) (w4.heap.size, ⟨#[]⟩, 0) (by simp)).n0
  have d1 := ((za HX) (w4.heap.size, ⟨#[]⟩, 0) (by simp)).n1
  have g0 := ((za HX) (w5.heap.size, ⟨#[]⟩, 0) (by simp)).n0
  have g1 := ((za HX) (w5.heap.size, ⟨#[]⟩, 0) (by simp)).n1
  have q1 : ((⟨#[]⟩ : ByteArray).toList != (⟨#[]⟩ : ByteArray).toList) = false := by simp
  have q2 : ((⟨#[]⟩ : ByteArray).toList != (⟨#[]⟩ : ByteArray).toList) = false := by simp
  have q3 : ((false : Bool) != false) = false := by simp
  have hG := za HG
  have hE := za HE
  go_wp2_with fail
  all_goals
   go_ret
   exact ⟨rfl, za HB⟩
 ·obtain ⟨l, lq, ok, hl⟩ := kL t p hp
  obtain ⟨S, hS⟩ : ∃ S, t.extract p (zx t p) = S := ⟨_, rfl⟩
  obtain ⟨pb, hpb⟩ : ∃ pb, zx t p = pb := ⟨_, rfl⟩
  have C1 := hide (fun W => vC t p W hts hp)
  have C2 := hide (fun W => kA t p W hts hp)
  rw [hS, hpb] at C1 C2
  have HS := hide hS
  have HP := hide hpb
  have HL := hide hl
  clear hS hpb hl
  have HX := hide ((PBox.nil w1).push t (p : Int))
  have HB := hide (zh (za HB1) (.cells #[.string t, .int .i64 (p : Int)] 24))
  clear HB1
  go_wp2_with fail
  refine ((za C1) _ ((za HT).below h1 (za HB)) (by have := (za HB).size; omega)).mono ?_
  rintro e w2 ⟨rfl, hb⟩
  replace HB := hide (zh (zi (za HB) hb) (.cells #[.string t, .int .i64 (pb : Int)] 24))
  replace HX := hide (((za HX).below hb).push t (pb : Int))
  have a0 := ((za HX) (w1.heap.size, t, (p : Int)) (by simp)).n0
  have a1 := ((za HX) (w1.heap.size, t, (p : Int)) (by simp)).n1
  have hlt := AtC2.lt ((za HX) (w1.heap.size, t, (p : Int)) (by simp))
  have hz_w2 : w1.heap.size + 1 ≤ w2.heap.size := by have := hb.size; simpa using this
  clear hb
  go_wp2_with fail
  clear a0 a1 hlt
  refine ((za C2) _).mono ?_
  rintro e w3 ⟨rfl, hb⟩
  replace HB := hide (zh (zi (za HB) hb) (.cells #[.string t, .int .i64 (pb : Int)] 24))
  replace HX := hide (((za HX).below hb).push t (pb : Int))
  have a0 := ((za HX) (w1.heap.size, t, (p : Int)) (by simp)).n0
  have a1 := ((za HX) (w1.heap.size, t, (p : Int)) (by simp)).n1
  have hlt := AtC2.lt ((za HX) (w1.heap.size, t, (p : Int)) (by simp))
  have hz_w3 : w2.heap.size + 1 ≤ w3.heap.size := by have := hb.size; simpa using this
  clear hb
  go_wp2_with fail
  clear a0 a1 hlt
  refine (j7 (za HL) _ hts ((za HT).below h1 (za HB)) (by have := (za HB).size; omega)).mono ?_
  rintro e w4 ⟨rfl, hb⟩
  replace HB := hide (zh (zi (za HB) hb) (.cells #[.string t, .int .i64 (lq : Int)] 24))
  replace HX := hide (((za HX).below hb).push t (lq : Int))
  have a0 := ((za HX) (w1.heap.size, t, (p : Int)) (by simp)).n0
  have a1 := ((za HX) (w1.heap.size, t, (p : Int)) (by simp)).n1
  have hlt := AtC2.lt ((za HX) (w1.heap.size, t, (p : Int)) (by simp))
  have hz_w4 : w3.heap.size + 1 ≤ w4.heap.size := by have := hb.size; simpa using this
  clear hb
  go_wp2_with fail
  clear a0 a1 hlt
  refine (kB (za HL) _ hts).mono ?_
  rintro e w5 ⟨rfl, hb⟩
  replace HB := hide (zh (zi (za HB) hb) (.cells #[.string t, .int .i64 (lq : Int)] 24))
  replace HX := hide (((za HX).below hb).push t (lq : Int))
  have a0 := ((za HX) (w1.heap.size, t, (p : Int)) (by simp)).n0
  have a1 := ((za HX) (w1.heap.size, t, (p : Int)) (by simp)).n1
  have hlt := AtC2.lt ((za HX) (w1.heap.size, t, (p : Int)) (by simp))
  have hz_w5 : w4.heap.size + 1 ≤ w5.heap.size := by have := hb.size; simpa using this
  clear hb
  have b0 := ((za HX) (w2.heap.size, t, (pb : Int)) (by simp)).n0
  have b1 := ((za HX) (w2.heap.size, t, (pb : Int)) (by simp)).n1
  have c0 := ((za HX) (w3.heap.size, t, (pb : Int)) (by simp)).n0
  have c1 := ((za HX) (w3.heap.size, t, (pb : Int)) (by simp)).n1
  have d0 := ((za HX) (w4.heap.size, t, (lq : Int)) (by simp)).n0
  have d1 := ((za HX) (w4.heap.size, t, (lq : Int)) (by simp)).n1
  have g0 := ((za HX) (w5.heap.size, t, (lq : Int)) (by simp)).n0
  have g1 := ((za HX) (w5.heap.size, t, (lq : Int)) (by simp)).n1
  have q1 : ((S : ByteArray).toList != (S : ByteArray).toList) = false := by simp
  have q2 : ((l : ByteArray).toList != (l : ByteArray).toList) = false := by simp
  have q3 : ((ok : Bool) != ok) = false := by simp
  have hG := za HG
  have hE := za HE
  have u1 : decide (t.size < p) = false := decide_eq_false (by omega)
  have u2 : decide ((p : Int) < 0) = false := decide_eq_false (by omega)
  have u3 : ¬ t.size < p := by omega
  have u4 : ¬ (p : Int) < 0 := by omega
  go_wp2_with fail
  have H3 := hide ((za HX) (w1.heap.size, t, (p : Int)) (by simp))
  have H5 := hide ((za HX) (w2.heap.size, t, (pb : Int)) (by simp))
  have H9 := hide ((za HX) (w4.heap.size, t, (lq : Int)) (by simp))
  have hww : w.heap.size ≤ w1.heap.size := hszw
  have hw12 : w1.heap.size ≠ w2.heap.size := by omega
  have hw14 : w1.heap.size ≠ w4.heap.size := by omega
  have hw24 : w2.heap.size ≠ w4.heap.size := by omega
  clear HX a0 a1 b0 b1 c0 c1 d0 d1 g0 g1 q1 q2 q3 hG hE HG HE hlt C1 C2
  dsimp only at H3 H5 H9
  go_loopw [4, 14, 15] (fun vs va vn wr => ∃ (a2 n2 : Nat) (X Y : ByteArray) (b2 : Nat), vs = .string X ∧ va = .string Y ∧ vn = .int .i64 n2 ∧ p ≤ a2 ∧ a2 ≤ t.size ∧ n2 ≤ a2 - p ∧ Hid (t.extract a2 (zx t a2) = X) ∧ Hid (t.extract p a2 = Y) ∧ Hid (zx t a2 = b2) ∧ Hid (Below w.heap.size w wr) ∧ Hid (AtC2 wr w1.heap.size (.string t) (.int .i64 (p : Int)) 24) ∧ Hid (AtC2 wr w2.heap.size (.string t) (.int .i64 (b2 : Int)) 24) ∧ Hid (AtC2 wr w4.heap.size (.string t) (.int .i64 (lq : Int)) 24)) (fun _ _ vn _ => t.size + 1 - (intOf vn).toNat)
  case atStart => exact ⟨p, 0, S, _, pb, rfl, rfl, rfl, by omega, hp, by omega, HS, hide (j4 (by simp)), HP, HB, H3, H5, H9⟩
  case round =>
   clear HB H3 H5 H9 HS HP
   obtain ⟨a2, n2, X, Y, b2, rfl, rfl, rfl, hpa, has, hna, HX, HY, HP, HB, H3, H5, H9⟩ := hrel
   have r0 := (za H3).n0
   have r1 := (za H3).n1
   have hXs : X.size = b2 - a2 := by rw [← za HX, ← za HP]; have := qk t a2 has; simp; omega
   have hYs : Y.size ≤ t.size := by rw [← za HY]; simp; omega
   by_cases hlt : a2 < t.size
   ·have hbg := kU t a2 hlt
    have hbl := qk t a2 has
    rw [za HP] at hbg hbl
    have q0 := jV X (by omega)
    have k5 := (za H5).n0
    have k6 := (za H5).n1
    have f0 := (za H5).f 0
    have f1 := (za H5).f 1
    have hsz : ¬ 9223372036854775807 < Y.size + X.size := by omega
    have e1 := wi64 ((n2 : Int) + 1) (by omega) (by omega)
    obtain ⟨b3, hb3⟩ : ∃ b3, zx t b2 = b3 := ⟨_, rfl⟩
    obtain ⟨X3, hX3⟩ : ∃ X3, t.extract b2 b3 = X3 := ⟨_, rfl⟩
    have C3 := vC t b2 wr hts hbl.2 ((za HT).below h1 (za HB)) (by have := (za HB).size; omega)
    rw [hb3, hX3] at C3
    have HC := hide C3
    have HX3 : Hid (t.extract b2 (zx t b2) = X3) := hide (by rw [hb3]; exact hX3)
    have HP3 := hide hb3
    have HY3 : Hid (t.extract p b2 = Y ++ X) := hide (by
     have h := xI t p a2 hpa has
     rw [za HX, za HY, za HP] at h
     exact h.symm)
    clear hb3 hX3 C3
    go_wp2_with fail
    refine (za HC).mono ?_
    rintro e w7 ⟨rfl, hb⟩
    have HB7 := hide (((zi (za HB) hb).setCell (p := ⟨w2.heap.size, 0, none⟩) (by show w.heap.size ≤ w2.heap.size; omega) (.string t)).setCell (p := ⟨w2.heap.size, 1, none⟩) (by show w.heap.size ≤ w2.heap.size; omega) (.int .i64 (b3 : Int)))
    have G3 := (za H3).below hb
    have G5 := (za H5).below hb
    have G9 := (za H9).below hb
    have k5 := G5.n0
    have k6 := G5.n1
    have f0 := G5.f 0
    have f1 := G5.f 1
    have M3 := hide ((G3.far (a := ⟨w2.heap.size, 0, none⟩) (fun e => hw12 e.symm) (.string t)).far (a := ⟨w2.heap.size, 1, none⟩) (fun e => hw12 e.symm) (.int .i64 (b3 : Int)))
    have M5 := hide ((G5.st0 (.string t)).st1 (.int .i64 (b3 : Int)))
    have M9 := hide ((G9.far (a := ⟨w2.heap.size, 0, none⟩) (fun e => hw24 e) (.string t)).far (a := ⟨w2.heap.size, 1, none⟩) (fun e => hw24 e) (.int .i64 (b3 : Int)))
    clear hb G3 G5 G9 HC r0 r1
    go_wp2_with fail
    go_roundw
    case rel => exact ⟨b2, n2 + 1, X3, _, b3, rfl, rfl, by go_num, by omega, hbl.2, by omega, HX3, HY3, HP3, HB7, M3, M5, M9⟩
    case measure => simp [intOf]; omega
   ·have hae : a2 = t.size := by omega
    have hX0 : X.size = 0 := by rw [← za HX]; have := qk t a2 has; simp; omega
    have q0 := j5 X hX0
    have HYT : Hid (t.extract p t.size = Y) := hide (by rw [← hae]; exact za HY)
    have HB0 := hide (za HB)
    clear HX HY HP H5 hae hX0
    go_wp2_with fail
    clear r0 r1 q0
    have HLX : Hid (∃ hok : ok = decide (p < t.size), jZ t p l lq (decide (p < t.size))) := hide (by
     have h := za HL
     rcases id h with ⟨h1, j, h2, h3, h4, h5⟩ | ⟨h1, h2, h3, h4⟩
     ·have e : ok = decide (p < t.size) := by rw [h5]; simp [h1]
      exact ⟨e, e ▸ h⟩
     ·have e : ok = decide (p < t.size) := by rw [h4]; simp [h1]
      exact ⟨e, e ▸ h⟩)
    obtain ⟨hok, hlx⟩ := za HLX
    have HLL := hide hlx
    have HOK := hide hok
    clear hok hlx HLX HL
    go_loopw [8, 10, 16, 17] (fun vl vok vs vn wr => ∃ (a2 n2 q2 : Nat) (L Z : ByteArray), vl = .string L ∧ vok = .bool (decide (a2 < t.size)) ∧ vs = .string Z ∧ vn = .int .i64 n2 ∧ p ≤ a2 ∧ a2 ≤ t.size ∧ n2 ≤ a2 - p ∧ Hid (t.extract p a2 = Z) ∧ Hid (jZ t a2 L q2 (decide (a2 < t.size))) ∧ Hid (Below w.heap.size w wr) ∧ Hid (AtC2 wr w1.heap.size (.string t) (.int .i64 (p : Int)) 24) ∧ Hid (AtC2 wr w4.heap.size (.string t) (.int .i64 (q2 : Int)) 24)) (fun _ _ _ vn _ => t.size + 1 - (intOf vn).toNat)
    case atStart => exact ⟨p, 0, lq, l, _, rfl, by rw [za HOK], rfl, rfl, by omega, hp, by omega, hide (j4 (by simp)), HLL, HB0, H3, H9⟩
    case round =>
     clear HB HB0 H3 H9 HLL HOK
     obtain ⟨a3, n3, q2, L, Z, rfl, rfl, rfl, rfl, hpa3, has3, hna3, HZ, HLN, HB, H3, H9⟩ := hrel
     have r0 := (za H3).n0
     have r1 := (za H3).n1
     have hZs : Z.size ≤ t.size := by rw [← za HZ]; simp; omega
     by_cases hlt : a3 < t.size
     ·have u5 : decide (a3 < t.size) = true := decide_eq_true hlt
      rcases za HLN with ⟨_, j, hj, hL, hq, _⟩ | ⟨h9, _⟩
      case inr => omega
      obtain ⟨l1, l2, l3, l4⟩ := Zz hlt hj
      rw [← hq] at l1 l2 l3 l4
      obtain ⟨k, rfl⟩ : ∃ k, q2 = k + 1 := ⟨q2 - 1, by omega⟩
      rw [Nat.add_sub_cancel] at l4
      have hkt : k < t.size := by omega
      rw [qP t k hkt] at l4
      obtain ⟨d, hd⟩ : ∃ d, t[k] = d := ⟨_, rfl⟩
      rw [hd] at l4
      obtain ⟨nd, hnd⟩ : ∃ nd, d.toNat = nd := ⟨_, rfl⟩
      rw [hnd] at l4
      have hLs : L.size ≤ t.size := by rw [hL]; have := hj.hi; simp; omega
      have k9 := (za H9).n0
      have k8 := (za H9).n1
      have f0 := (za H9).f 0
      have f1 := (za H9).f 1
      have e1 := wi64 ((n3 : Int) + 1) (by omega) (by omega)
      have e2 := wi64 (k : Int) (by omega) (by omega)
      have hsz : ¬ 9223372036854775807 < Z.size + L.size := by omega
      have hsz2 : ¬ 9223372036854775807 < (Z ++ L).size + 1 := by rw [ByteArray.size_append]; omega
      obtain ⟨L2, q3, ok3, hl3⟩ := kL t (k + 1) l2
      have hok3 : ok3 = decide (k + 1 < t.size) := by
       rcases hl3 with ⟨g1, _, _, _, _, g5⟩ | ⟨g1, _, _, g4⟩
       ·rw [g5]; simp [g1]
       ·rw [g4]; simp [g1]
      rw [hok3] at hl3
      have C9 := j7 hl3 wr hts ((za HT).below h1 (za HB)) (by have := (za HB).size; omega)
      rw [show ((k + 1 : Nat) : Int) = (k : Int) + 1 by omega] at C9
      have HC := hide C9
      have HL3 := hide hl3
      have HJ := hide hj
      have HLE := hide hL
      have HQE := hide hq
      clear hl3 hok3 C9 hj hL hq HLN
      by_cases hjs : j < t.size
      ·have h10 : nd = 10 := l4.2 hjs
       have u6 : ((nd : Int) == 10) = true := qo (by omega)
       have HZ2 : Hid (t.extract p (k + 1) = Z ++ L ++ ⟨#[10]⟩) := hide (by rw [← za HZ, za HLE, za HQE]; exact (xW hpa3 (za HJ) hjs).symm)
       clear h10
       go_wp2_with fail
       refine (za HC).mono ?_
       rintro e w7 ⟨rfl, hb⟩
       have HB7 := hide (((zi (za HB) hb).setCell (p := ⟨w4.heap.size, 0, none⟩) (by show w.heap.size ≤ w4.heap.size; omega) (.string t)).setCell (p := ⟨w4.heap.size, 1, none⟩) (by show w.heap.size ≤ w4.heap.size; omega) (.int .i64 (q3 : Int)))
       have G3 := (za H3).below hb
       have G9 := (za H9).below hb
       have k5 := G9.n0
       have k6 := G9.n1
       have f5 := G9.f 0
       have f6 := G9.f 1
       have M3 := hide ((G3.far (a := ⟨w4.heap.size, 0, none⟩) (fun e => hw14 e.symm) (.string t)).far (a := ⟨w4.heap.size, 1, none⟩) (fun e => hw14 e.symm) (.int .i64 (q3 : Int)))
       have M9 := hide ((G9.st0 (.string t)).st1 (.int .i64 (q3 : Int)))
       clear hb G3 G9 HC r0 r1 k8 k9 f0 f1 u5
       go_wp2_with fail
       go_roundw
       case rel => exact ⟨k + 1, n3 + 1, q3, L2, _, rfl, rfl, rfl, by go_num, by omega, l2, by omega, HZ2, HL3, HB7, M3, M9⟩
       case measure => simp [intOf]; omega
      ·have h10 : nd ≠ 10 := fun e => hjs (l4.1 e)
       have u6 : ((nd : Int) == 10) = false := zF (by omega)
       have HZ2 : Hid (t.extract p (k + 1) = Z ++ L) := hide (by rw [← za HZ, za HLE, za HQE]; exact (xo hpa3 (za HJ) hjs).symm)
       clear h10
       go_wp2_with fail
       refine (za HC).mono ?_
       rintro e w7 ⟨rfl, hb⟩
       have HB7 := hide (((zi (za HB) hb).setCell (p := ⟨w4.heap.size, 0, none⟩) (by show w.heap.size ≤ w4.heap.size; omega) (.string t)).setCell (p := ⟨w4.heap.size, 1, none⟩) (by show w.heap.size ≤ w4.heap.size; omega) (.int .i64 (q3 : Int)))
       have G3 := (za H3).below hb
       have G9 := (za H9).below hb
       have k5 := G9.n0
       have k6 := G9.n1
       have f5 := G9.f 0
       have f6 := G9.f 1
       have M3 := hide ((G3.far (a := ⟨w4.heap.size, 0, none⟩) (fun e => hw14 e.symm) (.string t)).far (a := ⟨w4.heap.size, 1, none⟩) (fun e => hw14 e.symm) (.int .i64 (q3 : Int)))
       have M9 := hide ((G9.st0 (.string t)).st1 (.int .i64 (q3 : Int)))
       clear hb G3 G9 HC r0 r1 k8 k9 f0 f1 u5
       go_wp2_with fail
       go_roundw
       case rel => exact ⟨k + 1, n3 + 1, q3, L2, _, rfl, rfl, rfl, by go_num, by omega, l2, by omega, HZ2, HL3, HB7, M3, M9⟩
       case measure => simp [intOf]; omega
     ·have u5 : decide (a3 < t.size) = false := decide_eq_false hlt
      have hZY : Z = Y := by rw [← za HZ, ← za HYT, show a3 = t.size by omega]
      subst hZY
      have hYT := za HYT
      have u6 : (Z.toList == Z.toList) = true := by simp
      go_wp2_with fail
      go_ret
      exact ⟨rfl, za HB⟩
end Go.Proofs.YtnenoaenjaghhaaDoor
namespace Go.Proofs.YtnenoaenjaghhaaDoor
open Go.ChangeShapes Go.WideShapes Go.ChangeAt Go.RowKit Go.Joins Nt
theorem own : ownKnob Tryd.prog.godebug = none := by kernel_rfl
theorem Zy : laidOutB Tryd.prog = true := by kernel_rfl
theorem u8X : Go.Proofs.U8Extra Tryd.prog Tryd.lays260_ren := ⟨by kernel_rfl, by kernel_rfl, by kernel_rfl, by kernel_rfl, by kernel_rfl, by kernel_rfl, by kernel_rfl⟩
theorem kR : (Rows.laid_unicode_utf8_acceptRanges : DataW Unit) = Lib.acceptData := by kernel_rfl
theorem yy {W : World} (h : laidMet Tryd.prog Rows.fnTabPortRow.laid W) : Tabs W :=
 Go.Proofs.utf8Tabs_of_reads (ρ := Tryd.lays260_ren) Tryd.lays260 u8X (Pinned.utf8First_eq ▸ Lib.laidMet.reads h (.tail _ (.head _))) (kR ▸ Lib.laidMet.reads h (.head _))
theorem xG {H : Type} {enc : TypeId × Value → H} {W : World} {a0 : Option Addr} {len cap : Nat} {d : DataW H} {p : List MemPlace}
  (h : DataW.Trod enc Tryd.prog W 0 (fun _ => true) true 22 (.slice a0 len cap) d p) : Bytes0 W a0 len ∧ len ≤ cap ∧ cap ≤ maxLen := by
 obtain ⟨fuel, hf⟩ := h
 rcases open_ints Tryd.underlying22 Tryd.underlying5 (by kernel_rfl) hf with ⟨hcs, _⟩ | ⟨x, l, c, zs, hcs, _, hl, hm, hz, _, hcell, hwz⟩
 ·simp [Value.cells] at hcs
  obtain ⟨rfl, rfl, rfl⟩ := hcs
  exact ⟨fun h => absurd h (by omega), Nat.le_refl _, by unfold maxLen; omega⟩
 ·simp [Value.cells] at hcs
  obtain ⟨rfl, rfl, rfl⟩ := hcs
  refine ⟨fun h0 => ?_, hl, hm⟩
  have hz' : zs.length = cap := by simpa using hz
  obtain ⟨b, off, spot⟩ := x
  have hc := hcell 0 (by omega)
  have hspot : spot = none := by simpa [Addr.add] using World.cell?_spot hc
  subst hspot
  refine ⟨b, off, rfl, World.block_lt_of_cell? W _ hc, fun j hj => ?_⟩
  have hcj := hcell j (by omega)
  have hjz : j < zs.length := by omega
  have hw := hwz (zs.getD j 0) (by rw [List.getD_eq_getElem?_getD, List.getElem?_eq_getElem hjz]; exact List.getElem_mem hjz)
  have hw' : 0 ≤ zs.getD j 0 ∧ zs.getD j 0 ≤ 255 := by simpa [Lit.wf, IntKind.min, IntKind.max, IntKind.signed, IntKind.bits] using hw
  refine ⟨(zs.getD j 0).toNat, by omega, ?_⟩
  rw [show (((zs.getD j 0).toNat : Nat) : Int) = zs.getD j 0 from by omega]
  by_cases hj0 : j = 0
  ·subst hj0; simpa [Addr.add] using hcj
  ·simpa [Addr.add, hj0] using hcj
theorem yR (os : Os) (started : os.Started) (H : Type) (enc : TypeId × Value → H) :
  ReturnsInHanded {} Tryd.checked os 3 .any (fun w args => (Rows.fnTabPortSpec.pre enc Tryd.prog Tryd.f3 [] false w args ∧ laidMetH Tryd.prog Rows.fnTabPortRow.laid w) ∧ sizedMet enc Tryd.prog Tryd.f3 (OpenSpec.ofChange Rows.fnTabPortSpec) false w args)
   (Rows.fnTabPortSpec.post enc Tryd.prog Tryd.f3 false true false false) := by
 refine returnsInHanded_of_change_and (C := Tryd.checked) (X := fun w _ => laidMetH Tryd.prog Rows.fnTabPortRow.laid w) (fun _ _ _ hh h => h.of_heap hh) own started (by kernel_rfl) Tryd.func3
  (ChangeSpec.witness_shaped (enc := enc) (C := Tryd.checked) (os := os) (X := fun w _ => laidMetH Tryd.prog Rows.fnTabPortRow.laid w) false (World.laidAll Tryd.prog os Rows.fnTabPortRow.laid) #[.slice none 0 0] 8 (World.laidAll_os _ _ _)
   (World.shaped_of_ZipB (by kernel_rfl) (by kernel_rfl)) (by kernel_rfl) (by kernel_rfl) (by kernel_rfl)
   (by rw [MakeChecks.laidMetH_plain _ _ _ (by kernel_rfl)]; exact laidMet_laidAll _ (by kernel_rfl) (by kernel_rfl))) ?_
 intro W base args ds gs before hval0 hW _ _ hL _
 have hval : ∀ (j : Nat) t v, Tryd.f3.params[j]? = some t → args[j]? = some v → Value.okWide Tryd.prog W .any base t v := hval0
 have hW' := hW
 obtain ⟨p, q, hA0, hV, rfl, _, _⟩ := hW
 have hA : DataW.TrodAll enc Tryd.prog W 0 (fun _ => true) true Tryd.f3.params.toList args.toList ds p := hA0
 rw [Tryd.params3] at hA hval
 obtain ⟨v0, d0, rfl, rfl, h0⟩ := trodAll_one hA
 obtain ⟨rfl, rfl⟩ := trodVars_none hV
 have k0 := h0
 have lt0 : ∀ x ∈ p, x.block < W.heap.size := by obtain ⟨m, hm⟩ := k0; exact DataW.trod_lt m _ _ _ hm
 obtain ⟨a0, len0, cap0, rfl⟩ := okWide_slice Tryd.underlying22 (hval 0 22 v0 rfl rfl)
 have b0 := xG h0
 simp only [List.append_nil] at hW'
 rw [MakeChecks.laidMetH_plain _ _ _ (by kernel_rfl)] at hL
 have hT := yy hL
 have hg1 : 1 < W.heap.size := by
  have := (hT.2 0 (by omega)).1
  exact World.block_lt_of_cell? W ⟨1, _, none⟩ this
 refine (xn a0 len0 cap0 W b0.1 b0.2.1 b0.2.2 hT hg1).mono fun e W' ⟨he, hb⟩ => ?_
 subst he
 exact ⟨_, rfl, _, _, _, [], _, [], hW', trodAll_mk1 (shut_bool Tryd.underlying4 _), trodAll_mk1 (Below.trod Zy (by kernel_rfl) (of_decide_eq_true (by kernel_rfl)) k0 hb lt0), rfl, hb.frame _, fun h => by cases h⟩
theorem ky : Rows.FnTabPortSaid :=
 OpenClaim.holds_of_wide 3 Tryd.f3 rfl rfl rfl rfl rfl rfl rfl ⟨rfl, rfl, rfl, rfl, rfl⟩ rfl rfl rfl rfl rfl (by kernel_rfl) Tryd.func3 (by kernel_rfl)
  (of_decide_eq_true (by kernel_rfl)) (by unfold Func.isWrapper; first | (rw [if_pos (by decide +kernel)]; kernel_rfl) | (rw [if_neg (by decide +kernel)]; exact ⟨rfl, rfl⟩))
  (fun os started H enc _ => yR os started H enc)
theorem fnTabPort_card : Rows.FnTabPortCardSaid :=
 Claim7.holds_tied_plain_at .later [] [.data, .pinned] true Rows.fnTabPortCard.stood.harness false ky (fun _ h => by cases h) (by kernel_rfl) (fun _ h => by cases h) fnTabPort_row_tie rfl ⟨rfl, rfl⟩ (by kernel_rfl) rfl
  (fun f fn hf hfn => by
   obtain rfl : f = 3 := Option.some.inj ((show Tryd.prog.funcNamed "loop.example/sistab/laws.FnTabPort" = some 3 by kernel_rfl).symm.trans hf) |>.symm
   obtain rfl : fn = Tryd.f3 := (Option.some.inj (Tryd.func3.symm.trans hfn)).symm
   exact ⟨by kernel_rfl, fun j t ht => by
    rw [Tryd.params3] at ht
    have hm : t ∈ [22] := by simpa using Array.mem_of_getElem? ht
    have hall : ([22].all fun u => !Tryd.prog.wantsStandIn u) = true := by kernel_rfl
    exact (show Tryd.prog.wantsStandIn t = false by simpa using List.all_eq_true.1 hall t hm)⟩)
  (by kernel_rfl)
#print axioms fnTabPort_card
end Go.Proofs.YtnenoaenjaghhaaDoor
