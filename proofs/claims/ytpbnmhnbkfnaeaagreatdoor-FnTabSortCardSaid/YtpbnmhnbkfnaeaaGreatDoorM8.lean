/- A part of the proof, put together out of smaller texts. -/
import Derived.Test.YtpbnmhnbkfnaeaaGreatDoorM7
import Derived.Lib.ConvBytes
import Derived.RangeFuncNested
import Derived.RangeFuncBound
import Derived.RangeFuncCalls
import Derived.RangeFuncLeaves
import Derived.Shelf.Abstract
import Derived.Shelf.RegionOpen
import Derived.WalkKit
import Derived.OwnWalkIn
import Derived.TacticsInMore
import Derived.LoopNIn
import Derived.LoopIn
import Derived.Deep.Cut
import Derived.Maps.AppendAt
import Derived.RangeFuncBox
import Derived.RegionIn
import Derived.Deep.RegionWith
import Derived.Deep.RegionHeld3
import Derived.Deep.CutRange
set_option linter.all false
set_option maxRecDepth 100000
set_option maxHeartbeats 32000000
namespace Go.Proofs.YtpbnmhnbkfnaeaaGreatDoor
open Go.RowKit Nt
theorem zbS (H : Nat) (b : UInt8) (n : Nat) (hn : b.toNat = n) : (31 * (H : Int) + (n : Int)).tmod 65521 = ((hB H b : Nat) : Int) := by
 unfold hB; rw [hn, Int.tmod_eq_emod_of_nonneg (by omega)]; omega
theorem XV (H k : Nat) : (257 * (H : Int) + (k : Int)).tmod 65521 = ((hK H k : Nat) : Int) := by
 unfold hK; rw [Int.tmod_eq_emod_of_nonneg (by omega)]; omega
theorem w64 {x : Int} (h0 : -9000000000000000000 ≤ x) (h1 : x ≤ 9000000000000000000) : wrap64 x = x := by unfold wrap64; omega
theorem Jv {h H j n : Nat} {t : List UInt8} {c : UInt8} (hc : t[j]? = some c) (hH : hText h (t.take j) = H) (hn : c.toNat = n) (hn9 : n < 256) (hH9 : H ≤ 1048639) :
  ∃ H2 S : Nat, Hid (hText h (t.take (j + 1)) = H2) ∧ wrap64 (31 * (H : Int) + (n : Int)) = (S : Int) ∧ (S : Int).tmod 65521 = (H2 : Int) ∧ wrap64 (n : Int) = (n : Int) := by
 have e3 := zbS H c n hn
 refine ⟨_, 31 * H + n, hide ((Yj (h := h) hc).trans (by rw [hH])), ?_, ?_, w64 (by omega) (by omega)⟩
 ·rw [w64 (by omega) (by omega)]; rfl
 ·exact e3
theorem zbd {f : Int → Nat} {h H j M : Nat} {ks : List Int} {x : Int} (hx : ks[j]? = some x) (hH : (ks.take j).foldl (fun h k => hK h (f k)) h = H) (hM : f x = M) (hH9 : H ≤ 1048639) (hM9 : M ≤ 1048639) :
  ∃ H2 S : Nat, Hid ((ks.take (j + 1)).foldl (fun h k => hK h (f k)) h = H2) ∧ wrap64 (257 * (H : Int) + (M : Int)) = (S : Int) ∧ (S : Int).tmod 65521 = (H2 : Int) ∧ Hid ((257 * (H : Int) + (M : Int)) % 65521 = (H2 : Int)) := by
 have e3 := XV H M
 refine ⟨_, 257 * H + M, hide ((Yg (f := f) (h := h) hx).trans (by rw [hH, hM])), ?_, ?_, ?_⟩
 ·rw [w64 (by omega) (by omega)]; rfl
 ·exact e3
 ·rw [Int.tmod_eq_emod_of_nonneg (by omega)] at e3; exact e3
theorem K4 (ns : List Nd) (na : Option Addr) (nc : Nat) (hn : ns.all (ndOk ns.length) = true) (hs : zM ns) : ∀ (d : Nat), d ≤ 3 → ∀ (x : Int) (w : World), 0 ≤ x ∧ x < ns.length → NodesAt w (.slice na ns.length nc) ns →
  Calls Tryz.prog 46 #[.slice na ns.length nc, .int .i64 x, .int .i64 d] w fun e w' => e = .returned (.int .i64 (hashD ns d x : Nat)) ∧ Below w.heap.size w w' := by
 intro d
 induction d with
 | zero =>
  intro _ x w hx hN
  obtain ⟨k, rfl⟩ : ∃ k : Nat, x = (k : Int) := ⟨x.toNat, by omega⟩
  have hkl : k < ns.length := by omega
  obtain ⟨nd, hnd⟩ : ∃ nd, ns[k]? = some nd := ⟨_, List.getElem?_eq_getElem hkl⟩
  have hmem := List.mem_of_getElem? hnd
  have hsm := hs nd hmem
  have hfst := kN (List.all_eq_true.1 hn nd hmem) hsm.2
  have HND := hide hnd
  obtain ⟨b, off, rfl, _⟩ := hN.addr (by omega)
  obtain ⟨kv, c0, c1, c2, _, hk1⟩ := hN.node hnd
  obtain ⟨ka, kc, rfl, _, hkm⟩ := hk1.form
  unfold maxLen at hkm
  have hks := kz (List.all_eq_true.1 hn nd hmem)
  have HHL := hide (fun (d : Nat) (y : Int) (hy : 0 ≤ y ∧ y < ns.length) => kh hn (fun nd h => (hs nd h).2) d hy)
  obtain ⟨s, t, ks⟩ := nd
  simp only at hks
  have HKS := hide hks
  clear hks
  simp only at c0 c1 c2 hk1 hsm hfst hkm
  have HN := hide hN
  have HK := hide (hk1.below (zf (Below.refl w.heap.size w) (.cells #[.int .i64 s, .string (B t), .slice ka ks.length kc] 56)))
  have HA := hide (AtC3.new w (.int .i64 s) (.string (B t)) (.slice ka ks.length kc) 56)
  have HB := hide (zf (Below.refl w.heap.size w) (.cells #[.int .i64 s, .string (B t), .slice ka ks.length kc] 56))
  obtain ⟨h0, hh0⟩ : ∃ h : Nat, 7 * s.toNat + ks.length = h := ⟨_, rfl⟩
  have e1 : wrap64 (7 * s) = 7 * s := by unfold wrap64; omega
  have e2 : wrap64 (7 * s + (ks.length : Int)) = (h0 : Int) := by unfold wrap64; omega
  have HH0 : Hid (h0 ≤ 1048639) := hide (by omega)
  have HBARE : Hid (bareH (s, t, ks) = hText h0 t) := hide (by unfold bareH; rw [← hh0])
  have hmx : h0 ≤ 1048639 := by omega
  clear hk1 hnd hN hfst hh0 hmem
  go_enter Tryz.func46, Tryz.ntmps46
  go_wp2_with fail
  obtain ⟨W1, hW1⟩ : ∃ W1, w.alloc (.cells #[.int .i64 s, .string (B t), .slice ka ks.length kc] 56) = W1 := ⟨_, rfl⟩
  rw [hW1] at HK HA HB ⊢
  clear hW1 e1 e2 c0 c1 c2
  go_loopw [8, 9] (fun hv iv wr => ∃ (j H : Nat), j ≤ t.length ∧ iv = .int .i64 j ∧ hv = .int .i64 (H : Nat) ∧ Hid (hText h0 (t.take j) = H) ∧ wr = W1) (fun _ iv _ => t.length - (intOf iv).toNat)
  case atStart => exact ⟨0, h0, by omega, rfl, rfl, hide rfl, rfl⟩
  case round =>
   obtain ⟨j, H, hj, rfl, rfl, hH, rfl⟩ := hrel
   have a1 := (za HA).n1
   have hH9 : H ≤ 1048639 := by rw [← za hH]; exact kw _ (za HH0) (by decide)
   have hsz : (B t).size = t.length := zi t
   have HSZ := hide hsz
   by_cases hjl : j < t.length
   ·obtain ⟨c, hc⟩ : ∃ c, t[j]? = some c := ⟨_, List.getElem?_eq_getElem hjl⟩
    have hlt' : j < (B t).size := by rw [zi]; exact hjl
    have hg : (B t)[j]'hlt' = c := (B_get t j hlt').trans (List.getElem?_eq_some_iff.1 hc).2
    obtain ⟨n, hcn⟩ : ∃ n, c.toNat = n := ⟨_, rfl⟩
    have hn256 : n < 256 := by rw [← hcn]; exact c.toNat_lt
    have hji : (j : Int) < (t.length : Int) := by omega
    obtain ⟨H2, S9, HST, e2, e3, e4⟩ := Jv (h := h0) (t := t) hc (za hH) hcn hn256 hH9
    clear hc hH hsz hn256
    go_wp2_with fail
    clear e2 e3 e4 a1 hcn
    go_roundw
    case rel => exact ⟨j + 1, H2, by omega, by go_num, rfl, HST, trivial⟩
    case measure => simp [intOf]; omega
   ·obtain rfl : j = t.length := by omega
    have HTX : Hid (bareH (s, t, ks) = H) := hide (by rw [za HBARE, ← za hH, List.take_of_length_le (Nat.le_refl _)])
    have hjn : ¬ t.length < (B t).size := by rw [zi]; omega
    clear hH hjl hsz
    go_wp2_with fail
    clear a1 hjn
    have a2 := (za HA).n2
    go_loopw [8, 10] (fun hv iv wk => iv = .int .i64 0 ∧ hv = .int .i64 (H : Nat) ∧ wk = wr) (fun _ _ _ => 0)
    case atStart => exact ⟨rfl, rfl, rfl⟩
    case round =>
     obtain ⟨rfl, rfl, rfl⟩ := hrel
     go_wp2_with fail
     go_ret
     exact ⟨zF (by rw [kW (x := (k : Int)) (za HND), za HTX]), za HB⟩
 | succ d ih =>
  intro hd x w hx hN
  have hih := ih (by omega)
  have HIH := hide hih
  clear ih hih
  have hgt : (0 : Int) < ((d + 1 : Nat) : Int) := by omega
  have hdd : wrap64 (((d + 1 : Nat) : Int) - 1) = ((d : Nat) : Int) := by rw [w64 (by omega) (by omega)]; omega
  obtain ⟨D, hD⟩ : ∃ D : Int, ((d + 1 : Nat) : Int) = D := ⟨_, rfl⟩
  rw [hD] at hgt hdd ⊢
  have HDD := hide hD
  clear hD
  obtain ⟨k, rfl⟩ : ∃ k : Nat, x = (k : Int) := ⟨x.toNat, by omega⟩
  have hkl : k < ns.length := by omega
  obtain ⟨nd, hnd⟩ : ∃ nd, ns[k]? = some nd := ⟨_, List.getElem?_eq_getElem hkl⟩
  have hmem := List.mem_of_getElem? hnd
  have hsm := hs nd hmem
  have hfst := kN (List.all_eq_true.1 hn nd hmem) hsm.2
  have HND := hide hnd
  obtain ⟨b, off, rfl, _⟩ := hN.addr (by omega)
  obtain ⟨kv, c0, c1, c2, _, hk1⟩ := hN.node hnd
  obtain ⟨ka, kc, rfl, _, hkm⟩ := hk1.form
  unfold maxLen at hkm
  have hks := kz (List.all_eq_true.1 hn nd hmem)
  have HHL := hide (fun (d : Nat) (y : Int) (hy : 0 ≤ y ∧ y < ns.length) => kh hn (fun nd h => (hs nd h).2) d hy)
  obtain ⟨s, t, ks⟩ := nd
  simp only at hks
  have HKS := hide hks
  clear hks
  simp only at c0 c1 c2 hk1 hsm hfst hkm
  have HN := hide hN
  have HK := hide (hk1.below (zf (Below.refl w.heap.size w) (.cells #[.int .i64 s, .string (B t), .slice ka ks.length kc] 56)))
  have HA := hide (AtC3.new w (.int .i64 s) (.string (B t)) (.slice ka ks.length kc) 56)
  have HB := hide (zf (Below.refl w.heap.size w) (.cells #[.int .i64 s, .string (B t), .slice ka ks.length kc] 56))
  obtain ⟨h0, hh0⟩ : ∃ h : Nat, 7 * s.toNat + ks.length = h := ⟨_, rfl⟩
  have e1 : wrap64 (7 * s) = 7 * s := by unfold wrap64; omega
  have e2 : wrap64 (7 * s + (ks.length : Int)) = (h0 : Int) := by unfold wrap64; omega
  have HH0 : Hid (h0 ≤ 1048639) := hide (by omega)
  have HBARE : Hid (bareH (s, t, ks) = hText h0 t) := hide (by unfold bareH; rw [← hh0])
  have hmx : h0 ≤ 1048639 := by omega
  clear hk1 hnd hN hfst hh0 hmem
  go_enter Tryz.func46, Tryz.ntmps46
  go_wp2_with fail
  obtain ⟨W1, hW1⟩ : ∃ W1, w.alloc (.cells #[.int .i64 s, .string (B t), .slice ka ks.length kc] 56) = W1 := ⟨_, rfl⟩
  rw [hW1] at HK HA HB ⊢
  clear hW1 e1 e2 c0 c1 c2
  go_loopw [8, 9] (fun hv iv wr => ∃ (j H : Nat), j ≤ t.length ∧ iv = .int .i64 j ∧ hv = .int .i64 (H : Nat) ∧ Hid (hText h0 (t.take j) = H) ∧ wr = W1) (fun _ iv _ => t.length - (intOf iv).toNat)
  case atStart => exact ⟨0, h0, by omega, rfl, rfl, hide rfl, rfl⟩
  case round =>
   obtain ⟨j, H, hj, rfl, rfl, hH, rfl⟩ := hrel
   have a1 := (za HA).n1
   have hH9 : H ≤ 1048639 := by rw [← za hH]; exact kw _ (za HH0) (by decide)
   have hsz : (B t).size = t.length := zi t
   have HSZ := hide hsz
   by_cases hjl : j < t.length
   ·obtain ⟨c, hc⟩ : ∃ c, t[j]? = some c := ⟨_, List.getElem?_eq_getElem hjl⟩
    have hlt' : j < (B t).size := by rw [zi]; exact hjl
    have hg : (B t)[j]'hlt' = c := (B_get t j hlt').trans (List.getElem?_eq_some_iff.1 hc).2
    obtain ⟨n, hcn⟩ : ∃ n, c.toNat = n := ⟨_, rfl⟩
    have hn256 : n < 256 := by rw [← hcn]; exact c.toNat_lt
    have hji : (j : Int) < (t.length : Int) := by omega
    obtain ⟨H2, S9, HST, e2, e3, e4⟩ := Jv (h := h0) (t := t) hc (za hH) hcn hn256 hH9
    clear hc hH hsz hn256
    go_wp2_with fail
    clear e2 e3 e4 a1 hcn
    go_roundw
    case rel => exact ⟨j + 1, H2, by omega, by go_num, rfl, HST, trivial⟩
    case measure => simp [intOf]; omega
   ·obtain rfl : j = t.length := by omega
    have HTX : Hid (bareH (s, t, ks) = H) := hide (by rw [za HBARE, ← za hH, List.take_of_length_le (Nat.le_refl _)])
    have hjn : ¬ t.length < (B t).size := by rw [zi]; omega
    clear hH hjl hsz
    go_wp2_with fail
    clear a1 hjn
    have HSUM : Hid (hashD ns (d + 1) (k : Int) = ks.foldl (fun h y => hK h (hashD ns d y)) H) := hide (by rw [Qx (za HND) d]; show List.foldl _ (bareH (s, t, ks)) ks = _; rw [za HTX])
    obtain ⟨W5, hW5⟩ : ∃ W5, W5 = wr := ⟨_, rfl⟩
    subst hW5
    have HHH : Hid (H ≤ 1048639) := hide hH9
    go_loopw [8, 10] (fun hv iv wk => ∃ (j H' : Nat), j ≤ ks.length ∧ iv = .int .i64 j ∧ hv = .int .i64 (H' : Nat) ∧ Hid ((ks.take j).foldl (fun h y => hK h (hashD ns d y)) H = H') ∧ Below W5.heap.size W5 wk) (fun _ iv _ => ks.length - (intOf iv).toNat)
    case atStart => exact ⟨0, H, by omega, rfl, rfl, hide rfl, Below.refl _ _⟩
    case round =>
     obtain ⟨j, H', hj, rfl, rfl, hH', hb⟩ := hrel
     have a2 := ((za HA).below hb).n2
     have hH'9 : H' ≤ 1048639 := by rw [← za hH']; exact ZO _ (za HHH) (by decide)
     by_cases hjl : j < ks.length
     ·obtain ⟨x, hx⟩ : ∃ x, ks[j]? = some x := ⟨_, List.getElem?_eq_getElem hjl⟩
      obtain ⟨kb, ko, rfl, _, x0⟩ := ((za HK).below hb).cell hx
      have hxin := za HKS x (List.mem_of_getElem? hx)
      obtain ⟨M, hM⟩ : ∃ M, hashD ns d x = M := ⟨_, rfl⟩
      have hM9 : M ≤ 1048639 := by rw [← hM]; exact za HHL d x hxin
      have hc := za HIH x wr hxin ((za HN).below (zj (za HB) hb))
      rw [hM] at hc
      obtain ⟨H2, S9, HST, e2, e3, HE5⟩ := zbd (f := fun y => hashD ns d y) (h := H) hx (za hH') hM hH'9 hM9
      have HC := hide hc
      have HBX := hide hb
      clear hc hM hx hb
      go_wp2_with fail
      have hc := za HC
      refine hc.mono ?_
      clear hc
      rintro e w6 ⟨rfl, hb6⟩
      have HBY := hide (zj (za HBX) hb6)
      clear hb6
      go_wp2_with fail
      clear e2 e3 a2 x0
      go_roundw
      case rel => exact ⟨j + 1, H2, by omega, by go_num, by rw [za HE5], HST, za HBY⟩
      case measure => simp [intOf]; omega
     ·obtain rfl : j = ks.length := by omega
      have HFIN : Hid (hashD ns (d + 1) (k : Int) = H') := hide (by rw [za HSUM, ← za hH', List.take_of_length_le (Nat.le_refl _)])
      have HBX := hide (zj (za HB) hb)
      clear hb
      go_wp2_with fail
      go_ret
      exact ⟨zF (by rw [za HFIN]), za HBX⟩
theorem kS (w : World) (e : TypeId) (s : ByteArray) : Below w.heap.size w (Lib.bytesWorld w e s) := by
 refine ⟨?_, ?_, ?_, by rw [Lib.bytesWorld_size]; omega, fun k hk => Lib.bytesWorld_at_old w e s k hk⟩
 ·simp [Lib.bytesWorld, World.freeze, World.alloc, World.drew, -World.alloc_eq, -World.drew_eq]
 ·simp [Lib.bytesWorld, World.freeze, World.alloc, World.drew, -World.alloc_eq, -World.drew_eq]
 ·simp [Lib.bytesWorld, World.freeze, World.alloc, World.drew, -World.alloc_eq, -World.drew_eq]
theorem X7 (n0 : Nat) (nd : Nd) (ka : Option Addr) (kc : Nat) (w : World) (hok : ndOk n0 nd = true) (hs : nd.2.1.length ≤ 1048576 ∧ nd.2.2.length ≤ 1048576) :
  Calls Tryz.prog 83 #[.agg #[.int .i64 nd.1, .string (B nd.2.1), .slice ka nd.2.2.length kc]] w fun e w' => e = .returned (.int .i64 (bareH nd : Nat)) ∧ Below w.heap.size w w' := by
 have hfst := kN hok hs.2
 obtain ⟨s, t, ks⟩ := nd
 simp only at hfst hs ⊢
 have HA := hide (AtC3.new w (.int .i64 s) (.string (B t)) (.slice ka ks.length kc) 56)
 have HB := hide (zf (Below.refl w.heap.size w) (.cells #[.int .i64 s, .string (B t), .slice ka ks.length kc] 56))
 obtain ⟨h0, hh0⟩ : ∃ h : Nat, 7 * s.toNat + ks.length = h := ⟨_, rfl⟩
 have e1 : wrap64 (7 * s) = 7 * s := by unfold wrap64; omega
 have e2 : wrap64 (7 * s + (ks.length : Int)) = (h0 : Int) := by unfold wrap64; omega
 have HH0 : Hid (h0 ≤ 1048639) := hide (by omega)
 have HBARE : Hid (bareH (s, t, ks) = hText h0 t) := hide (by unfold bareH; rw [← hh0])
 have hcv := Lib.run_convert_string_bytes (P := Tryz.prog) (w.alloc (.cells #[.int .i64 s, .string (B t), .slice ka ks.length kc] 56)) 9 22 5 (B t) Tryz.underlying9 Tryz.underlying22 Tryz.underlying5
 have hbw := kS (w.alloc (.cells #[.int .i64 s, .string (B t), .slice ka ks.length kc] 56)) 5 (B t)
 have HCL : Hid (∀ (j : Nat) (c : UInt8), t[j]? = some c → (Lib.bytesWorld (w.alloc (.cells #[.int .i64 s, .string (B t), .slice ka ks.length kc] 56)) 5 (B t)).cell? ⟨w.heap.size + 1, j, none⟩ = some (.int .u8 (c.toNat : Int))) := hide (fun j c hc => by
  have hj : j < t.length := (List.getElem?_eq_some_iff.1 hc).1
  have h := Lib.bytesWorld_cell (w.alloc (.cells #[.int .i64 s, .string (B t), .slice ka ks.length kc] 56)) 5 (B t) j (by rw [zi]; exact hj)
  rw [World.size_alloc] at h
  rw [h]
  have e : (B t).data.toList.getD j 0 = c := by
   rw [List.getD_eq_getElem?_getD]
   show (t.toArray.toList[j]?).getD 0 = c
   rw [List.toList_toArray, hc]; rfl
  rw [e])
 have HBW := hide (zj (za HB) hbw)
 rw [World.size_alloc] at hcv
 obtain ⟨W2, hW2⟩ : ∃ W2, Lib.bytesWorld (w.alloc (.cells #[.int .i64 s, .string (B t), .slice ka ks.length kc] 56)) 5 (B t) = W2 := ⟨_, rfl⟩
 rw [hW2] at hcv HCL HBW
 obtain ⟨cp, hcp⟩ : ∃ cp, grownCap (w.alloc (.cells #[.int .i64 s, .string (B t), .slice ka ks.length kc] 56)) (B t).size 0 5 = cp := ⟨_, rfl⟩
 rw [hcp, zi] at hcv
 have a0 := (za HA).n0
 have a1 := (za HA).n1
 have a2 := (za HA).n2
 clear hfst hh0 hbw hW2 hcp
 go_enter Tryz.func83, Tryz.ntmps83
 go_wp2_with (simp only [hcv])
 have HE2 := hide e2
 clear e1 e2 a0 a1 a2 hcv
 go_loopw [3, 17] (fun hv iv wr => ∃ (j H : Nat), j ≤ t.length ∧ iv = .int .i64 j ∧ hv = .int .i64 (H : Nat) ∧ Hid (hText h0 (t.take j) = H) ∧ wr = W2) (fun _ iv _ => t.length - (intOf iv).toNat)
 case atStart => exact ⟨0, h0, by omega, rfl, by rw [za HE2], hide rfl, rfl⟩
 case round =>
  obtain ⟨j, H, hj, rfl, rfl, hH, rfl⟩ := hrel
  have hH9 : H ≤ 1048639 := by rw [← za hH]; exact kw _ (za HH0) (by decide)
  by_cases hjl : j < t.length
  ·obtain ⟨c, hc⟩ : ∃ c, t[j]? = some c := ⟨_, List.getElem?_eq_getElem hjl⟩
   obtain ⟨n, hcn⟩ : ∃ n, c.toNat = n := ⟨_, rfl⟩
   have hn256 : n < 256 := by rw [← hcn]; exact c.toNat_lt
   have x0 := za HCL j c hc
   rw [hcn] at x0
   obtain ⟨H2, S9, HST, e2, e3, e4⟩ := Jv (h := h0) (t := t) hc (za hH) hcn hn256 hH9
   clear hc hn256 hcn
   go_wp2_with fail
   clear e2 e3 e4 x0
   go_roundw
   case rel => exact ⟨j + 1, H2, by omega, by go_num, rfl, HST, trivial⟩
   case measure => simp [intOf]; omega
  ·obtain rfl : j = t.length := by omega
   have HTX : Hid (bareH (s, t, ks) = H) := hide (by rw [za HBARE, ← za hH, List.take_of_length_le (Nat.le_refl _)])
   clear hjl
   go_wp2_with fail
   go_ret
   exact ⟨zF (by rw [za HTX]), za HBW⟩
end Go.Proofs.YtpbnmhnbkfnaeaaGreatDoor
namespace Go.Proofs.YtpbnmhnbkfnaeaaGreatDoor
open Go.RowKit Go.Shelf Nt
attribute [local go_sem] Oper.semAt_some
def IntsIn (n₀ : Nat) (W : World) (v : Value) (zs : List Int) : Prop :=
 ∃ a cap, v = .slice a zs.length cap ∧ zs.length ≤ cap ∧ cap ≤ maxLen ∧ (0 < zs.length → ∃ b off, a = some ⟨b, off, none⟩ ∧ b < n₀ ∧ ∀ j x, zs[j]? = some x → W.cell? ⟨b, off + j, none⟩ = some (.int .i64 x))
theorem IntsIn.below {n₀ : Nat} {A B : World} {v : Value} {zs : List Int} (h : IntsIn n₀ A v zs) (k : Below n₀ A B) : IntsIn n₀ B v zs := by
 obtain ⟨a, cap, rfl, h1, h2, h3⟩ := h
 refine ⟨a, cap, rfl, h1, h2, fun h0 => ?_⟩
 obtain ⟨b, off, rfl, hb, hc⟩ := h3 h0
 exact ⟨b, off, rfl, hb, fun j x hx => (k.cell (p := ⟨b, off + j, none⟩) hb).trans (hc j x hx)⟩
theorem IntsAt.in {W : World} {v : Value} {zs : List Int} (h : IntsAt W v zs) : IntsIn W.heap.size W v zs := h
theorem VM (F : Fence) (n : Nat) (hF : F.fn 117) (hro : F.round = none) (hn : 1 ≤ n) (l Bs n₀ : Nat) (kv : Value) (zs : List Int) (hreach : zs.length ≤ 140737488355328) (J Jx : List Int → World → Prop)
  (hY : ∀ pre x W, J pre W → pre.length < zs.length → YieldAt F (n - 1) Tryz.prog l #[.int .i64 x] W fun e W' =>
   (e = .returned (.bool true) ∧ J (pre ++ [x]) W' ∧ Below n₀ W W') ∨ (e = .returned (.bool false) ∧ Jx (pre ++ [x]) W'))
  (W : World) (hBs : W.cell? ⟨Bs, 2, none⟩ = some kv) (hI : IntsIn n₀ W kv zs) (h0 : J [] W) :
  CallsIn F n Tryz.prog 117 #[.func (.yield l) #[] #[], .pointer (some ⟨Bs, 0, none⟩)] W fun e W' => (∃ v, e = .returned v) ∧ (J zs W' ∨ (∃ pre, pre <+: zs ∧ Jx pre W')) := by
 have HI := hide hI
 obtain ⟨a, cap, rfl, h1, h2, _⟩ := hI
 unfold maxLen at h2
 refine callsIn_of_wp Tryz.func117 rfl hF ?_ hro
 simp only [Tryz.ntmps117, List.size_toArray, List.length_cons, List.length_nil, Nat.reduceAdd, Nat.reduceSub, Array.replicate_succ, Array.replicate_zero, List.push_toArray, List.append_toArray, List.nil_append, List.cons_append]
 gi_wp2
 gi_loopw [8] (fun i wr => ∃ k : Nat, k ≤ zs.length ∧ i = .int .i64 k ∧ J (zs.take k) wr ∧ Below n₀ W wr)
  (fun i _ => zs.length - (intOf i).toNat)
 case atStart => exact ⟨0, Nat.zero_le _, rfl, by simpa using h0, Below.refl _ _⟩
 case round =>
  obtain ⟨k, hk, rfl, hJs, hnx⟩ := hrel
  by_cases hlt : k < zs.length
  ·obtain ⟨x, hx⟩ : ∃ x, zs[k]? = some x := ⟨_, List.getElem?_eq_getElem hlt⟩
   obtain ⟨a', cap', e1, _, _, h3⟩ := (za HI).below hnx
   injection e1 with e2 e3 e4
   obtain ⟨b, off, e5, hb, hcs⟩ := h3 (by omega)
   rw [← e2] at e5
   subst e5
   have hcx := hcs k x hx
   obtain ⟨fn, tmps, assign, body, hy, hR⟩ := hY _ x wr hJs (by simp; omega)
   have HX := hide (show zs.take (k + 1) = zs.take k ++ [x] by rw [List.take_add_one, hx]; rfl)
   clear e2 e4 h3 hcs hx
   gi_wp2
   refine hR.mono ?_
   rintro e W3 (⟨rfl, hJ3, hk3⟩ | ⟨rfl, hJx3⟩)
   ·gi_wp2
    go_roundw
    case rel => exact ⟨k + 1, by omega, by go_num, by rw [za HX]; exact hJ3, hnx.trans hk3⟩
    case measure => simp [intOf]; omega
   ·gi_wp2
    refine bodyPost_ret (results_none rfl _ _ _) rfl ?_
    exact ⟨⟨_, rfl⟩, .inr ⟨_, List.take_prefix (k + 1) zs, by rw [za HX]; exact hJx3⟩⟩
  ·obtain rfl : k = zs.length := by omega
   rw [List.take_of_length_le (Nat.le_refl _)] at hJs
   gi_wp2
   go_end0
   exact ⟨⟨_, rfl⟩, .inl hJs⟩
theorem Js (F : Fence) (n : Nat) (hF : F.fn 117) (hro : F.round = none) (hn : 1 ≤ n) (Bs n₀ : Nat) (kv : Value) (zs : List Int) (hreach : zs.length ≤ 140737488355328) (w : World) (hBs : Bs < w.heap.size) (hn₀ : n₀ ≤ w.heap.size)
  (hc : w.cell? ⟨Bs, 2, none⟩ = some kv) (hI : IntsIn n₀ w kv zs) :
  SeqStopsK F n Tryz.prog 117 #[.pointer (some ⟨Bs, 0, none⟩)] (fun x : Int => #[Value.int .i64 x]) (Below n₀) (fun ys => ys = zs) (fun pre => pre <+: zs) zs.length w := fun l J Jx W hW _ _ hY h0 => by
 have hc' := (hW.cell (p := ⟨Bs, 2, none⟩) hBs).trans hc
 refine (VM F n hF hro hn l Bs n₀ kv zs hreach J Jx hY W hc' (hI.below (hW.mono hn₀)) h0).mono ?_
 rintro e W' ⟨he, hj | hj⟩
 ·exact ⟨he, .inl ⟨_, rfl, hj⟩⟩
 ·exact ⟨he, .inr hj⟩
theorem Vw (s : Int) (t : ByteArray) (kv : Value) (w : World) :
  Calls Tryz.prog 82 #[.agg #[.int .i64 s, .string t, kv]] w fun e w' => e = .returned (.func (.func 117) #[] #[.pointer (some ⟨w.heap.size, 0, none⟩)]) ∧ w' = w.alloc (.cells #[.int .i64 s, .string t, kv] 56) := by
 go_enter Tryz.func82, Tryz.ntmps82
 go_wp2
 go_ret
 exact ⟨rfl, rfl⟩
end Go.Proofs.YtpbnmhnbkfnaeaaGreatDoor
namespace Go.Proofs.YtpbnmhnbkfnaeaaGreatDoor
open Go.RowKit Go.Shelf Nt
def markD (D : Nat) : Deferred := { target := .collected D, args := #[] }
structure Still (B : Nat) (w w' : World) : Prop where
 below : Below B w w'
 cells : ∀ (k : Nat) (o : Obj), w.heap[k]? = some o → o.isCells = true → w'.heap[k]? = some o
theorem Still.refl (B : Nat) (w : World) : Still B w w := ⟨Below.refl _ _, fun _ _ h _ => h⟩
theorem Still.trans {B : Nat} {a b c : World} (h : Still B a b) (k : Still B b c) : Still B a c := ⟨h.below.trans k.below, fun i o hi ho => k.cells i o (h.cells i o hi ho) ho⟩
theorem Still.put {B : Nat} {w : World} {D : Nat} {o o' : Obj} (hB : B ≤ D) (h : w.heap[D]? = some o) (ho : o.isCells = false) : Still B w (w.putObj D o') :=
 ⟨⟨rfl, rfl, rfl, by simp, fun k hk => World.putObj_heap_other (by omega)⟩, fun k p hk hp => by
  have hne : k ≠ D := fun e => by subst e; rw [h] at hk; cases hk; rw [ho] at hp; cases hp
  rw [World.putObj_heap_other hne]; exact hk⟩
structure Marks (B : Nat) (w : World) (Ds : List Nat) : Prop where
 nodup : Ds.Nodup
 at' : ∀ D ∈ Ds, B ≤ D ∧ w.heap[D]? = some (.deferred (some []))
theorem Marks.nil (B : Nat) (w : World) : Marks B w [] := ⟨List.nodup_nil, fun D h => by simp at h⟩
theorem Marks.cons {B : Nat} {w : World} {Ds : List Nat} {D : Nat} (h : Marks B w Ds) (hB : B ≤ D) (hD : w.heap[D]? = some (.deferred (some []))) (hn : D ∉ Ds) : Marks B w (D :: Ds) :=
 ⟨List.nodup_cons.2 ⟨hn, h.nodup⟩, fun d hd => by rcases List.mem_cons.1 hd with rfl | hd; exact ⟨hB, hD⟩; exact h.at' d hd⟩
theorem Marks.lt {B : Nat} {w : World} {Ds : List Nat} (h : Marks B w Ds) {D : Nat} (hD : D ∈ Ds) : D < w.heap.size := (Array.getElem?_eq_some_iff.1 (h.at' D hD).2).1
theorem Marks.fresh {B : Nat} {w : World} {Ds : List Nat} (h : Marks B w Ds) {D : Nat} (hD : w.heap.size ≤ D) : D ∉ Ds := fun hm => by have := h.lt hm; omega
theorem Marks.kept {B : Nat} {S : Nat → Prop} {w w' : World} {Ds : List Nat} (h : Marks B w Ds) (k : Kept S w w') (hS : ∀ D ∈ Ds, ¬ S D) : Marks B w' Ds :=
 ⟨h.nodup, fun D hD => ⟨(h.at' D hD).1, (k.block D (h.lt hD) (hS D hD)).trans (h.at' D hD).2⟩⟩
theorem Marks.below {B : Nat} {w w' : World} {Ds : List Nat} (h : Marks B w Ds) (k : Below w.heap.size w w') : Marks B w' Ds :=
 ⟨h.nodup, fun D hD => ⟨(h.at' D hD).1, (k.block D (h.lt hD)).trans (h.at' D hD).2⟩⟩
theorem qV {F : Fence} {n : Nat} {P : Program} {fn : Func} {tmps : Array Value} {R : Ending → World → Prop} (B : Nat) :
  ∀ (Ds : List Nat) (w : World), Marks B w Ds → (∀ w', Still B w w' → LeavesInM F n P fn tmps R [] .returning w') → LeavesInM F n P fn tmps R (Ds.map markD) .returning w
 | [], w, _, h => h w (Still.refl B w)
 | D :: Ds, w, hm, h => by
  have h0 := hm.at' D (by simp)
  have hnd := List.nodup_cons.1 hm.nodup
  refine ⟨by simp, .inl ⟨D, _, rfl, run_takeDeferred h0.2, ?_⟩⟩
  have hs : Still B w (w.putObj D (.deferred none)) := Still.put h0.1 h0.2 rfl
  refine qV B Ds _ ⟨hnd.2, fun d hd => ⟨(hm.at' d (by simp [hd])).1, ?_⟩⟩ (fun w' hw => h w' (hs.trans hw))
  rw [World.putObj_heap_other (fun e => hnd.1 (by rw [← e]; exact hd))]
  exact (hm.at' d (by simp [hd])).2
theorem kO {β : Type} {B : Nat} {S : Nat → Prop} {w₀ : World} (hB : w₀.heap.size ≤ B) : OwnFrom B (fun (_ : β) W => Kept S w₀ W) :=
 fun _ X Y row hs hg hr => ⟨hg.os.trans hs.os, hg.tape.trans hs.tape, hg.output.trans hs.output, Nat.le_trans hs.size hg.size, fun b hb hn => by
  refine (hg.block b (Nat.lt_of_lt_of_le hb hs.size) (fun e => ?_)).trans (hs.block b hb hn)
  have := (hr b e.symm).1
  omega⟩
theorem qq {W W' : World} (h : Below W.heap.size W W') : KeepsOthers W W' := ⟨h.size, fun k _ hk _ => (h.block k (Array.getElem?_eq_some_iff.1 hk).1).trans hk⟩
theorem vB {B b : Nat} {w w' : World} {t : TypeId} {v : Value} (h : Still B w w') (hb : Boxed w b t v) : Boxed w' b t v := h.cells b _ hb rfl
theorem ye {S : Nat → Prop} {w w' : World} {b : Nat} {t : TypeId} {v : Value} (h : Boxed w b t v) (k : Kept S w w') (hS : ¬ S b) : Boxed w' b t v := (k.block b h.lt hS).trans h
theorem zL {w w' : World} {b : Nat} {t : TypeId} {v : Value} (h : Boxed w b t v) (k : Below w.heap.size w w') : Boxed w' b t v := (k.block b h.lt).trans h
end Go.Proofs.YtpbnmhnbkfnaeaaGreatDoor
namespace Go.Proofs.YtpbnmhnbkfnaeaaGreatDoor
open Go.RowKit Go.Shelf Nt
attribute [local go_sem] Oper.semAt_some
theorem Zz (a : Option Addr) (n c : Nat) (rv : Value) (k : Int) (w : World) :
  Calls Tryz.prog 109 #[.agg #[.slice a n c, rv], .int .i64 k] w fun e w' => e = .returned (.bool (inR k n)) ∧ Below w.heap.size w w' := by
 have HB := hide (zf (Below.refl w.heap.size w) (.cells #[.slice a n c, rv] 26))
 by_cases h0 : 0 ≤ k
 ·by_cases h1 : k < n
  ·have HR : Hid (inR k n = true) := by show _ = _; unfold inR; simp [h0, h1]
   go_enter Tryz.func109, Tryz.ntmps109
   go_wp2
   go_ret
   exact ⟨by rw [za HR]; rfl, za HB⟩
  ·have HR : Hid (inR k n = false) := by show _ = _; unfold inR; simp [h1]
   go_enter Tryz.func109, Tryz.ntmps109
   go_wp2
   go_ret
   exact ⟨by rw [za HR]; rfl, za HB⟩
 ·have HR : Hid (inR k n = false) := by show _ = _; unfold inR; simp [h0]
  go_enter Tryz.func109, Tryz.ntmps109
  go_wp2
  go_ret
  exact ⟨by rw [za HR]; rfl, za HB⟩
theorem Ko (s : Int) (t : ByteArray) (a : Option Addr) (n c : Nat) (w : World) (hn : n ≤ 1048576) :
  Calls Tryz.prog 110 #[.agg #[.int .i64 s, .string t, .slice a n c]] w fun e w' => e = .returned (.bool (cntOk s n)) ∧ Below w.heap.size w w' := by
 have HB := hide (zf (Below.refl w.heap.size w) (.cells #[.int .i64 s, .string t, .slice a n c] 56))
 by_cases h7 : s = 7
 ·subst h7
  have HR : Hid (cntOk 7 n = ((n : Int) == 2)) := by
   show _ = _; unfold cntOk; rw [if_pos rfl]
   by_cases h : n = 2
   ·subst h; rfl
   ·rw [beq_eq_false_iff_ne.2 h, beq_eq_false_iff_ne.2 (by omega)]
  go_enter Tryz.func110, Tryz.ntmps110
  go_wp2
  go_ret
  exact ⟨by rw [za HR]; rfl, za HB⟩
 ·by_cases h8 : s = 8
  ·subst h8
   have HR : Hid (cntOk 8 n = decide ((n : Int) ≤ 40)) := by
    show _ = _; unfold cntOk; rw [if_neg h7, if_pos rfl]
    by_cases h : n ≤ 40
    ·rw [decide_eq_true h, decide_eq_true (by omega)]
    ·rw [decide_eq_false h, decide_eq_false (by omega)]
   go_enter Tryz.func110, Tryz.ntmps110
   go_wp2
   go_ret
   exact ⟨by rw [za HR]; rfl, za HB⟩
  ·have HR : Hid (cntOk s n = ((n : Int) == 0)) := by
    show _ = _; unfold cntOk; rw [if_neg h7, if_neg h8]
    by_cases h : n = 0
    ·subst h; rfl
    ·rw [beq_eq_false_iff_ne.2 h, beq_eq_false_iff_ne.2 (by omega)]
   go_enter Tryz.func110, Tryz.ntmps110
   go_wp2
   go_ret
   exact ⟨by rw [za HR]; rfl, za HB⟩
end Go.Proofs.YtpbnmhnbkfnaeaaGreatDoor
namespace Go.Proofs.YtpbnmhnbkfnaeaaGreatDoor
open Go.RowKit Go.Shelf Nt
attribute [local go_sem] Oper.semAt_some
def vb (n : Nat) (nd : Nd) : Bool := nd.2.2.all (inR · n)
def plcOk (d : Dt) : Bool := d.2.all (inR · d.1.length) && d.1.all (vb d.1.length)
theorem Xi {W : World} {v : Value} {zs : List Int} (h : IntsAt W v zs) : ∃ a cap, v = .slice a zs.length cap ∧ zs.length ≤ cap ∧ cap ≤ maxLen ∧ ∀ j x, zs[j]? = some x → ∃ b off, a = some ⟨b, off, none⟩ ∧ b < W.heap.size ∧ W.cell? ⟨b, off + j, none⟩ = some (.int .i64 x) := by
 obtain ⟨a, cap, rfl, h1, h2, h3⟩ := h
 refine ⟨a, cap, rfl, h1, h2, fun j x hx => ?_⟩
 have hj := (List.getElem?_eq_some_iff.1 hx).1
 obtain ⟨b, off, rfl, hb, hc⟩ := h3 (by omega)
 exact ⟨b, off, rfl, hb, hc j x hx⟩
theorem ZA (nv rv : Value) (d : Dt) (w : World) (h : DataAt w (.agg #[nv, rv]) d) (hs : d.1.length ≤ 1048576 ∧ d.2.length ≤ 1048576 ∧ zM d.1) :
  Calls Tryz.prog 70 #[.agg #[nv, rv]] w fun e w' => e = .returned (.bool (plcOk d)) ∧ Below w.heap.size w w' := by
 obtain ⟨nv', rv', e, hn0, hr0⟩ := h
 simp only [Value.agg.injEq, Array.mk.injEq, List.cons.injEq, and_true] at e
 obtain ⟨rfl, rfl⟩ := e
 have HN := hide hn0
 have HR := hide hr0
 obtain ⟨na, nc, rfl, hn1, hn2, _⟩ := hn0
 obtain ⟨ra, rc, rfl, hr1, hr2, _⟩ := hr0
 obtain ⟨s1, s2, s3⟩ := hs
 have HS3 := hide s3
 clear s3
 unfold maxLen at hn2 hr2
 have HB := hide (zf (zf (Below.refl w.heap.size w) (.cells #[.slice na d.1.length nc, .slice ra d.2.length rc] 26)) (.cells #[.bool false] 4))
 have HD := hide ((AtC2.new w (.slice na d.1.length nc) (.slice ra d.2.length rc) 26).alloc (.cells #[.bool false] 4))
 have HF := hide (Boxed.new (w.alloc (.cells #[.slice na d.1.length nc, .slice ra d.2.length rc] 26)) 4 (.bool false))
 rw [World.size_alloc] at HF
 refine (callsIn_wide (n := 3)).1 ?_
 refine callsIn_of_wp_marks Tryz.func70 rfl trivial ?_ rfl
 simp only [Tryz.ntmps70, List.size_toArray, List.length_cons, List.length_nil, Nat.reduceAdd, Nat.reduceSub, Array.replicate_succ, Array.replicate_zero, List.push_toArray, List.append_toArray, List.nil_append, List.cons_append]
 gi_wp2_with fail
 gi_loopw [11] (fun i wr => ∃ k : Nat, k ≤ d.2.length ∧ i = .int .i64 k ∧ (d.2.take k).all (inR · d.1.length) = true ∧ Below w.heap.size w wr ∧ Hid (AtC2 wr w.heap.size (.slice na d.1.length nc) (.slice ra d.2.length rc) 26) ∧ Hid (Boxed wr (w.heap.size + 1) 4 (.bool false)))
  (fun i _ => d.2.length - (intOf i).toNat)
 case atStart => exact ⟨0, by omega, rfl, by simp, za HB, HD, HF⟩
 case round =>
  obtain ⟨k, hk, rfl, hall, hbl, HDk, HFk⟩ := hrel
  have d0 := (za HDk).n0
  have d1 := (za HDk).n1
  have f0 := (za HFk).cell
  have f1 := (za HFk).frozen
  by_cases hlt : k < d.2.length
  ·obtain ⟨x, hx⟩ : ∃ x, d.2[k]? = some x := ⟨_, List.getElem?_eq_getElem hlt⟩
   obtain ⟨a, cap, e1, _, _, h3⟩ := Xi ((za HR).below hbl)
   injection e1 with e2 e3 e4
   obtain ⟨b, off, rfl, hb, hcx⟩ := h3 k x hx
   subst e2
   clear e4 h3
   have ht := jE (p := (inR · d.1.length)) hx
   rw [hall, Bool.true_and] at ht
   have HT := hide ht
   clear ht
   gi_wp2_with fail
   refine ⟨trivial, (callsIn_wide.2 (Zz _ _ _ _ _ wr)).mono ?_⟩
   rintro e w1 ⟨rfl, hb1⟩
   have HD1 := hide ((za HDk).below hb1)
   have HF1 := hide (zL (za HFk) hb1)
   have hbl1 := zj hbl hb1
   clear d0 d1 f0 f1
   have d0 := (za HD1).n0
   have d1 := (za HD1).n1
   have f0 := (za HF1).cell
   have f1 := (za HF1).frozen
   cases hr : inR x d.1.length with
   | true =>
    gi_wp2_with fail
    go_roundw
    case rel => exact ⟨k + 1, by omega, by go_num, by rw [za HT]; exact hr, hbl1, HD1, HF1⟩
    case measure => simp [intOf]; omega
   | false =>
    have HP : Hid (plcOk d = false) := hide (by unfold plcOk; rw [kU hx hr, Bool.false_and])
    have HF2 := hide ((za HF1).set (.bool false))
    have f2 := (za HF2).cell
    gi_wp2_with fail
    refine ⟨.bool false, by simp [results, Tryz.f70, go_sem, f2], by rw [za HP], hbl1.setCell (p := ⟨w.heap.size + 1, 0, none⟩) (Nat.le_succ _) _⟩
  ·obtain rfl : k = d.2.length := by omega
   rw [List.take_of_length_le (Nat.le_refl _)] at hall
   have HALL := hide hall
   clear hall hk hlt HR HB HD HF
   gi_wp2_with fail
   refine wpIn_loop (fun a' w' => ∃ (Ds : List Nat) (k : Nat) (u6 u24 u25 u26 u27 u28 u34 : Value), a' = ⟨#[.agg #[.slice na d.1.length nc, .slice ra d.2.length rc], .pointer (some ⟨w.heap.size, 0, none⟩), .pointer (some ⟨w.heap.size + 1, 0, none⟩), undef, u4, undef, u6, undef, .pointer (some ⟨w.heap.size, 1, none⟩), .slice ra d.2.length rc, .int .i64 ↑d.2.length, .int .i64 ↑d.2.length, .bool false, u13, u14, u15, u16, u17, u18, u19, .pointer (some ⟨w.heap.size, 0, none⟩), .slice na d.1.length nc, .int .i64 ↑d.1.length, .int .i64 k, u24, u25, u26, u27, u28, undef, undef, undef, undef, undef, u34], Ds.map markD⟩ ∧
     k ≤ d.1.length ∧ (d.1.take k).all (vb d.1.length) = true ∧ Below w.heap.size w w' ∧ Hid (AtC2 w' w.heap.size (.slice na d.1.length nc) (.slice ra d.2.length rc) 26) ∧ Hid (Boxed w' (w.heap.size + 1) 4 (.bool false)) ∧ Hid (Marks w.heap.size w' Ds))
    (fun a' _ => d.1.length - (intOf (a'.tmps.getD 23 undef)).toNat) ?_ ?_
   ·exact ⟨[], 0, _, _, _, _, _, _, _, rfl, by omega, by simp, hbl, HDk, HFk, hide (Marks.nil _ _)⟩
   ·clear HDk HFk d0 d1 f0 f1 hbl
    rintro _ wr ⟨Ds, k, u6, u24, u25, u26, u27, u28, u34, rfl, hk, hall, hbl, HDk, HFk, HMk⟩
    have d0 := (za HDk).n0
    have d1 := (za HDk).n1
    by_cases hlt : k < d.1.length
    ·obtain ⟨nd, hnd⟩ : ∃ nd, d.1[k]? = some nd := ⟨_, List.getElem?_eq_getElem hlt⟩
     obtain ⟨b, off, cap, e1, _, _, hb⟩ := ((za HN).below hbl).form (by omega)
     injection e1 with e2 e3 e4
     subst e2
     have hnode := ((za HN).below hbl).node hnd
     obtain ⟨kv, c0, c1, c2, htl, hki⟩ := hnode
     have HKI := hide hki
     obtain ⟨ka, kc, rfl, hk1, hk2, _⟩ := hki
     unfold maxLen at hk2
     have hks := (za HS3) nd (List.mem_of_getElem? hnd)
     clear e4
     gi_wp2_with fail
     refine ⟨trivial, (callsIn_wide.2 (Vw _ _ _ _)).mono ?_⟩
     rintro e w1 ⟨rfl, rfl⟩
     obtain ⟨X, hX⟩ : ∃ X, Obj.cells #[.int .i64 nd.1, .string (B nd.2.1), .slice ka nd.2.2.length kc] 56 = X := ⟨_, rfl⟩
     have hbox : ((wr.alloc X).alloc X).cell? ⟨wr.heap.size + 1, 2, none⟩ = some (.slice ka nd.2.2.length kc) := by
      rw [← hX]
      simp
     have HX := hide hX
     clear hX
     have hB0 := zf (zf (Below.refl wr.heap.size wr) X) X
     have hsz : ((wr.alloc X).alloc X).heap.size = wr.heap.size + 2 := by simp
     have hD0 := (za HDk).below hB0
     have hF0 := zL (za HFk) hB0
     have hM0 := (za HMk).below hB0
     gi_wp2_with fail
     rw [za HX]
     obtain ⟨W0, hW0⟩ : ∃ W0, (wr.alloc X).alloc X = W0 := ⟨_, rfl⟩
     rw [hW0] at hbox hB0 hsz hD0 hF0 hM0 ⊢
     have hwr := hbl.size
     clear HX hW0
     refine wpIn_rangeFunc_ownG rfl (by decide) (gf := 117) (lb := #[.pointer (some ⟨wr.heap.size + 1, 0, none⟩)]) rfl trivial (enters_of Tryz.func117 (by kernel_rfl) rfl)
      (Js Fence.wide 2 trivial rfl (by decide) (wr.heap.size + 1) wr.heap.size (.slice ka nd.2.2.length kc) nd.2.2 (by omega) W0 (by omega) (by omega) hbox ((za HKI).in.below hB0))
      belowK_t (belowK_b (by omega)) (Below.refl _ _) (fun _ => rfl)
      (fun pre W => pre.all (inR · d.1.length) = true ∧ Below W0.heap.size W0 W)
      (fun c pre W => (c = .ret ∧ ∃ last ∈ pre, inR last d.1.length = false) ∧ Boxed W (w.heap.size + 1) 4 (.bool false) ∧ Kept (fun b => b = w.heap.size + 1) W0 W)
      (OwnFrom.and (ownFrom_pure _ _) (ownFrom_below (Nat.le_refl _) (Nat.le_refl _)))
      (fun c => OwnFrom.and (ownFrom_pure _ _) (OwnFrom.and (Own.from (boxed_own _ _ _) _) (kO (Nat.le_refl _))))
      ⟨rfl, Below.refl _ _⟩
      (fun x => ⟨#[.agg #[.slice (some ⟨b, off, none⟩) d.1.length nc, .slice ra d.2.length rc], .pointer (some ⟨w.heap.size, 0, none⟩), .pointer (some ⟨w.heap.size + 1, 0, none⟩), undef, u4, undef, .pointer (some ⟨wr.heap.size, 0, none⟩), .int .i64 x, .pointer (some ⟨w.heap.size, 1, none⟩), .slice ra d.2.length rc, .int .i64 ↑d.2.length, .int .i64 ↑d.2.length, .bool false, u13, u14, u15, u16, u17, u18, u19, .pointer (some ⟨w.heap.size, 0, none⟩), .slice (some ⟨b, off, none⟩) d.1.length nc, .int .i64 ↑d.1.length, .int .i64 ↑k, .bool true, .pointer (some ⟨b, off + k * 3, none⟩), .agg #[.int .i64 nd.1, .string (B nd.2.1), .slice ka nd.2.2.length kc], .agg #[.int .i64 nd.1, .string (B nd.2.1), .slice ka nd.2.2.length kc], .func (Fn.func 117) #[] #[.pointer (some ⟨wr.heap.size + 1, 0, none⟩)], .int .i64 x, undef, undef, undef, undef, u34], []⟩) ?assign ?body ?done ?stop
     case assign =>
      intro l x W K hK
      gi_wp2
      exact hK
     case body =>
      rintro l pre x W ⟨hpre, hbw⟩ _
      have hDw := hide (hD0.below hbw)
      have hFw := hide (zL hF0 hbw)
      have d0 := (za hDw).n0
      have d1 := (za hDw).n1
      have h12 : 1 ≤ 3 - 1 - 1 := by decide
      gi_wp2_with fail
      refine ⟨trivial, (CallsIn.inRound l (callsIn_wide.2 (Zz _ _ _ _ _ W))).mono ?_⟩
      rintro e w2 ⟨rfl, hb2⟩
      have hFw2 := hide (zL (za hFw) hb2)
      have f0 := (za hFw2).cell
      have f1 := (za hFw2).frozen
      cases hr : inR x d.1.length with
      | true =>
       gi_wp2_with fail
       exact ⟨(qq hb2).from _, hb2.mono (by have := hbw.size; omega), by rw [List.all_append, hpre]; simp [hr], zj hbw hb2⟩
      | false =>
       gi_wp2_with fail
       exact ⟨((qq hb2).trans (KeepsOthers.setCell _ _ _)).from _, ⟨rfl, x, by simp, hr⟩, (za hFw2).set _, ((Kept.of_below hbw).trans (Kept.of_below hb2)).trans (Kept.set (S := fun b => b = w.heap.size + 1) (a := ⟨w.heap.size + 1, 0, none⟩) rfl _)⟩
     case done =>
      rintro D ys W hD rfl ⟨hpre, hbw⟩ hK
      have HM1 := hide (((hM0.below hbw).cons (D := D) (by have := hB0.size; omega) hK (hM0.fresh hD)))
      have HD1 := hide (hD0.below hbw)
      have HF1 := hide (zL hF0 hbw)
      have HT : Hid ((d.1.take (k + 1)).all (vb d.1.length) = true) := hide (by
       rw [List.take_add_one, hnd, List.all_append, hall]
       simpa [vb] using hpre)
      have HB1 := hide (zj (zj hbl hB0) hbw)
      gi_wp2_with fail
      refine ⟨⟨D :: Ds, k + 1, _, _, _, _, _, _, _, rfl, by omega, za HT, za HB1, HD1, HF1, HM1⟩, by simp [intOf]; omega⟩
     case stop =>
      rintro D c pre W hD hpr ⟨⟨rfl, last, hl, hf⟩, hbx, hkp⟩ hK
      have hm := (hM0.kept hkp (fun D hD e => by subst e; have := (hM0.at' _ hD).2; rw [show W0.heap[w.heap.size + 1]? = _ from hF0] at this; cases this)).cons (D := D) (by have := hB0.size; omega) hK (hM0.fresh hD)
      have HP : Hid (plcOk d = false) := hide (by
       have h1 : vb d.1.length nd = false := by
        unfold vb
        rw [List.all_eq_false]
        exact ⟨last, List.IsPrefix.mem hl hpr, by simp [hf]⟩
       unfold plcOk
       rw [Bool.and_eq_false_iff]
       right
       rw [List.all_eq_false]
       exact ⟨nd, List.mem_of_getElem? hnd, by simp [h1]⟩)
      have HB1 := hide ((zj hbl hB0).trans (hkp.below (base := w.heap.size) (by have := hB0.size; omega) (fun b e => by omega)))
      gi_wp2_with fail
      refine qV w.heap.size (D :: Ds) W hm (fun w' hst => ?_)
      have f2 := (vB hst hbx).cell
      refine ⟨.bool false, by simp [results, Tryz.f70, go_sem, f2], by rw [za HP], (za HB1).trans hst.below⟩
    ·obtain rfl : k = d.1.length := by omega
     rw [List.take_of_length_le (Nat.le_refl _)] at hall
     have HP : Hid (plcOk d = true) := hide (by unfold plcOk; rw [za HALL, hall]; rfl)
     have HB1 := hide (hbl.setCell (p := ⟨w.heap.size + 1, 0, none⟩) (Nat.le_succ _) (.bool true))
     have HF2 := hide ((za HFk).set (.bool true))
     have f1 := (za HFk).frozen
     have f0 := (za HFk).cell
     have hm := (za HMk).kept (Kept.set (S := fun b => b = w.heap.size + 1) (a := ⟨w.heap.size + 1, 0, none⟩) rfl (.bool true)) (fun D hD e => by subst e; have := ((za HMk).at' _ hD).2; rw [show wr.heap[w.heap.size + 1]? = _ from za HFk] at this; cases this)
     have HM := hide hm
     clear hm hall
     gi_wp2_with fail
     refine qV w.heap.size Ds _ (za HM) (fun w' hst => ?_)
     have f2 := (vB hst (za HF2)).cell
     refine ⟨.bool true, by simp [results, Tryz.f70, go_sem, f2], by rw [za HP], (za HB1).trans hst.below⟩
end Go.Proofs.YtpbnmhnbkfnaeaaGreatDoor
namespace Go.Proofs.YtpbnmhnbkfnaeaaGreatDoor
open Go.RowKit Go.Shelf Nt
attribute [local go_sem] Oper.semAt_some
def IntsS (S : Nat → Prop) (W : World) (v : Value) (zs : List Int) : Prop :=
 ∃ a cap, v = .slice a zs.length cap ∧ zs.length ≤ cap ∧ cap ≤ maxLen ∧ (0 < zs.length → ∃ b off, a = some ⟨b, off, none⟩ ∧ ¬ S b ∧ b < W.heap.size ∧ ∀ j x, zs[j]? = some x → W.cell? ⟨b, off + j, none⟩ = some (.int .i64 x))
theorem IntsS.kept {S : Nat → Prop} {A B : World} {v : Value} {zs : List Int} (h : IntsS S A v zs) (k : Kept S A B) : IntsS S B v zs := by
 obtain ⟨a, cap, rfl, h1, h2, h3⟩ := h
 refine ⟨a, cap, rfl, h1, h2, fun h0 => ?_⟩
 obtain ⟨b, off, rfl, hs, hb, hc⟩ := h3 h0
 refine ⟨b, off, rfl, hs, Nat.lt_of_lt_of_le hb k.size, fun j x hx => ?_⟩
 rw [World.cell?_of_block (k.block b hb hs)]; exact hc j x hx
theorem IntsAt.outS {S : Nat → Prop} {W : World} {v : Value} {zs : List Int} (h : IntsAt W v zs) (hs : ∀ b, b < W.heap.size → ¬ S b) : IntsS S W v zs := by
 obtain ⟨a, cap, rfl, h1, h2, h3⟩ := h
 refine ⟨a, cap, rfl, h1, h2, fun h0 => ?_⟩
 obtain ⟨b, off, rfl, hb, hc⟩ := h3 h0
 exact ⟨b, off, rfl, hs b hb, hb, hc⟩
theorem Kept.put {S : Nat → Prop} {W : World} {l : Nat} {o' : Obj} (hl : S l) : Kept S W (W.putObj l o') :=
 ⟨rfl, rfl, rfl, by simp, fun b _ hb => World.putObj_heap_other (fun e => hb (by rw [e]; exact hl))⟩
theorem JA (F : Fence) (n : Nat) (hF : F.fn 117) (hro : F.round = none) (hn : 1 ≤ n) (l Bs : Nat) (S : Nat → Prop) (kv : Value) (zs : List Int) (hreach : zs.length ≤ 140737488355328) (J Jx : List Int → World → Prop)
  (hY : ∀ pre x W, J pre W → pre.length < zs.length → (pre ++ [x]) <+: zs → YieldAt F (n - 1) Tryz.prog l #[.int .i64 x] W fun e W' =>
   (e = .returned (.bool true) ∧ J (pre ++ [x]) W' ∧ Kept S W W') ∨ (e = .returned (.bool false) ∧ Jx (pre ++ [x]) W'))
  (W : World) (hBs : W.cell? ⟨Bs, 2, none⟩ = some kv) (hI : IntsS S W kv zs) (h0 : J [] W) :
  CallsIn F n Tryz.prog 117 #[.func (.yield l) #[] #[], .pointer (some ⟨Bs, 0, none⟩)] W fun e W' => (∃ v, e = .returned v) ∧ (J zs W' ∨ (∃ pre, pre <+: zs ∧ Jx pre W')) := by
 have HI := hide hI
 obtain ⟨a, cap, rfl, h1, h2, _⟩ := hI
 unfold maxLen at h2
 refine callsIn_of_wp Tryz.func117 rfl hF ?_ hro
 simp only [Tryz.ntmps117, List.size_toArray, List.length_cons, List.length_nil, Nat.reduceAdd, Nat.reduceSub, Array.replicate_succ, Array.replicate_zero, List.push_toArray, List.append_toArray, List.nil_append, List.cons_append]
 gi_wp2
 gi_loopw [8] (fun i wr => ∃ k : Nat, k ≤ zs.length ∧ i = .int .i64 k ∧ J (zs.take k) wr ∧ Kept S W wr)
  (fun i _ => zs.length - (intOf i).toNat)
 case atStart => exact ⟨0, Nat.zero_le _, rfl, by simpa using h0, Kept.refl _ _⟩
 case round =>
  obtain ⟨k, hk, rfl, hJs, hnx⟩ := hrel
  by_cases hlt : k < zs.length
  ·obtain ⟨x, hx⟩ : ∃ x, zs[k]? = some x := ⟨_, List.getElem?_eq_getElem hlt⟩
   obtain ⟨a', cap', e1, _, _, h3⟩ := (za HI).kept hnx
   injection e1 with e2 e3 e4
   obtain ⟨b, off, e5, hsb, hb, hcs⟩ := h3 (by omega)
   rw [← e2] at e5
   subst e5
   have hcx := hcs k x hx
   have HX := hide (show zs.take (k + 1) = zs.take k ++ [x] by rw [List.take_add_one, hx]; rfl)
   obtain ⟨fn, tmps, assign, body, hy, hR⟩ := hY _ x wr hJs (by simp; omega) (by rw [← za HX]; exact List.take_prefix (k + 1) zs)
   clear e2 e4 h3 hcs hx hBs
   gi_wp2
   refine hR.mono ?_
   rintro e W3 (⟨rfl, hJ3, hk3⟩ | ⟨rfl, hJx3⟩)
   ·gi_wp2
    go_roundw
    case rel => exact ⟨k + 1, by omega, by go_num, by rw [za HX]; exact hJ3, hnx.trans hk3⟩
    case measure => simp [intOf]; omega
   ·gi_wp2
    refine bodyPost_ret (results_none rfl _ _ _) rfl ?_
    exact ⟨⟨_, rfl⟩, .inr ⟨_, List.take_prefix (k + 1) zs, by rw [za HX]; exact hJx3⟩⟩
  ·obtain rfl : k = zs.length := by omega
   rw [List.take_of_length_le (Nat.le_refl _)] at hJs
   gi_wp2
   go_end0
   exact ⟨⟨_, rfl⟩, .inl hJs⟩
theorem J7 (F : Fence) (n : Nat) (hF : F.fn 117) (hro : F.round = none) (hn : 1 ≤ n) (Bs : Nat) (S : Nat → Prop) (kv : Value) (zs : List Int) (P : Int → Prop) (hP : ∀ z ∈ zs, P z) (hreach : zs.length ≤ 140737488355328) (w : World) (hBs : Bs < w.heap.size)
  (hc : w.cell? ⟨Bs, 2, none⟩ = some kv) (hI : IntsS S w kv zs) :
  SeqStopsK F n Tryz.prog 117 #[.pointer (some ⟨Bs, 0, none⟩)] (fun x : {z : Int // P z} => #[Value.int .i64 x.1]) (Kept S) (fun ys => ys.map Subtype.val = zs) (fun pre => pre.map Subtype.val <+: zs) zs.length w := fun l J Jx W hW _ _ hY h0 => by
 have hc' := (hW.cell (p := ⟨Bs, 2, none⟩) hBs).trans hc
 refine (JA F n hF hro hn l Bs S kv zs hreach (fun pre W => ∃ p : List {z : Int // P z}, p.map Subtype.val = pre ∧ J p W) (fun pre W => ∃ p : List {z : Int // P z}, p.map Subtype.val = pre ∧ Jx p W) (fun pre x W hJ hl hpx => ?_) W hc' (hI.kept (Kept.of_below hW)) ⟨[], rfl, h0⟩).mono ?_
 ·obtain ⟨p, rfl, hJ⟩ := hJ
  have hx : P x := hP x (List.IsPrefix.mem (by simp) hpx)
  obtain ⟨fn, tmps, assign, body, hy, hR⟩ := hY p ⟨x, hx⟩ W hJ (by simpa using hl)
  refine ⟨fn, tmps, assign, body, hy, hR.mono ?_⟩
  rintro e W3 (⟨rfl, h1, h2⟩ | ⟨rfl, h1⟩)
  ·exact .inl ⟨rfl, ⟨p ++ [⟨x, hx⟩], by simp, h1⟩, h2⟩
  ·exact .inr ⟨rfl, ⟨p ++ [⟨x, hx⟩], by simp, h1⟩⟩
 rintro e W' ⟨he, ⟨p, hp, hj⟩ | ⟨pre, hpr, p, hp, hj⟩⟩
 ·exact ⟨he, .inl ⟨p, hp, hj⟩⟩
 ·exact ⟨he, .inr ⟨p, by show p.map Subtype.val <+: zs; rw [hp]; exact hpr, hj⟩⟩
end Go.Proofs.YtpbnmhnbkfnaeaaGreatDoor
namespace Go.Proofs.YtpbnmhnbkfnaeaaGreatDoor
open Go.RowKit Nt
structure OneS (N : Nat) (W Z : World) (D : Nat → List Nat) (v : Nat → Value) (l : Array Bool) (x : Nat → Value) (w : World) : Prop where
 sz : l.size = N + 1
 val : ∀ i, i < N → LL l i → x i = v i
 dep : ∀ i, i < N → LL l i → ∀ j ∈ D i, LL l j
 ord : LL l N → ∀ i, i < N → LL l i
 at' : ¬ LL l N → w = W
 end' : LL l N → w = Z
section
variable {N : Nat} {W Z w : World} {D : Nat → List Nat} {v x : Nat → Value} {l : Array Bool}
theorem OneS.start (n : l = Array.replicate (N + 1) false) : OneS N W Z D v l x W := by
 subst n
 have hn : ∀ j, ¬ LL (Array.replicate (N + 1) false) j := fun j h => by
  unfold LL at h
  rw [Array.getElem?_replicate] at h
  split at h <;> simp at h
 exact ⟨by simp, fun i _ h => absurd h (hn _), fun i _ h => absurd h (hn _), fun h => absurd h (hn _), fun _ => rfl, fun h => absurd h (hn _)⟩
theorem OneS.now (h : OneS N W Z D v l x w) {i : Nat} (hi : i < N) (hl : ¬ LL l i) : w = W := h.at' fun e => hl (h.ord e i hi)
theorem OneS.next (h : OneS N W Z D v l x w) (i : Nat) (hi : i < N) (u : Value) (hv : u = v i) (hD : ∀ j ∈ D i, LL l j) : OneS N W Z D v (l.setIfInBounds i true) (fun j => if j = i then u else x j) w := by
 have hs := fun j => vG (l := l) (i := i) (by rw [h.sz]; omega) j
 have hN : LL (l.setIfInBounds i true) N ↔ LL l N := by
  rw [hs]; constructor
  ·intro e; rcases e with e | e
   ·omega
   ·exact e
  ·exact .inr
 refine ⟨by simp [h.sz], fun j hj e => ?_, fun j hj e d hd => (hs d).2 (.inr ?_), fun e j hj => (hs j).2 (.inr (h.ord (hN.1 e) j hj)), fun e => h.at' fun e' => e (hN.2 e'), fun e => h.end' (hN.1 e)⟩
 ·by_cases q : j = i
  ·subst q
   show (if j = j then u else x j) = v j
   rw [if_pos rfl]; exact hv
  ·show (if j = i then u else x j) = v j
   rw [if_neg q]
   rcases (hs j).1 e with e | e
   ·exact absurd e q
   ·exact h.val j hj e
 ·rcases (hs j).1 e with e | e
  ·subst e; exact hD d hd
  ·exact h.dep j hj e d hd
theorem OneS.put (h : OneS N W Z D v l x w) (hall : ∀ i, i < N → LL l i) : OneS N W Z D v (l.setIfInBounds N true) x Z := by
 have hs := fun j => vG (l := l) (i := N) (by rw [h.sz]; omega) j
 have hN : LL (l.setIfInBounds N true) N := (hs N).2 (.inl rfl)
 exact ⟨by simp [h.sz], fun j hj e => h.val j hj (hall j hj), fun j hj _ d hd => (hs d).2 (.inr (h.dep j hj (hall j hj) d hd)), fun _ j hj => (hs j).2 (.inr (hall j hj)), fun e => absurd hN e, fun _ => rfl⟩
end
def dep14 : Nat → List Nat
 | 4 => [2, 3]
 | 5 => [4]
 | 6 => [0, 1]
 | _ => []
def dep17 : Nat → List Nat
 | 4 => [2, 3]
 | 5 => [4]
 | 6 => [5]
 | 9 => [7, 8]
 | 10 => [9]
 | 11 => [6, 10]
 | 12 => [11]
 | 13 => [0, 1]
 | _ => []
end Go.Proofs.YtpbnmhnbkfnaeaaGreatDoor
namespace Go.Proofs.YtpbnmhnbkfnaeaaGreatDoor
open Go.RowKit Nt
attribute [local go_sem] Oper.semAt_some
def AtR (w : World) (g n : Nat) (f : Nat → Int) : Prop := ∃ cs : Array Value, w.heap[g]? = some (.cells cs 3 (0, 0)) ∧ cs.size = n ∧ ∀ j, j < n → cs[j]? = some (.int .i64 (f j))
theorem AtR.lt {w : World} {g n : Nat} {f : Nat → Int} (h : AtR w g n f) : g < w.heap.size := by obtain ⟨cs, h, _⟩ := h; exact (Array.getElem?_eq_some_iff.1 h).1
theorem AtR.cell {w : World} {g n : Nat} {f : Nat → Int} (h : AtR w g n f) {j : Nat} (hj : j < n) : w.cell? ⟨g, j, none⟩ = some (.int .i64 (f j)) := by
 obtain ⟨cs, h1, h2, h3⟩ := h; simp only [World.cell?, h1]; exact h3 j hj
theorem AtR.frozen {w : World} {g n : Nat} {f : Nat → Int} (h : AtR w g n f) (j : Nat) : w.frozen? ⟨g, j, none⟩ = false := by
 obtain ⟨cs, h1, h2, h3⟩ := h; simp [World.frozen?, h1]
theorem AtR.below {w w' : World} {g n : Nat} {f : Nat → Int} (h : AtR w g n f) (k : Below w.heap.size w w') : AtR w' g n f := by
 have hl := h.lt
 obtain ⟨cs, h1, h2⟩ := h; exact ⟨cs, (k.block g hl).trans h1, h2⟩
theorem AtR.kept {S : Nat → Prop} {w w' : World} {g n : Nat} {f : Nat → Int} (h : AtR w g n f) (k : Kept S w w') (hS : ¬ S g) : AtR w' g n f := by
 have hl := h.lt
 obtain ⟨cs, h1, h2⟩ := h; exact ⟨cs, (k.block g hl hS).trans h1, h2⟩
theorem AtR.set {w : World} {g n k : Nat} {f : Nat → Int} {x : Int} (h : AtR w g n f) : AtR (w.setCell ⟨g, k, none⟩ (.int .i64 x)) g n (fun j => if j = k then x else f j) := by
 obtain ⟨cs, h1, h2, h3⟩ := h
 refine ⟨cs.setIfInBounds k (.int .i64 x), ?_, by simpa using h2, fun j hj => ?_⟩
 ·show (w.heap.modify g _)[g]? = _
  rw [Array.getElem?_modify, if_pos rfl, h1]; rfl
 ·rw [Array.getElem?_setIfInBounds]
  by_cases e : k = j
  ·subst e; rw [if_pos rfl, if_pos (by omega)]; simp
  ·rw [if_neg e]; simp only [if_neg (Ne.symm e)]; exact h3 j hj
theorem AtR.ext {w : World} {g n : Nat} {f f' : Nat → Int} (h : AtR w g n f) (hf : ∀ j, j < n → f j = f' j) : AtR w g n f' := by
 obtain ⟨cs, h1, h2, h3⟩ := h; exact ⟨cs, h1, h2, fun j hj => by rw [← hf j hj]; exact h3 j hj⟩
theorem AtR.made (w : World) (n : Nat) : AtR (w.alloc (.cells (madeCells #[.int .i64 0] n) 3)) w.heap.size n (fun _ => 0) := by
 refine ⟨_, heap_alloc_new w _, by rw [size_madeCells], fun j hj => ?_⟩
 rw [← Array.getElem?_toList, toList_madeCells_one, List.getElem?_replicate, if_pos hj]
theorem AtR.far {w : World} {g n g' i : Nat} {f : Nat → Int} {u : Value} (h : AtR w g n f) (hne : g ≠ g') : AtR (w.setCell ⟨g', i, none⟩ u) g n f :=
 h.kept (Kept.set (S := fun b => b = g') (a := ⟨g', i, none⟩) rfl u) hne
theorem AtR.still {B : Nat} {w w' : World} {g n : Nat} {f : Nat → Int} (h : AtR w g n f) (k : Still B w w') : AtR w' g n f := by
 obtain ⟨cs, h1, h2⟩ := h; exact ⟨cs, k.cells g _ h1 rfl, h2⟩
theorem AtR.own {β : Type} (g n : Nat) (f : β → Nat → Int) : Own (fun s W => AtR W g n (f s)) := fun s X Y row hs hg hrow => by
 have hl := hs.lt
 obtain ⟨cs, h1, h2⟩ := hs
 refine ⟨cs, (hg.block g hl fun e => ?_).trans h1, h2⟩
 obtain ⟨o, ho, hc⟩ := hrow g e.symm
 rw [h1] at ho; cases ho; cases hc
theorem zaO {P : Program} {t e : TypeId} {i : TypeInfo} {z : Value} {bytes : Nat} (ht : P.underlying t = some (.slice e)) (hi : P.info? e = some i) (hz : i.zero = some z) (hs : i.size = 1) (hb : i.bytes = bytes) (hc : z.cells = #[z]) (n : Nat) (hn : bytes * n ≤ 281474976710656) (hn2 : n ≤ 281474976710656) (W : World) :
  (Instr.makeSlice t (.int .i64 (n : Int)) (.int .i64 (n : Int))).run P W = .ok (.slice (some ⟨W.heap.size, 0, none⟩) n n) (W.alloc (.cells (madeCells #[z] n) e)) := by
 have h := run_make (P := P) W t e i z ht hi hz .i64 .i64 (n : Int) (n : Int) (by omega) (by omega) (by rw [hb, ← Int.natCast_mul]; omega) (by omega)
 rw [hc, hs] at h
 simpa using h
theorem Jb (ns : List Nd) (na : Option Addr) (nc : Nat) (D : Nat) (w : World) (hN : NodesAt w (.slice na ns.length nc) ns) (hn : ns.all (ndOk ns.length) = true) (hs : zM ns) (h80 : ns.length ≤ 80) (h0 : 0 < ns.length) (hD : D ≤ 3) :
  Calls Tryz.prog 40 #[.slice na ns.length nc, .int .i64 (D : Int)] w fun e w' => (∃ g, e = .returned (.slice (some ⟨g, 0, none⟩) ns.length ns.length) ∧ AtR w' g ns.length (fun j => (hashD ns D (j : Int) : Int))) ∧ Below w.heap.size w w' := by
 obtain ⟨i0, hi, hz0, hz1, hz2⟩ := info_parts Tryz.infoInt
 have hmk := fun W => zaO Tryz.underlying24 hi hz0 hz1 hz2 rfl ns.length (by omega) (by omega) W
 clear hi hz0 hz1 hz2
 obtain ⟨b, off, rfl, _⟩ := hN.addr h0
 have hncm : nc ≤ maxLen := by
  obtain ⟨a', c', e, _, h2⟩ := hN.form0
  injection e with _ _ e3
  omega
 unfold maxLen at hncm
 have HN := hide hN
 have HM := hide hmk
 clear hN
 refine (callsIn_wide (n := 3)).1 ?_
 refine callsIn_of_wp_marks Tryz.func40 rfl trivial ?_ rfl
 simp only [Tryz.ntmps40, List.size_toArray, List.length_cons, List.length_nil, Nat.reduceAdd, Nat.reduceSub, Array.replicate_succ, Array.replicate_zero, List.push_toArray, List.append_toArray, List.nil_append, List.cons_append]
 gi_wp2_with fail
 have HR0 := hide (AtR.made w ns.length)
 have HB0 := hide (zf (Below.refl w.heap.size w) (.cells (madeCells #[.int .i64 0] ns.length) 3))
 obtain ⟨W0, hW0⟩ : ∃ W0, w.alloc (.cells (madeCells #[.int .i64 0] ns.length) 3) = W0 := ⟨_, rfl⟩
 rw [hW0] at HR0 HB0 ⊢
 clear hW0 hmk
 obtain ⟨G0, hG0⟩ : ∃ G0, w.heap.size = G0 := ⟨_, rfl⟩
 rw [hG0] at HR0 ⊢
 have HG0 := hide hG0
 clear hG0
 gi_loopw [18] (fun i wr => ∃ k : Nat, k ≤ ns.length ∧ i = .int .i64 k ∧ Below w.heap.size w wr ∧ Hid (AtR wr G0 ns.length (fun j => if j < k then (hashD ns 0 (j : Int) : Int) else 0)))
  (fun i _ => ns.length - (intOf i).toNat)
 case atStart => exact ⟨0, by omega, rfl, za HB0, hide ((za HR0).ext fun j _ => by simp)⟩
 case round =>
  obtain ⟨k, hk, rfl, hbl, HRk⟩ := hrel
  by_cases hlt : k < ns.length
  ·obtain ⟨nd, hnd⟩ : ∃ nd, ns[k]? = some nd := ⟨_, List.getElem?_eq_getElem hlt⟩
   obtain ⟨kv, c0, c1, c2, _, hki⟩ := ((za HN).below hbl).node hnd
   obtain ⟨ka, kc, rfl, _, _⟩ := hki.form
   have hmem := List.mem_of_getElem? hnd
   have HC := hide (fun W => X7 ns.length nd ka kc W (List.all_eq_true.1 hn nd hmem) (hs nd hmem))
   have HE : Hid (bareH nd = hashD ns 0 (k : Int)) := hide (kW (x := (k : Int)) hnd).symm
   have HBL := hide hbl
   clear hki hmem hnd hbl
   gi_wp2_with fail
   refine ⟨trivial, (callsIn_wide.2 (za HC _)).mono ?_⟩
   rintro e w1 ⟨rfl, hb1⟩
   have hb1 := zj (zf (Below.refl wr.heap.size wr) (.cells #[.int .i64 nd.1, .string (B nd.2.1), .slice ka nd.2.2.length kc] 56)) hb1
   have hR1 := (za HRk).below hb1
   have f0 := hR1.frozen k
   have f1 := hR1.cell hlt
   have HR2 := hide (hR1.set (k := k) (x := ((bareH nd : Nat) : Int)))
   have HB2 := hide ((zj (za HBL) hb1).setCell (p := ⟨G0, k, none⟩) (Nat.le_of_eq (za HG0)) (.int .i64 ((bareH nd : Nat) : Int)))
   clear hb1 hR1 c0 c1 c2
   gi_wp2_with fail
   go_roundw
   case rel => exact ⟨k + 1, by omega, by go_num, za HB2, hide ((za HR2).ext fun j hj => by
    by_cases e : j = k
    ·subst e; simp [za HE]
    ·by_cases e2 : j < k
     ·simp [e, e2]; omega
     ·simp [e, e2]; omega)⟩
   case measure => simp [intOf]; omega
  ·obtain rfl : k = ns.length := by omega
   have HBR := hide ((za HRk).ext (f' := fun j => (hashD ns 0 (j : Int) : Int)) fun j hj => by simp [hj])
   have HBL := hide hbl
   clear HRk hbl hlt HR0 HB0
   gi_wp2_with fail
   obtain ⟨G8, hG8⟩ : ∃ G8, wr.heap.size = G8 := ⟨_, rfl⟩
   have hX8 : Boxed (wr.alloc (.cells #[.slice (some ⟨G0, 0, none⟩) ns.length ns.length] 24)) G8 24 (.slice (some ⟨G0, 0, none⟩) ns.length ns.length) := by rw [← hG8]; exact Boxed.new wr _ _
   have HB2 := hide (zf (za HBL) (.cells #[.slice (some ⟨G0, 0, none⟩) ns.length ns.length] 24))
   have HR2 := hide ((za HBR).below (zf (Below.refl _ _) (.cells #[.slice (some ⟨G0, 0, none⟩) ns.length ns.length] 24)))
   have HX8 := hide hX8
   have hGG : G0 < G8 := by have := (za HBR).lt; omega
   rw [hG8]
   clear hX8 hG8 HBL HBR
   refine wpIn_loop (fun a' w' => ∃ (Ds : List Nat) (d gn : Nat) (u9 u10 u11 u12 u32 u33 u34 u35 u36 u37 u38 u39 u40 u41 u42 u43 u44 u45 u46 u47 u48 u49 u50 u51 u52 u53 u54 u55 u56 u57 u58 u59 u60 u61 u62 u63 u64 u65 u66 u67 u68 u69 : Value), a' = ⟨#[.slice (some ⟨b, off, none⟩) ns.length nc, .int .i64 ↑D, undef, undef, .slice none 0 0, .slice (some ⟨G0, 0, none⟩) ns.length ns.length, u6, u7, .pointer (some ⟨G8, 0, none⟩), u9, u10, u11, u12, .slice (some ⟨b, off, none⟩) ns.length nc, .int .i64 ↑ns.length, .slice (some ⟨G0, 0, none⟩) ns.length ns.length, .slice (some ⟨b, off, none⟩) ns.length nc, .int .i64 ↑ns.length, .int .i64 ↑ns.length, .bool false, u20, u21, u22, u23, u24, u25, u26, u27, u28, .slice (some ⟨G0, 0, none⟩) ns.length ns.length, .int .i64 ↑D, .int .i64 ↑d, u32, u33, u34, u35, u36, u37, u38, u39, u40, u41, u42, u43, u44, u45, u46, u47, u48, u49, u50, u51, u52, u53, u54, u55, u56, u57, u58, u59, u60, u61, u62, u63, u64, u65, u66, u67, u68, u69, undef], Ds.map markD⟩ ∧ d ≤ D ∧ Below w.heap.size w w' ∧ Hid (AtR w' G0 ns.length (fun j => (hashD ns 0 (j : Int) : Int))) ∧ Hid (Boxed w' G8 24 (.slice (some ⟨gn, 0, none⟩) ns.length ns.length)) ∧ Hid (AtR w' gn ns.length (fun j => (hashD ns d (j : Int) : Int))) ∧ Hid (Marks G0 w' Ds))
    (fun a' _ => D - (intOf (a'.tmps.getD 31 undef)).toNat) ?_ ?_
   ·exact ⟨[], 0, G0, _, _, _, _, _, _, _, _, _, _, _, _, _, _, _, _, _, _, _, _, _, _, _, _, _, _, _, _, _, _, _, _, _, _, _, _, _, _, _, _, _, _, rfl, by omega, za HB2, HR2, HX8, HR2, hide (Marks.nil _ _)⟩
   ·clear HB2 HR2 HX8
    rintro _ wr ⟨Ds, d, gn, u9, u10, u11, u12, u32, u33, u34, u35, u36, u37, u38, u39, u40, u41, u42, u43, u44, u45, u46, u47, u48, u49, u50, u51, u52, u53, u54, u55, u56, u57, u58, u59, u60, u61, u62, u63, u64, u65, u66, u67, u68, u69, rfl, hd, hbl, HR0, HX8, HRn, HMk⟩
    by_cases hlt : d < D
    ·have HBL := hide hbl
     have hGw : G8 < wr.heap.size := (za HX8).lt
     have hgnw : gn < wr.heap.size := (za HRn).lt
     have hmk := za HM wr
     have hr3 := AtR.made wr ns.length
     have hk3 := zf (zf (Below.refl wr.heap.size wr) (.cells (madeCells #[.int .i64 0] ns.length) 3)) (.cells #[.slice (some ⟨wr.heap.size, 0, none⟩) ns.length ns.length] 24)
     have hx9 := Boxed.new (wr.alloc (.cells (madeCells #[.int .i64 0] ns.length) 3)) 24 (.slice (some ⟨wr.heap.size, 0, none⟩) ns.length ns.length)
     have hr3' := hr3.below (zf (Below.refl _ _) (.cells #[.slice (some ⟨wr.heap.size, 0, none⟩) ns.length ns.length] 24))
     rw [World.size_alloc] at hx9
     obtain ⟨W3, hW3⟩ : ∃ W3, (wr.alloc (.cells (madeCells #[.int .i64 0] ns.length) 3)).alloc (.cells #[.slice (some ⟨wr.heap.size, 0, none⟩) ns.length ns.length] 24) = W3 := ⟨_, rfl⟩
     rw [hW3] at hx9 hr3' hk3
     have HK3 := hide hk3
     have HX9 := hide hx9
     have HR3 := hide hr3'
     have HW3 := hide hW3
     have hg9 : W3.heap.size = wr.heap.size + 2 := by rw [← hW3]; simp
     clear hbl hr3 hr3' hx9 hk3 hW3
     gi_wp2_with fail
     rw [za HW3]
     clear hmk HW3
     obtain ⟨gd, hgd⟩ : ∃ gd, wr.heap.size = gd := ⟨_, rfl⟩
     rw [hgd] at HX9 HR3 hg9 hGw hgnw ⊢
     refine wpIn_loop (fun a' w' => ∃ (Ds : List Nat) (k : Nat) (u10 u11 u12 u39 u40 u41 u42 u43 u44 u45 u46 u47 u48 u49 u50 u51 u52 u53 u54 u55 u56 u57 u58 u59 u60 u61 u62 u63 u64 u65 u66 u67 : Value), a' = ⟨#[.slice (some ⟨b, off, none⟩) ns.length nc, .int .i64 ↑D, undef, undef, .slice none 0 0, .slice (some ⟨G0, 0, none⟩) ns.length ns.length, u6, u7, .pointer (some ⟨G8, 0, none⟩), .pointer (some ⟨gd + 1, 0, none⟩), u10, u11, u12, .slice (some ⟨b, off, none⟩) ns.length nc, .int .i64 ↑ns.length, .slice (some ⟨G0, 0, none⟩) ns.length ns.length, .slice (some ⟨b, off, none⟩) ns.length nc, .int .i64 ↑ns.length, .int .i64 ↑ns.length, .bool false, u20, u21, u22, u23, u24, u25, u26, u27, u28, .slice (some ⟨G0, 0, none⟩) ns.length ns.length, .int .i64 ↑D, .int .i64 ↑d, .bool true, .slice (some ⟨b, off, none⟩) ns.length nc, .int .i64 ↑ns.length, .slice (some ⟨gd, 0, none⟩) ns.length ns.length, .slice (some ⟨b, off, none⟩) ns.length nc, .int .i64 ↑ns.length, .int .i64 ↑k, u39, u40, u41, u42, u43, u44, u45, u46, u47, u48, u49, u50, u51, u52, u53, u54, u55, u56, u57, u58, u59, u60, u61, u62, u63, u64, u65, u66, u67, u68, u69, undef], Ds.map markD⟩ ∧ k ≤ ns.length ∧ Hid (Below gd wr w') ∧ Hid (Boxed w' (gd + 1) 24 (.slice (some ⟨gd, 0, none⟩) ns.length ns.length)) ∧ Hid (AtR w' gd ns.length (fun j => if j < k then (hashD ns (d + 1) (j : Int) : Int) else 0)) ∧ Hid (Marks G0 w' Ds))
      (fun a' _ => ns.length - (intOf (a'.tmps.getD 38 undef)).toNat) ?_ ?_
     ·exact ⟨Ds, 0, _, _, _, _, _, _, _, _, _, _, _, _, _, _, _, _, _, _, _, _, _, _, _, _, _, _, _, _, _, _, _, _, rfl, by omega, hide (by rw [← hgd]; exact za HK3), HX9, hide ((za HR3).ext fun j _ => by simp), hide ((za HMk).below (za HK3))⟩
     ·clear HX9 HR3 HMk HK3
      rintro _ wk ⟨Ds, k, u10, u11, u12, u39, u40, u41, u42, u43, u44, u45, u46, u47, u48, u49, u50, u51, u52, u53, u54, u55, u56, u57, u58, u59, u60, u61, u62, u63, u64, u65, u66, u67, rfl, hk, HKk, HX9, HRk, HMk⟩
      by_cases hkl : k < ns.length
      ·have HBk := hide ((za HBL).trans ((za HKk).mono (by have := (za HBL).size; omega)))
       obtain ⟨nd, hnd⟩ : ∃ nd, ns[k]? = some nd := ⟨_, List.getElem?_eq_getElem hkl⟩
       obtain ⟨kv, c0', c1', c2', _, hki⟩ := (za HN).node hnd
       have c0 := vD (za HBk) c0'
       have c1 := vD (za HBk) c1'
       have c2 := vD (za HBk) c2'
       clear c0' c1' c2'
       obtain ⟨ka, kc, rfl, _, _⟩ := hki.form
       have HKI := hide hki
       have HND := hide hnd
       clear hki hnd
       have hg10 : gd + 1 < wk.heap.size := (za HX9).lt
       obtain ⟨X, hX⟩ : ∃ X, Obj.cells #[.int .i64 nd.1, .string (B nd.2.1), .slice ka nd.2.2.length kc] 56 = X := ⟨_, rfl⟩
       have hk5 := zf (zf (Below.refl wk.heap.size wk) (.cells #[.int .i64 ↑k] 3)) X
       have hx10 := zL (Boxed.new wk 3 (.int .i64 ↑k)) (zf (Below.refl _ _) X)
       have hx11 : AtC3 ((wk.alloc (.cells #[.int .i64 ↑k] 3)).alloc X) (wk.heap.size + 1) (.int .i64 nd.1) (.string (B nd.2.1)) (.slice ka nd.2.2.length kc) 56 := by rw [← hX]; have h := AtC3.new (wk.alloc (.cells #[.int .i64 ↑k] 3)) (.int .i64 nd.1) (.string (B nd.2.1)) (.slice ka nd.2.2.length kc) 56; rw [World.size_alloc] at h; exact h
       obtain ⟨W5, hW5⟩ : ∃ W5, (wk.alloc (.cells #[.int .i64 ↑k] 3)).alloc X = W5 := ⟨_, rfl⟩
       rw [hW5] at hk5 hx10 hx11
       have hs5 : W5.heap.size = wk.heap.size + 2 := by rw [← hW5]; simp
       have HK5 := hide hk5
       have HX10 := hide hx10
       have HX11 := hide hx11
       have HXX := hide (And.intro hX hW5)
       clear hk5 hx10 hx11 hX hW5
       gi_wp2_with fail
       obtain ⟨hX, hW5⟩ := za HXX
       rw [hX, hW5]
       clear c0 c1 c2 hX hW5 HXX
       have b9 : W5.drew.cell? ⟨gd + 1, 0, none⟩ = some (.slice (some ⟨gd, 0, none⟩) ns.length ns.length) := (zL (za HX9) (za HK5)).cell
       have b10 : W5.drew.cell? ⟨wk.heap.size, 0, none⟩ = some (.int .i64 ↑k) := (za HX10).cell
       have hR0k := ((za HR0).below (by rw [hgd]; exact za HKk)).below (za HK5)
       have b0 : W5.drew.cell? ⟨G0, k, none⟩ = some (.int .i64 ((hashD ns 0 (k : Int) : Nat) : Int)) := hR0k.cell hkl
       have hRk5 := (za HRk).below (za HK5)
       have bd : W5.drew.cell? ⟨gd, k, none⟩ = some (.int .i64 _) := hRk5.cell hkl
       have bf : W5.drew.frozen? ⟨gd, k, none⟩ = false := hRk5.frozen k
       have HRK5 := hide hRk5
       have HND5 := hide hR0k
       obtain ⟨H0, hH0⟩ : ∃ H0, hashD ns 0 (k : Int) = H0 := ⟨_, rfl⟩
       rw [hH0] at b0
       have HH0 := hide hH0
       clear hRk5 hR0k hH0
       obtain ⟨v, hv⟩ : ∃ v : Nat → Value, v = fun j => match j with
        | 0 => .slice (some ⟨gd, 0, none⟩) ns.length ns.length
        | 1 => .int .i64 ↑k
        | 2 => .slice (some ⟨G0, 0, none⟩) ns.length ns.length
        | 3 => .int .i64 ↑k
        | 4 => .pointer (some ⟨G0, k, none⟩)
        | 5 => .int .i64 (H0 : Int)
        | 6 => .pointer (some ⟨gd, k, none⟩)
        | _ => undef := ⟨_, rfl⟩
       have v0 : v 0 = .slice (some ⟨gd, 0, none⟩) ns.length ns.length := by subst hv; rfl
       have v1 : v 1 = .int .i64 ↑k := by subst hv; rfl
       have v2 : v 2 = .slice (some ⟨G0, 0, none⟩) ns.length ns.length := by subst hv; rfl
       have v3 : v 3 = .int .i64 ↑k := by subst hv; rfl
       have v4 : v 4 = .pointer (some ⟨G0, k, none⟩) := by subst hv; rfl
       have v5 : v 5 = .int .i64 (H0 : Int) := by subst hv; rfl
       have v6 : v 6 = .pointer (some ⟨gd, k, none⟩) := by subst hv; rfl
       clear hv
       refine wpIn_region_any (by kernel_rfl) ?_
       change wpAnyIn _ _ _ _ _ _ _ _ _ (World.drew _)
       refine yD (fun l' a' w' => ∃ x : Nat → Value, a' = ⟨#[.slice (some ⟨b, off, none⟩) ns.length nc, .int .i64 ↑D, undef, undef, .slice none 0 0, .slice (some ⟨G0, 0, none⟩) ns.length ns.length, u6, u7, .pointer (some ⟨G8, 0, none⟩), .pointer (some ⟨gd + 1, 0, none⟩), .pointer (some ⟨wk.heap.size, 0, none⟩), .pointer (some ⟨wk.heap.size + 1, 0, none⟩), u12, .slice (some ⟨b, off, none⟩) ns.length nc, .int .i64 ↑ns.length, .slice (some ⟨G0, 0, none⟩) ns.length ns.length, .slice (some ⟨b, off, none⟩) ns.length nc, .int .i64 ↑ns.length, .int .i64 ↑ns.length, .bool false, u20, u21, u22, u23, u24, u25, u26, u27, u28, .slice (some ⟨G0, 0, none⟩) ns.length ns.length, .int .i64 ↑D, .int .i64 ↑d, .bool true, .slice (some ⟨b, off, none⟩) ns.length nc, .int .i64 ↑ns.length, .slice (some ⟨gd, 0, none⟩) ns.length ns.length, .slice (some ⟨b, off, none⟩) ns.length nc, .int .i64 ↑ns.length, .int .i64 ↑k, .bool true, .int .i64 ↑k, .pointer (some ⟨b, off + k * 3, none⟩), .agg #[.int .i64 nd.1, .string (B nd.2.1), .slice ka nd.2.2.length kc], x 0, x 1, x 2, x 3, x 4, x 5, x 6, u50, u51, u52, u53, u54, u55, u56, u57, u58, u59, u60, u61, u62, u63, u64, u65, u66, u67, u68, u69, undef], Ds.map markD⟩ ∧ OneS 7 W5.drew (W5.drew.setCell ⟨gd, k, none⟩ (.int .i64 (H0 : Int))) dep14 v l' x w') ?hsz ?hend ?hstep ?hgo _ _ _ _ ?h0 ?hc
       case hsz =>
        rintro l' a' w' ⟨x, _, h⟩
        exact h.sz
       case h0 => exact ⟨fun j => [u43, u44, u45, u46, u47, u48, u49].getD j undef, rfl, OneS.start rfl⟩
       case hc => exact Nat.le_of_eq rfl
       case hgo =>
        rintro l' a' w' ⟨x, rfl, h⟩ hr j hj
        have k0 : l'[0]? = some true := ze hr 0 (by simp) (by rw [h.sz]; rfl) (by simp [Region.binds, Array.getD_eq_getD_getElem?])
        have k1 : l'[1]? = some true := ze hr 1 (by simp) (by rw [h.sz]; rfl) (by simp [Region.binds, Array.getD_eq_getD_getElem?, k0])
        have k2 : l'[2]? = some true := ze hr 2 (by simp) (by rw [h.sz]; rfl) (by simp [Region.binds, Array.getD_eq_getD_getElem?, k0, k1])
        have k3 : l'[3]? = some true := ze hr 3 (by simp) (by rw [h.sz]; rfl) (by simp [Region.binds, Array.getD_eq_getD_getElem?, k0, k1, k2])
        have k4 : l'[4]? = some true := ze hr 4 (by simp) (by rw [h.sz]; rfl) (by simp [Region.binds, Array.getD_eq_getD_getElem?, k0, k1, k2, k3])
        have k5 : l'[5]? = some true := ze hr 5 (by simp) (by rw [h.sz]; rfl) (by simp [Region.binds, Array.getD_eq_getD_getElem?, k0, k1, k2, k3, k4])
        have k6 : l'[6]? = some true := ze hr 6 (by simp) (by rw [h.sz]; rfl) (by simp [Region.binds, Array.getD_eq_getD_getElem?, k0, k1, k2, k3, k4, k5])
        have k7 : l'[7]? = some true := ze hr 7 (by simp) (by rw [h.sz]; rfl) (by simp [Region.binds, Array.getD_eq_getD_getElem?, k0, k1, k2, k3, k4, k5, k6])
        have hj : j < 8 := by simpa using hj
        rcases (by omega : j = 0 ∨ j = 1 ∨ j = 2 ∨ j = 3 ∨ j = 4 ∨ j = 5 ∨ j = 6 ∨ j = 7) with rfl | rfl | rfl | rfl | rfl | rfl | rfl | rfl
        all_goals assumption
       case hstep =>
        rintro l' a' w' j ⟨x, rfl, h⟩ hi
        have hi2 := hi
        unfold Region.ready at hi2
        rw [List.mem_filter] at hi2
        obtain ⟨hjj, hi3⟩ := hi2
        have hjj : j < 8 := by simpa using hjj
        have hjl : ¬ LL l' j := fun e => by
         unfold LL at e
         simp [Array.getD_eq_getD_getElem?, e] at hi3
        clear hi
        rcases (by omega : j = 0 ∨ j = 1 ∨ j = 2 ∨ j = 3 ∨ j = 4 ∨ j = 5 ∨ j = 6 ∨ j = 7) with rfl | rfl | rfl | rfl | rfl | rfl | rfl | rfl
        ·clear hi3
         have hw := h.now (by omega) hjl
         subst hw
         refine wpOpIn_step rfl (fun K hK => ?_)
         go_simp
         exact hK _ _ ⟨_, by simp [v0], h.next 0 (by omega) (v 0) rfl (fun j hj => by simp [dep14] at hj)⟩
        ·clear hi3
         have hw := h.now (by omega) hjl
         subst hw
         refine wpOpIn_step rfl (fun K hK => ?_)
         go_simp
         exact hK _ _ ⟨_, by simp [v1], h.next 1 (by omega) (v 1) rfl (fun j hj => by simp [dep14] at hj)⟩
        ·clear hi3
         have hw := h.now (by omega) hjl
         subst hw
         refine wpOpIn_step rfl (fun K hK => ?_)
         go_simp
         exact hK _ _ ⟨_, by simp [v2], h.next 2 (by omega) (v 2) rfl (fun j hj => by simp [dep14] at hj)⟩
        ·clear hi3
         have hw := h.now (by omega) hjl
         subst hw
         refine wpOpIn_step rfl (fun K hK => ?_)
         go_simp
         exact hK _ _ ⟨_, by simp [v3], h.next 3 (by omega) (v 3) rfl (fun j hj => by simp [dep14] at hj)⟩
        ·have l2 : LL l' 2 := LL_of (by simp [Region.binds, Array.getD_eq_getD_getElem?] at hi3; simp [hi3])
         have l3 : LL l' 3 := LL_of (by simp [Region.binds, Array.getD_eq_getD_getElem?] at hi3; simp [hi3])
         clear hi3
         have hw := h.now (by omega) hjl
         subst hw
         have w2 := (h.val 2 (by omega) l2).trans v2
         have w3 := (h.val 3 (by omega) l3).trans v3
         refine wpOpIn_step rfl (fun K hK => ?_)
         go_simp
         exact hK _ _ ⟨_, by simp [w2, w3, v4], h.next 4 (by omega) (v 4) rfl (fun j hj => by simp [dep14] at hj; rcases hj with rfl | rfl <;> assumption)⟩
        ·have l4 : LL l' 4 := LL_of (by simp [Region.binds, Array.getD_eq_getD_getElem?] at hi3; simp [hi3])
         clear hi3
         have hw := h.now (by omega) hjl
         subst hw
         have w4 := (h.val 4 (by omega) l4).trans v4
         refine wpOpIn_step rfl (fun K hK => ?_)
         go_simp
         exact hK _ _ ⟨_, by simp [w4, v5], h.next 5 (by omega) (v 5) rfl (fun j hj => by simp [dep14] at hj; subst hj; exact l4)⟩
        ·have l0 : LL l' 0 := LL_of (by simp [Region.binds, Array.getD_eq_getD_getElem?] at hi3; simp [hi3])
         have l1 : LL l' 1 := LL_of (by simp [Region.binds, Array.getD_eq_getD_getElem?] at hi3; simp [hi3])
         clear hi3
         have hw := h.now (by omega) hjl
         subst hw
         have w0 := (h.val 0 (by omega) l0).trans v0
         have w1 := (h.val 1 (by omega) l1).trans v1
         refine wpOpIn_step rfl (fun K hK => ?_)
         go_simp
         exact hK _ _ ⟨_, by simp [w0, w1, v6], h.next 6 (by omega) (v 6) rfl (fun j hj => by simp [dep14] at hj; rcases hj with rfl | rfl <;> assumption)⟩
        ·have l5 : LL l' 5 := LL_of (by simp [Region.binds, Array.getD_eq_getD_getElem?] at hi3; simp [hi3])
         have l6 : LL l' 6 := LL_of (by simp [Region.binds, Array.getD_eq_getD_getElem?] at hi3; simp [hi3])
         clear hi3
         have hw := h.at' hjl
         subst hw
         have l4 : LL l' 4 := h.dep 5 (by omega) l5 4 (by simp [dep14])
         have l0 : LL l' 0 := h.dep 6 (by omega) l6 0 (by simp [dep14])
         have l1 : LL l' 1 := h.dep 6 (by omega) l6 1 (by simp [dep14])
         have l2 : LL l' 2 := h.dep 4 (by omega) l4 2 (by simp [dep14])
         have l3 : LL l' 3 := h.dep 4 (by omega) l4 3 (by simp [dep14])
         have w5 := (h.val 5 (by omega) l5).trans v5
         have w6 := (h.val 6 (by omega) l6).trans v6
         refine wpOpIn_step rfl (fun K hK => ?_)
         go_simp
         exact hK _ _ ⟨_, by simp [w5, w6], h.put (fun i hi => by rcases (by omega : i = 0 ∨ i = 1 ∨ i = 2 ∨ i = 3 ∨ i = 4 ∨ i = 5 ∨ i = 6) with rfl | rfl | rfl | rfl | rfl | rfl | rfl <;> assumption)⟩
       case hend =>
        rintro l' a' w' ⟨xo, rfl, h⟩ hall
        have hw := h.end' (hall 7 (by simp))
        subst hw
        clear h hall b9 b10 b0 bd bf
        have hkz : Below gd wr (W5.drew.setCell ⟨gd, k, none⟩ (.int .i64 (H0 : Int))) := (((za HKk).trans ((za HK5).mono (by omega))).drew).setCell (p := ⟨gd, k, none⟩) (Nat.le_refl _) _
        have HKZ := hide hkz
        have hX9z := (zL (za HX9) (za HK5)).other (B' := gd) (by omega) (.int .i64 (H0 : Int))
        have HX11z : Hid (AtC3 (W5.drew.setCell ⟨gd, k, none⟩ (.int .i64 (H0 : Int))) (wk.heap.size + 1) (.int .i64 nd.1) (.string (B nd.2.1)) (.slice ka nd.2.2.length kc) 56) := hide (by have h := za HX11; unfold AtC3 at h ⊢; rw [Below.heap_setCell _ _ _ _ (show wk.heap.size + 1 ≠ gd by omega)]; exact h)
        have HX10z : Hid (Boxed (W5.drew.setCell ⟨gd, k, none⟩ (.int .i64 (H0 : Int))) wk.heap.size 3 (.int .i64 ↑k)) := hide (by have h := za HX10; unfold Boxed at h ⊢; rw [Below.heap_setCell _ _ _ _ (show wk.heap.size ≠ gd by omega)]; exact h)
        have HX9z : Hid (Boxed (W5.drew.setCell ⟨gd, k, none⟩ (.int .i64 (H0 : Int))) (gd + 1) 24 (.slice (some ⟨gd, 0, none⟩) ns.length ns.length)) := hide (by have h := zL (za HX9) (za HK5); unfold Boxed at h ⊢; rw [Below.heap_setCell _ _ _ _ (show gd + 1 ≠ gd by omega)]; exact h)
        have HRz : Hid (AtR (W5.drew.setCell ⟨gd, k, none⟩ (.int .i64 (H0 : Int))) gd ns.length (fun j => if j = k then (H0 : Int) else if j < k then (hashD ns (d + 1) (j : Int) : Int) else 0)) := hide (AtR.set (w := W5.drew) (by have h := za HRK5; exact h))
        have hMz : Marks G0 (W5.drew.setCell ⟨gd, k, none⟩ (.int .i64 (H0 : Int))) Ds := ((za HMk).below (za HK5)).kept (w := W5) ((Kept.of_below (Below.refl _ _).drew).trans (Kept.set (S := fun b => b = gd) (a := ⟨gd, k, none⟩) rfl _)) (fun D' hD' e => by have e : D' = gd := e; subst e; have := ((za HMk).at' _ hD').2; obtain ⟨cs, h1, _⟩ := za HRk; rw [h1] at this; cases this)
        have HMz := hide hMz
        obtain ⟨Z, hZ⟩ : ∃ Z, W5.drew.setCell ⟨gd, k, none⟩ (.int .i64 (H0 : Int)) = Z := ⟨_, rfl⟩
        have hzs : Z.heap.size = wk.heap.size + 2 := by rw [← hZ]; simp [World.setCell]; omega
        rw [hZ] at HKZ HX11z HX10z HX9z HRz HMz ⊢
        clear hkz hX9z hMz hZ HX9 HX10 HX11 HRK5 HK5 HRk HMk HND5
        have c0 := (za HX11z).n0
        have c1 := (za HX11z).n1
        have c2 := (za HX11z).n2
        gi_wp2_with fail
        refine ⟨trivial, (callsIn_wide.2 (Vw _ _ _ _)).mono ?_⟩
        rintro e w1 ⟨rfl, rfl⟩
        clear c0 c1 c2
        gi_wp2_with fail
        obtain ⟨XX, hXX⟩ : ∃ X, Obj.cells #[.int .i64 nd.1, .string (B nd.2.1), .slice ka nd.2.2.length kc] 56 = X := ⟨_, rfl⟩
        have hbox : (Z.alloc XX).cell? ⟨wk.heap.size + 2, 2, none⟩ = some (.slice ka nd.2.2.length kc) := by rw [← hXX, ← hzs]; exact (AtC3.new Z (.int .i64 nd.1) (.string (B nd.2.1)) (.slice ka nd.2.2.length kc) 56).n2
        have hKW : Below Z.heap.size Z (Z.alloc XX) := zf (Below.refl _ _) XX
        rw [hXX]
        obtain ⟨W7, hW7⟩ : ∃ W7, Z.alloc XX = W7 := ⟨_, rfl⟩
        have hs7 : W7.heap.size = wk.heap.size + 3 := by rw [← hW7, World.size_alloc]; omega
        rw [hW7] at hbox hKW ⊢
        clear hXX hW7
        have HKW := hide hKW
        have hRz7 := (za HRz).below hKW
        obtain ⟨S, hSd⟩ : ∃ S : Nat → Prop, ∀ b, S b ↔ (b = gd ∨ W7.heap.size ≤ b) := ⟨_, fun _ => Iff.rfl⟩
        have hSold : ∀ b, b < gd → ¬ S b := fun b hb hs => by have := (hSd b).1 hs; omega
        have hbw7 : Below w.heap.size w W7 := ((za HBL).trans ((za HKZ).mono (by have := (za HBL).size; omega))).trans (hKW.mono (by have := (za HBL).size; omega))
        have HIS : Hid (IntsS S W7 (.slice ka nd.2.2.length kc) nd.2.2) := hide (((za HKI).outS (fun b hb => hSold b (by have := za HG0; omega))).kept (Kept.of_below hbw7))
        have hkids := kz (List.all_eq_true.1 hn nd (List.mem_of_getElem? (za HND)))
        have hnsm := hs nd (List.mem_of_getElem? (za HND))
        refine wpIn_rangeFunc_ownG rfl (by decide) (gf := 117) (lb := #[.pointer (some ⟨wk.heap.size + 2, 0, none⟩)]) rfl trivial (enters_of Tryz.func117 (by kernel_rfl) rfl)
         (J7 Fence.wide 2 trivial rfl (by decide) (wk.heap.size + 2) S (.slice ka nd.2.2.length kc) nd.2.2 (fun z => 0 ≤ z ∧ z < ns.length) hkids (by omega) W7 (by omega) hbox (za HIS))
         (fun h k => h.trans k) (fun W l o o' hl _ _ _ => Kept.put ((hSd l).2 (.inr hl))) (Below.refl _ _) (fun _ => rfl)
         (fun pre W => AtR W gd ns.length (fun j => if j = k then (((pre.map Subtype.val).foldl (fun h y => hK h (hashD ns d y)) H0 : Nat) : Int) else if j < k then (hashD ns (d + 1) (j : Int) : Int) else 0) ∧ Kept S W7 W)
         (fun _ _ _ => False)
         (OwnFrom.and (Own.from (AtR.own gd ns.length (fun (pre : List {z : Int // 0 ≤ z ∧ z < ns.length}) => fun j => if j = k then (((pre.map Subtype.val).foldl (fun h y => hK h (hashD ns d y)) H0 : Nat) : Int) else if j < k then (hashD ns (d + 1) (j : Int) : Int) else 0)) _) (kO (Nat.le_refl _)))
         (fun c => ownFrom_pure _ _)
         ⟨hRz7, Kept.refl _ _⟩
         (fun y => ⟨#[.slice (some ⟨b, off, none⟩) ns.length nc, .int .i64 ↑D, undef, undef, .slice none 0 0, .slice (some ⟨G0, 0, none⟩) ns.length ns.length, u6, u7, .pointer (some ⟨G8, 0, none⟩), .pointer (some ⟨gd + 1, 0, none⟩), .pointer (some ⟨wk.heap.size, 0, none⟩), .pointer (some ⟨wk.heap.size + 1, 0, none⟩), .int .i64 y.1, .slice (some ⟨b, off, none⟩) ns.length nc, .int .i64 ↑ns.length, .slice (some ⟨G0, 0, none⟩) ns.length ns.length, .slice (some ⟨b, off, none⟩) ns.length nc, .int .i64 ↑ns.length, .int .i64 ↑ns.length, .bool false, u20, u21, u22, u23, u24, u25, u26, u27, u28, .slice (some ⟨G0, 0, none⟩) ns.length ns.length, .int .i64 ↑D, .int .i64 ↑d, .bool true, .slice (some ⟨b, off, none⟩) ns.length nc, .int .i64 ↑ns.length, .slice (some ⟨gd, 0, none⟩) ns.length ns.length, .slice (some ⟨b, off, none⟩) ns.length nc, .int .i64 ↑ns.length, .int .i64 ↑k, .bool true, .int .i64 ↑k, .pointer (some ⟨b, off + k * 3, none⟩), .agg #[.int .i64 nd.1, .string (B nd.2.1), .slice ka nd.2.2.length kc], xo 0, xo 1, xo 2, xo 3, xo 4, xo 5, xo 6, .agg #[.int .i64 nd.1, .string (B nd.2.1), .slice ka nd.2.2.length kc], .func (Fn.func (117 : Nat)) #[] #[.pointer (some ⟨wk.heap.size + 2, 0, none⟩)], .int .i64 y.1, u53, u54, u55, u56, u57, u58, u59, u60, u61, u62, u63, u64, u65, u66, u67, u68, u69, undef], []⟩) ?assign ?body ?done ?stop
        case assign =>
         intro l y W K hK'
         gi_wp2
         exact hK'
        case stop =>
         rintro D c pre W _ _ h _
         exact h.elim
        case body =>
         rintro l pre ⟨y, y0, y1⟩ W ⟨hRw, hkw⟩ hpre
         obtain ⟨yn, rfl⟩ : ∃ yn : Nat, y = yn := ⟨y.toNat, by omega⟩
         have hyl : yn < ns.length := by omega
         obtain ⟨H1, hH1⟩ : ∃ H1, (pre.map Subtype.val).foldl (fun h y => hK h (hashD ns d y)) H0 = H1 := ⟨_, rfl⟩
         obtain ⟨M, hM⟩ : ∃ M, hashD ns d (yn : Int) = M := ⟨_, rfl⟩
         have hM9 : M ≤ 1048639 := by rw [← hM]; exact kh hn (fun nd h => (hs nd h).2) d ⟨by omega, by omega⟩
         have hH09 : H0 ≤ 1048639 := by rw [← za HH0]; exact kh hn (fun nd h => (hs nd h).2) 0 ⟨by omega, by omega⟩
         have hH19 : H1 ≤ 1048639 := by rw [← hH1]; exact ZO _ hH09 (by decide)
         rw [hH1] at hRw
         obtain ⟨H2, hH2⟩ : ∃ H2, hK H1 M = H2 := ⟨_, rfl⟩
         have hstep : ((pre ++ [(⟨(yn : Int), y0, y1⟩ : {z : Int // 0 ≤ z ∧ z < ns.length})]).map Subtype.val).foldl (fun h y => hK h (hashD ns d y)) H0 = H2 := by rw [List.map_append, List.foldl_append, hH1]; show hK H1 (hashD ns d (yn : Int)) = H2; rw [hM, hH2]
         have HST := hide hstep
         have hww : Below w.heap.size w W := hbw7.trans (hkw.below hbw7.size (fun b hb => by have := (hSd b).1 hb; have := hbw7.size; have := za HG0; omega))
         have b9 : W.drew.cell? ⟨gd + 1, 0, none⟩ = some (.slice (some ⟨gd, 0, none⟩) ns.length ns.length) := (ye (zL (za HX9z) hKW) hkw (fun e => by have := (hSd _).1 e; omega)).cell
         have b10 : W.drew.cell? ⟨wk.heap.size, 0, none⟩ = some (.int .i64 ↑k) := (ye (zL (za HX10z) hKW) hkw (fun e => by have := (hSd _).1 e; omega)).cell
         have b8 : W.drew.cell? ⟨G8, 0, none⟩ = some (.slice (some ⟨gn, 0, none⟩) ns.length ns.length) := (ye (zL (za HX8) (by rw [hgd]; exact (za HKZ).trans (hKW.mono (by omega)))) hkw (fun e => by have := (hSd _).1 e; omega)).cell
         have bn : W.drew.cell? ⟨gn, yn, none⟩ = some (.int .i64 (M : Int)) := by have h := (((za HRn).below (by rw [hgd]; exact (za HKZ).trans (hKW.mono (by omega)))).kept hkw (fun e => by have := (hSd _).1 e; omega)).cell hyl; rw [hM] at h; exact h
         have bd : W.drew.cell? ⟨gd, k, none⟩ = some (.int .i64 (H1 : Int)) := by have h := hRw.cell hkl; rw [if_pos rfl] at h; exact h
         have bf : W.drew.frozen? ⟨gd, k, none⟩ = false := hRw.frozen k
         obtain ⟨A9, hA9⟩ : ∃ A9 : Nat, 257 * H1 = A9 := ⟨_, rfl⟩
         obtain ⟨S9, hS9⟩ : ∃ S9 : Nat, A9 + M = S9 := ⟨_, rfl⟩
         have w1 : IntKind.i64.wrap (257 * (H1 : Int)) = (A9 : Int) := by rw [wi64 _ (by omega) (by omega)]; omega
         have w2 : IntKind.i64.wrap ((A9 : Int) + (M : Int)) = (S9 : Int) := by rw [wi64 _ (by omega) (by omega)]; omega
         have w3 : (S9 : Int).tmod 65521 = (H2 : Int) := by have h := XV H1 M; rw [hH2] at h; rw [← h, ← hS9, ← hA9]; rfl
         have HRW := hide hRw
         have HKWW := hide hkw
         have HWW := hide hww
         clear hstep hRw hkw hww hH1 hM hM9 hH09 hH19 hH2 hA9 hS9 hpre
         gi_wp2_with fail
         obtain ⟨v, hv⟩ : ∃ v : Nat → Value, v = fun j => match j with
          | 0 => .slice (some ⟨gd, 0, none⟩) ns.length ns.length
          | 1 => .int .i64 ↑k
          | 2 => .slice (some ⟨gd, 0, none⟩) ns.length ns.length
          | 3 => .int .i64 ↑k
          | 4 => .pointer (some ⟨gd, k, none⟩)
          | 5 => .int .i64 (H1 : Int)
          | 6 => .int .i64 (A9 : Int)
          | 7 => .slice (some ⟨gn, 0, none⟩) ns.length ns.length
          | 8 => .int .i64 (yn : Int)
          | 9 => .pointer (some ⟨gn, yn, none⟩)
          | 10 => .int .i64 (M : Int)
          | 11 => .int .i64 (S9 : Int)
          | 12 => .int .i64 (H2 : Int)
          | 13 => .pointer (some ⟨gd, k, none⟩)
          | _ => undef := ⟨_, rfl⟩
         have v0 : v 0 = .slice (some ⟨gd, 0, none⟩) ns.length ns.length := by subst hv; rfl
         have v1 : v 1 = .int .i64 ↑k := by subst hv; rfl
         have v2 : v 2 = .slice (some ⟨gd, 0, none⟩) ns.length ns.length := by subst hv; rfl
         have v3 : v 3 = .int .i64 ↑k := by subst hv; rfl
         have v4 : v 4 = .pointer (some ⟨gd, k, none⟩) := by subst hv; rfl
         have v5 : v 5 = .int .i64 (H1 : Int) := by subst hv; rfl
         have v6 : v 6 = .int .i64 (A9 : Int) := by subst hv; rfl
         have v7 : v 7 = .slice (some ⟨gn, 0, none⟩) ns.length ns.length := by subst hv; rfl
         have v8 : v 8 = .int .i64 (yn : Int) := by subst hv; rfl
         have v9 : v 9 = .pointer (some ⟨gn, yn, none⟩) := by subst hv; rfl
         have v10 : v 10 = .int .i64 (M : Int) := by subst hv; rfl
         have v11 : v 11 = .int .i64 (S9 : Int) := by subst hv; rfl
         have v12 : v 12 = .int .i64 (H2 : Int) := by subst hv; rfl
         have v13 : v 13 = .pointer (some ⟨gd, k, none⟩) := by subst hv; rfl
         clear hv
         refine wpIn_region_any (by kernel_rfl) ?_
         change wpAnyIn _ _ _ _ _ _ _ _ _ (World.drew _)
         refine yD (fun l' a' w' => ∃ x : Nat → Value, a' = ⟨#[.slice (some ⟨b, off, none⟩) ns.length nc, .int .i64 ↑D, undef, undef, .slice none 0 0, .slice (some ⟨G0, 0, none⟩) ns.length ns.length, u6, u7, .pointer (some ⟨G8, 0, none⟩), .pointer (some ⟨gd + 1, 0, none⟩), .pointer (some ⟨wk.heap.size, 0, none⟩), .pointer (some ⟨wk.heap.size + 1, 0, none⟩), .int .i64 (yn : Int), .slice (some ⟨b, off, none⟩) ns.length nc, .int .i64 ↑ns.length, .slice (some ⟨G0, 0, none⟩) ns.length ns.length, .slice (some ⟨b, off, none⟩) ns.length nc, .int .i64 ↑ns.length, .int .i64 ↑ns.length, .bool false, u20, u21, u22, u23, u24, u25, u26, u27, u28, .slice (some ⟨G0, 0, none⟩) ns.length ns.length, .int .i64 ↑D, .int .i64 ↑d, .bool true, .slice (some ⟨b, off, none⟩) ns.length nc, .int .i64 ↑ns.length, .slice (some ⟨gd, 0, none⟩) ns.length ns.length, .slice (some ⟨b, off, none⟩) ns.length nc, .int .i64 ↑ns.length, .int .i64 ↑k, .bool true, .int .i64 ↑k, .pointer (some ⟨b, off + k * 3, none⟩), .agg #[.int .i64 nd.1, .string (B nd.2.1), .slice ka nd.2.2.length kc], xo 0, xo 1, xo 2, xo 3, xo 4, xo 5, xo 6, .agg #[.int .i64 nd.1, .string (B nd.2.1), .slice ka nd.2.2.length kc], .func (Fn.func (117 : Nat)) #[] #[.pointer (some ⟨wk.heap.size + 2, 0, none⟩)], .int .i64 (yn : Int), x 0, x 1, x 2, x 3, x 4, x 5, x 6, x 7, x 8, x 9, x 10, x 11, x 12, x 13, u67, u68, u69, undef], []⟩ ∧ OneS 14 W.drew (W.drew.setCell ⟨gd, k, none⟩ (.int .i64 (H2 : Int))) dep17 v l' x w') ?hsz ?hend ?hstep ?hgo _ _ _ _ ?h0 ?hc
         case hsz =>
          rintro l' a' w' ⟨x, _, h⟩
          exact h.sz
         case h0 => exact ⟨fun j => [u53, u54, u55, u56, u57, u58, u59, u60, u61, u62, u63, u64, u65, u66].getD j undef, rfl, OneS.start rfl⟩
         case hc => exact Nat.le_of_eq rfl
         case hgo =>
          rintro l' a' w' ⟨x, rfl, h⟩ hr j hj
          have k0 : l'[0]? = some true := ze hr 0 (by simp) (by rw [h.sz]; rfl) (by simp [Region.binds, Array.getD_eq_getD_getElem?])
          have k1 : l'[1]? = some true := ze hr 1 (by simp) (by rw [h.sz]; rfl) (by simp [Region.binds, Array.getD_eq_getD_getElem?, k0])
          have k2 : l'[2]? = some true := ze hr 2 (by simp) (by rw [h.sz]; rfl) (by simp [Region.binds, Array.getD_eq_getD_getElem?, k0, k1])
          have k3 : l'[3]? = some true := ze hr 3 (by simp) (by rw [h.sz]; rfl) (by simp [Region.binds, Array.getD_eq_getD_getElem?, k0, k1, k2])
          have k4 : l'[4]? = some true := ze hr 4 (by simp) (by rw [h.sz]; rfl) (by simp [Region.binds, Array.getD_eq_getD_getElem?, k0, k1, k2, k3])
          have k5 : l'[5]? = some true := ze hr 5 (by simp) (by rw [h.sz]; rfl) (by simp [Region.binds, Array.getD_eq_getD_getElem?, k0, k1, k2, k3, k4])
          have k6 : l'[6]? = some true := ze hr 6 (by simp) (by rw [h.sz]; rfl) (by simp [Region.binds, Array.getD_eq_getD_getElem?, k0, k1, k2, k3, k4, k5])
          have k7 : l'[7]? = some true := ze hr 7 (by simp) (by rw [h.sz]; rfl) (by simp [Region.binds, Array.getD_eq_getD_getElem?, k0, k1, k2, k3, k4, k5, k6])
          have k8 : l'[8]? = some true := ze hr 8 (by simp) (by rw [h.sz]; rfl) (by simp [Region.binds, Array.getD_eq_getD_getElem?, k0, k1, k2, k3, k4, k5, k6, k7])
          have k9 : l'[9]? = some true := ze hr 9 (by simp) (by rw [h.sz]; rfl) (by simp [Region.binds, Array.getD_eq_getD_getElem?, k0, k1, k2, k3, k4, k5, k6, k7, k8])
          have k10 : l'[10]? = some true := ze hr 10 (by simp) (by rw [h.sz]; rfl) (by simp [Region.binds, Array.getD_eq_getD_getElem?, k0, k1, k2, k3, k4, k5, k6, k7, k8, k9])
          have k11 : l'[11]? = some true := ze hr 11 (by simp) (by rw [h.sz]; rfl) (by simp [Region.binds, Array.getD_eq_getD_getElem?, k0, k1, k2, k3, k4, k5, k6, k7, k8, k9, k10])
          have k12 : l'[12]? = some true := ze hr 12 (by simp) (by rw [h.sz]; rfl) (by simp [Region.binds, Array.getD_eq_getD_getElem?, k0, k1, k2, k3, k4, k5, k6, k7, k8, k9, k10, k11])
          have k13 : l'[13]? = some true := ze hr 13 (by simp) (by rw [h.sz]; rfl) (by simp [Region.binds, Array.getD_eq_getD_getElem?, k0, k1, k2, k3, k4, k5, k6, k7, k8, k9, k10, k11, k12])
          have k14 : l'[14]? = some true := ze hr 14 (by simp) (by rw [h.sz]; rfl) (by simp [Region.binds, Array.getD_eq_getD_getElem?, k0, k1, k2, k3, k4, k5, k6, k7, k8, k9, k10, k11, k12, k13])
          have hj : j < 15 := by simpa using hj
          rcases (by omega : j = 0 ∨ j = 1 ∨ j = 2 ∨ j = 3 ∨ j = 4 ∨ j = 5 ∨ j = 6 ∨ j = 7 ∨ j = 8 ∨ j = 9 ∨ j = 10 ∨ j = 11 ∨ j = 12 ∨ j = 13 ∨ j = 14) with rfl | rfl | rfl | rfl | rfl | rfl | rfl | rfl | rfl | rfl | rfl | rfl | rfl | rfl | rfl
          all_goals assumption
         case hstep =>
          rintro l' a' w' j ⟨x, rfl, h⟩ hi
          have hi2 := hi
          unfold Region.ready at hi2
          rw [List.mem_filter] at hi2
          obtain ⟨hjj, hi3⟩ := hi2
          have hjj : j < 15 := by simpa using hjj
          have hjl : ¬ LL l' j := fun e => by
           unfold LL at e
           simp [Array.getD_eq_getD_getElem?, e] at hi3
          clear hi
          rcases (by omega : j = 0 ∨ j = 1 ∨ j = 2 ∨ j = 3 ∨ j = 4 ∨ j = 5 ∨ j = 6 ∨ j = 7 ∨ j = 8 ∨ j = 9 ∨ j = 10 ∨ j = 11 ∨ j = 12 ∨ j = 13 ∨ j = 14) with rfl | rfl | rfl | rfl | rfl | rfl | rfl | rfl | rfl | rfl | rfl | rfl | rfl | rfl | rfl
          ·clear hi3
           have hw := h.now (by omega) hjl
           subst hw
           refine wpOpIn_step rfl (fun K hK => ?_)
           go_simp
           exact hK _ _ ⟨_, by simp [v0], h.next 0 (by omega) (v 0) rfl (fun j hj => by simp [dep17] at hj)⟩
          ·clear hi3
           have hw := h.now (by omega) hjl
           subst hw
           refine wpOpIn_step rfl (fun K hK => ?_)
           go_simp
           exact hK _ _ ⟨_, by simp [v1], h.next 1 (by omega) (v 1) rfl (fun j hj => by simp [dep17] at hj)⟩
          ·clear hi3
           have hw := h.now (by omega) hjl
           subst hw
           refine wpOpIn_step rfl (fun K hK => ?_)
           go_simp
           exact hK _ _ ⟨_, by simp [v2], h.next 2 (by omega) (v 2) rfl (fun j hj => by simp [dep17] at hj)⟩
          ·clear hi3
           have hw := h.now (by omega) hjl
           subst hw
           refine wpOpIn_step rfl (fun K hK => ?_)
           go_simp
           exact hK _ _ ⟨_, by simp [v3], h.next 3 (by omega) (v 3) rfl (fun j hj => by simp [dep17] at hj)⟩
          ·have l2 : LL l' 2 := LL_of (by simp [Region.binds, Array.getD_eq_getD_getElem?] at hi3; simp [hi3])
           have l3 : LL l' 3 := LL_of (by simp [Region.binds, Array.getD_eq_getD_getElem?] at hi3; simp [hi3])
           clear hi3
           have hw := h.now (by omega) hjl
           subst hw
           have w2 := (h.val 2 (by omega) l2).trans v2
           have w3 := (h.val 3 (by omega) l3).trans v3
           refine wpOpIn_step rfl (fun K hK => ?_)
           go_simp
           exact hK _ _ ⟨_, by simp [w2, w3, v4], h.next 4 (by omega) (v 4) rfl (fun j hj => by simp [dep17] at hj; rcases hj with rfl | rfl <;> assumption)⟩
          ·have l4 : LL l' 4 := LL_of (by simp [Region.binds, Array.getD_eq_getD_getElem?] at hi3; simp [hi3])
           clear hi3
           have hw := h.now (by omega) hjl
           subst hw
           have w4 := (h.val 4 (by omega) l4).trans v4
           refine wpOpIn_step rfl (fun K hK => ?_)
           go_simp
           exact hK _ _ ⟨_, by simp [w4, v5], h.next 5 (by omega) (v 5) rfl (fun j hj => by simp [dep17] at hj; subst hj; exact l4)⟩
          ·have l5 : LL l' 5 := LL_of (by simp [Region.binds, Array.getD_eq_getD_getElem?] at hi3; simp [hi3])
           clear hi3
           have hw := h.now (by omega) hjl
           subst hw
           have w5 := (h.val 5 (by omega) l5).trans v5
           refine wpOpIn_step rfl (fun K hK => ?_)
           go_simp
           exact hK _ _ ⟨_, by simp [w5, v6], h.next 6 (by omega) (v 6) rfl (fun j hj => by simp [dep17] at hj; subst hj; exact l5)⟩
          ·clear hi3
           have hw := h.now (by omega) hjl
           subst hw
           refine wpOpIn_step rfl (fun K hK => ?_)
           go_simp
           exact hK _ _ ⟨_, by simp [v7], h.next 7 (by omega) (v 7) rfl (fun j hj => by simp [dep17] at hj)⟩
          ·clear hi3
           have hw := h.now (by omega) hjl
           subst hw
           refine wpOpIn_step rfl (fun K hK => ?_)
           go_simp
           exact hK _ _ ⟨_, by simp [v8], h.next 8 (by omega) (v 8) rfl (fun j hj => by simp [dep17] at hj)⟩
          ·have l7 : LL l' 7 := LL_of (by simp [Region.binds, Array.getD_eq_getD_getElem?] at hi3; simp [hi3])
           have l8 : LL l' 8 := LL_of (by simp [Region.binds, Array.getD_eq_getD_getElem?] at hi3; simp [hi3])
           clear hi3
           have hw := h.now (by omega) hjl
           subst hw
           have w7 := (h.val 7 (by omega) l7).trans v7
           have w8 := (h.val 8 (by omega) l8).trans v8
           refine wpOpIn_step rfl (fun K hK => ?_)
           go_simp
           exact hK _ _ ⟨_, by simp [w7, w8, v9], h.next 9 (by omega) (v 9) rfl (fun j hj => by simp [dep17] at hj; rcases hj with rfl | rfl <;> assumption)⟩
          ·have l9 : LL l' 9 := LL_of (by simp [Region.binds, Array.getD_eq_getD_getElem?] at hi3; simp [hi3])
           clear hi3
           have hw := h.now (by omega) hjl
           subst hw
           have w9 := (h.val 9 (by omega) l9).trans v9
           refine wpOpIn_step rfl (fun K hK => ?_)
           go_simp
           exact hK _ _ ⟨_, by simp [w9, v10], h.next 10 (by omega) (v 10) rfl (fun j hj => by simp [dep17] at hj; subst hj; exact l9)⟩
          ·have l6 : LL l' 6 := LL_of (by simp [Region.binds, Array.getD_eq_getD_getElem?] at hi3; simp [hi3])
           have l10 : LL l' 10 := LL_of (by simp [Region.binds, Array.getD_eq_getD_getElem?] at hi3; simp [hi3])
           clear hi3
           have hw := h.now (by omega) hjl
           subst hw
           have w6 := (h.val 6 (by omega) l6).trans v6
           have w10 := (h.val 10 (by omega) l10).trans v10
           refine wpOpIn_step rfl (fun K hK => ?_)
           go_simp
           exact hK _ _ ⟨_, by simp [w6, w10, v11], h.next 11 (by omega) (v 11) rfl (fun j hj => by simp [dep17] at hj; rcases hj with rfl | rfl <;> assumption)⟩
          ·have l11 : LL l' 11 := LL_of (by simp [Region.binds, Array.getD_eq_getD_getElem?] at hi3; simp [hi3])
           clear hi3
           have hw := h.now (by omega) hjl
           subst hw
           have w11 := (h.val 11 (by omega) l11).trans v11
           refine wpOpIn_step rfl (fun K hK => ?_)
           go_simp
           exact hK _ _ ⟨_, by simp [w11, v12], h.next 12 (by omega) (v 12) rfl (fun j hj => by simp [dep17] at hj; subst hj; exact l11)⟩
          ·have l0 : LL l' 0 := LL_of (by simp [Region.binds, Array.getD_eq_getD_getElem?] at hi3; simp [hi3])
           have l1 : LL l' 1 := LL_of (by simp [Region.binds, Array.getD_eq_getD_getElem?] at hi3; simp [hi3])
           clear hi3
           have hw := h.now (by omega) hjl
           subst hw
           have w0 := (h.val 0 (by omega) l0).trans v0
           have w1 := (h.val 1 (by omega) l1).trans v1
           refine wpOpIn_step rfl (fun K hK => ?_)
           go_simp
           exact hK _ _ ⟨_, by simp [w0, w1, v13], h.next 13 (by omega) (v 13) rfl (fun j hj => by simp [dep17] at hj; rcases hj with rfl | rfl <;> assumption)⟩
          ·have l12 : LL l' 12 := LL_of (by simp [Region.binds, Array.getD_eq_getD_getElem?] at hi3; simp [hi3])
           have l13 : LL l' 13 := LL_of (by simp [Region.binds, Array.getD_eq_getD_getElem?] at hi3; simp [hi3])
           clear hi3
           have hw := h.at' hjl
           subst hw
           have l11 : LL l' 11 := h.dep 12 (by omega) l12 11 (by simp [dep17])
           have l0 : LL l' 0 := h.dep 13 (by omega) l13 0 (by simp [dep17])
           have l1 : LL l' 1 := h.dep 13 (by omega) l13 1 (by simp [dep17])
           have l6 : LL l' 6 := h.dep 11 (by omega) l11 6 (by simp [dep17])
           have l10 : LL l' 10 := h.dep 11 (by omega) l11 10 (by simp [dep17])
           have l5 : LL l' 5 := h.dep 6 (by omega) l6 5 (by simp [dep17])
           have l9 : LL l' 9 := h.dep 10 (by omega) l10 9 (by simp [dep17])
           have l4 : LL l' 4 := h.dep 5 (by omega) l5 4 (by simp [dep17])
           have l7 : LL l' 7 := h.dep 9 (by omega) l9 7 (by simp [dep17])
           have l8 : LL l' 8 := h.dep 9 (by omega) l9 8 (by simp [dep17])
           have l2 : LL l' 2 := h.dep 4 (by omega) l4 2 (by simp [dep17])
           have l3 : LL l' 3 := h.dep 4 (by omega) l4 3 (by simp [dep17])
           have w12 := (h.val 12 (by omega) l12).trans v12
           have w13 := (h.val 13 (by omega) l13).trans v13
           refine wpOpIn_step rfl (fun K hK => ?_)
           go_simp
           exact hK _ _ ⟨_, by simp [w12, w13], h.put (fun i hi => by rcases (by omega : i = 0 ∨ i = 1 ∨ i = 2 ∨ i = 3 ∨ i = 4 ∨ i = 5 ∨ i = 6 ∨ i = 7 ∨ i = 8 ∨ i = 9 ∨ i = 10 ∨ i = 11 ∨ i = 12 ∨ i = 13) with rfl | rfl | rfl | rfl | rfl | rfl | rfl | rfl | rfl | rfl | rfl | rfl | rfl | rfl <;> assumption)⟩
         case hend =>
          rintro l2 a2 w2 ⟨x2, rfl, h⟩ hall
          have hw := h.end' (hall 14 (by simp))
          subst hw
          clear h hall b9 b10 b8 bn bd bf w1 w2 w3
          have hkz2 : Kept S W (W.drew.setCell ⟨gd, k, none⟩ (.int .i64 (H2 : Int))) := (Kept.of_below (Below.refl _ _).drew).trans (Kept.set (S := S) (a := ⟨gd, k, none⟩) ((hSd gd).2 (.inl rfl)) _)
          have hko : KeepsOthers W (W.drew.setCell ⟨gd, k, none⟩ (.int .i64 (H2 : Int))) := (qq (Below.refl _ _).drew).trans (KeepsOthers.setCell _ _ _)
          have hR2 : AtR (W.drew.setCell ⟨gd, k, none⟩ (.int .i64 (H2 : Int))) gd ns.length (fun j => if j = k then (H2 : Int) else if j < k then (hashD ns (d + 1) (j : Int) : Int) else 0) := (AtR.set (w := W.drew) (k := k) (x := (H2 : Int)) (by have h := za HRW; exact h)).ext fun j _ => by by_cases e : j = k <;> simp [e]
          have HFIN := hide (And.intro hko (And.intro hkz2 hR2))
          clear hko hkz2 hR2
          gi_wp2_with fail
          obtain ⟨hko, hkz2, hR2⟩ := za HFIN
          exact ⟨hko.from _, hkz2, by rw [za HST]; exact hR2, (za HKWW).trans hkz2⟩
        case done =>
         rintro D' ys W hDD hys ⟨hRw, hkw⟩ hKd
         rw [hys] at hRw
         have hkb : Below gd wr W := ((za HKZ).trans (hKW.mono (by omega))).trans (hkw.below (by omega) (fun b hb => by have := (hSd b).1 hb; omega))
         have hM7 := (za HMz).below hKW
         have hM8 := hM7.kept hkw (fun D'' hD'' e => ((hSd _).1 e).elim (fun e => by subst e; have := (hM7.at' _ hD'').2; obtain ⟨cs, h1, _⟩ := hRz7; rw [h1] at this; cases this) (fun e => by have hl := hM7.lt hD''; omega))
         have HM9 := hide (hM8.cons (D := D') (by omega) hKd (fun hm => by have := hM7.lt hm; omega))
         have HKB := hide hkb
         have HX9w : Hid (Boxed W (gd + 1) 24 (.slice (some ⟨gd, 0, none⟩) ns.length ns.length)) := hide (ye (zL (za HX9z) hKW) hkw (fun e => by have := (hSd _).1 e; omega))
         have HRW : Hid (AtR W gd ns.length (fun j => if j < k + 1 then (hashD ns (d + 1) (j : Int) : Int) else 0)) := hide (hRw.ext fun j hj => by
          by_cases e : j = k
          ·subst e; rw [if_pos rfl, if_pos (by omega), Qx (x := (j : Int)) (za HND) d, ← za HH0, kW (x := (j : Int)) (za HND)]
          ·rw [if_neg e]; by_cases e2 : j < k
           ·rw [if_pos e2, if_pos (by omega)]
           ·rw [if_neg e2, if_neg (by omega)])
         clear hRw hkb hM7 hM8 hkw hKd hys
         gi_wp2_with fail
         refine ⟨⟨D' :: Ds, k + 1, _, _, _, _, _, _, _, _, _, _, _, _, _, _, _, _, _, _, _, _, _, _, _, _, _, _, _, _, _, _, _, _, rfl, by omega, HKB, HX9w, HRW, HM9⟩, by simp [intOf]; omega⟩
      ·obtain rfl : k = ns.length := by omega
       have h8 := zL (za HX8) (by rw [hgd]; exact za HKk)
       have c9 := (za HX9).cell
       have c8 := h8.cell
       have f8 := h8.frozen
       have hd0 : gd < wk.heap.size := (za HRk).lt
       have HBf := hide (((za HBL).trans ((za HKk).mono (by have := (za HBL).size; omega))).setCell (p := ⟨G8, 0, none⟩) (by show w.heap.size ≤ G8; have := za HG0; omega) (.slice (some ⟨gd, 0, none⟩) ns.length ns.length))
       have HR0f : Hid (AtR (wk.setCell ⟨G8, 0, none⟩ (.slice (some ⟨gd, 0, none⟩) ns.length ns.length)) G0 ns.length (fun j => (hashD ns 0 (j : Int) : Int))) := hide (((za HR0).below (by rw [hgd]; exact za HKk)).far (by omega))
       have HX8f := hide (h8.set (.slice (some ⟨gd, 0, none⟩) ns.length ns.length))
       have HRf : Hid (AtR (wk.setCell ⟨G8, 0, none⟩ (.slice (some ⟨gd, 0, none⟩) ns.length ns.length)) gd ns.length (fun j => (hashD ns (d + 1) (j : Int) : Int))) := hide (((za HRk).far (by have := hGw; omega)).ext fun j hj => by simp [hj])
       have HMf : Hid (Marks G0 (wk.setCell ⟨G8, 0, none⟩ (.slice (some ⟨gd, 0, none⟩) ns.length ns.length)) Ds) := hide ((za HMk).kept (Kept.set (S := fun b => b = G8) (a := ⟨G8, 0, none⟩) rfl _) (fun D'' hD'' e => by have e : D'' = G8 := e; subst e; have := ((za HMk).at' _ hD'').2; rw [show wk.heap[D'']? = _ from h8] at this; cases this))
       clear h8
       gi_wp2_with fail
       refine ⟨⟨Ds, d + 1, gd, _, _, _, _, _, _, _, _, _, _, _, _, _, _, _, _, _, _, _, _, _, _, _, _, _, _, _, _, _, _, _, _, _, _, _, _, _, _, _, _, _, _, rfl, by omega, za HBf, HR0f, HX8f, HRf, HMf⟩, by simp [intOf]; omega⟩
    ·obtain rfl : d = D := by omega
     have c8 := (za HX8).cell
     gi_wp2_with fail
     refine qV G0 Ds wr (za HMk) (fun w' hst => ?_)
     refine ⟨.slice (some ⟨gn, 0, none⟩) ns.length ns.length, by simp [results, Tryz.f40, go_sem], ⟨gn, rfl, (za HRn).still hst⟩, hbl.trans (by rw [za HG0]; exact hst.below)⟩
end Go.Proofs.YtpbnmhnbkfnaeaaGreatDoor
namespace Go.Proofs.YtpbnmhnbkfnaeaaGreatDoor
open Go.RowKit Nt
theorem Qi (a b : Int) (w : World) :
  Calls Tryz.prog 101 #[.int .i64 a, .int .i64 b] w fun e w' => e = .returned (.int .i64 (cmpI a b)) ∧ w' = w := by
 by_cases h1 : a < b
 ·have HR : Hid (cmpI a b = -1) := hide (by unfold cmpI; rw [if_pos h1])
  go_enter Tryz.func101, Tryz.ntmps101
  go_wp2
  go_ret
  exact ⟨zF (za HR).symm, rfl⟩
 ·by_cases h2 : b < a
  ·have HR : Hid (cmpI a b = 1) := hide (by unfold cmpI; rw [if_neg h1, if_pos h2])
   go_enter Tryz.func101, Tryz.ntmps101
   go_wp2
   go_ret
   exact ⟨zF (za HR).symm, rfl⟩
  ·have HR : Hid (cmpI a b = 0) := hide (by unfold cmpI; rw [if_neg h1, if_neg h2])
   go_enter Tryz.func101, Tryz.ntmps101
   go_wp2
   go_ret
   exact ⟨zF (za HR).symm, rfl⟩
theorem VZ (a b : List UInt8) (w : World) :
  Calls Tryz.prog 103 #[.string (B a), .string (B b)] w fun e w' => e = .returned (.int .i64 (Lib.compareBytes a b)) ∧ w' = w := by
 obtain ⟨h1, h2, h3, h4⟩ := qw a b
 obtain ⟨c, hc⟩ : ∃ c, Lib.compareBytes a b = c := ⟨_, rfl⟩
 have h5 : ((B a).toList == (B b).toList) = decide (c = 0) := by
  rw [B_tl, B_tl, Bool.eq_iff_iff]
  simp only [beq_iff_eq, decide_eq_true_eq]
  rw [← hc]; exact h3.symm
 rw [hc] at h1 h4 ⊢
 rw [← B_tl a, ← B_tl b] at h1
 clear h2 h3 hc
 rcases h4 with rfl | rfl | rfl
 ·have k1 : Op.bytesLess (B a).toList (B b).toList = true := h1
  clear h1 h5
  go_enter Tryz.func103, Tryz.ntmps103
  go_wp2
  go_ret
  exact ⟨rfl, rfl⟩
 ·have k1 : Op.bytesLess (B a).toList (B b).toList = false := h1
  have k2 : ((B a).toList == (B b).toList) = true := h5
  clear h1 h5
  go_enter Tryz.func103, Tryz.ntmps103
  go_wp2
  go_ret
  exact ⟨rfl, rfl⟩
 ·have k1 : Op.bytesLess (B a).toList (B b).toList = false := h1
  have k2 : ((B a).toList == (B b).toList) = false := h5
  clear h1 h5
  go_enter Tryz.func103, Tryz.ntmps103
  go_wp2
  go_ret
  exact ⟨rfl, rfl⟩
theorem Xm (x y : Nat) : sgI ((x : Int) - y) = cmpN x y := by
 unfold sgI cmpN; split <;> split <;> (try split) <;> (try split) <;> omega
theorem QM (n1 n2 : Bool) (x1 y1 x2 y2 : Nat) (hy1 : 0 < y1) (hy2 : 0 < y2) (h1 : n1 = true → x1 ≠ 0) (h2 : n2 = true → x2 ≠ 0) :
  cmpRt (n1, x1, y1) (n2, x2, y2) = if n1 ≠ n2 then (if n1 then -1 else 1) else if n1 then - cmpN (x1 * y2) (x2 * y1) else cmpN (x1 * y2) (x2 * y1) := by
 unfold cmpRt zP
 simp only
 have e : ∀ (a b : Nat), ((a * b : Nat) : Int) = (a : Int) * (b : Int) := fun a b => by simp
 cases n1 <;> cases n2
 ·simp only [sgn, ne_eq, not_true_eq_false, if_false, Bool.false_eq_true]
  rw [← e, ← e, Xm]
 ·simp only [sgn, ne_eq, Bool.false_eq_true, if_false, if_true, not_false_eq_true]
  rw [Int.neg_mul, ← e, ← e]
  have : 0 < x2 * y1 := Nat.mul_pos (by have := h2 rfl; omega) hy1
  unfold sgI
  rw [if_neg (by omega), if_pos (by omega)]
 ·simp only [sgn, ne_eq, Bool.false_eq_true, if_false, if_true, not_false_eq_true, reduceCtorEq]
  rw [Int.neg_mul, ← e, ← e]
  have : 0 < x1 * y2 := Nat.mul_pos (by have := h1 rfl; omega) hy2
  unfold sgI
  rw [if_pos (by omega)]
 ·simp only [sgn, ne_eq, not_true_eq_false, if_false, if_true]
  rw [Int.neg_mul, Int.neg_mul, ← e, ← e, ← Xm, ← Y3]
  congr 1; omega
theorem qF (w : World) (x y z x' y' z' : Value) (T : TypeId) : Below w.heap.size w ((w.alloc (.cells #[x, y, z] T)).alloc (.cells #[x', y', z'] T)) := zf (zf (Below.refl _ _) _) _
theorem za3 (n1 n2 : Bool) (x1 y1 x2 y2 : Nat) (w : World) (sx1 : (dec x1).size ≤ 60) (sy1 : (dec y1).size ≤ 60) (sx2 : (dec x2).size ≤ 60) (sy2 : (dec y2).size ≤ 60) (hy1 : 0 < y1) (hy2 : 0 < y2) (h1 : n1 = true → x1 ≠ 0) (h2 : n2 = true → x2 ≠ 0) :
  Calls Tryz.prog 130 #[.agg #[.bool n1, .string (dec x1), .string (dec y1)], .agg #[.bool n2, .string (dec x2), .string (dec y2)]] w fun e w' => e = .returned (.int .i64 (cmpRt (n1, x1, y1) (n2, x2, y2))) ∧ Below w.heap.size w w' := by
 have HE := hide (QM n1 n2 x1 y1 x2 y2 hy1 hy2 h1 h2)
 obtain ⟨R, hR⟩ : ∃ R, cmpRt (n1, x1, y1) (n2, x2, y2) = R := ⟨_, rfl⟩
 rw [hR] at HE ⊢
 have HB := hide (qF w (.bool n1) (.string (dec x1)) (.string (dec y1)) (.bool n2) (.string (dec x2)) (.string (dec y2)) 79)
 have HA1 := hide ((AtC3.new w (.bool n1) (.string (dec x1)) (.string (dec y1)) 79).below (zf (Below.refl _ _) (.cells #[.bool n2, .string (dec x2), .string (dec y2)] 79)))
 have HA2 := hide (AtC3.new (w.alloc (.cells #[.bool n1, .string (dec x1), .string (dec y1)] 79)) (.bool n2) (.string (dec x2)) (.string (dec y2)) 79)
 rw [World.size_alloc] at HA2
 clear hR h1 h2 hy1 hy2
 by_cases hn : n1 = n2
 ·subst hn
  have hb : (n1 == n1) = true := by simp
  have d1 := kt sx1 sy2
  have d2 := kt sx2 sy1
  have HM1 := hide (fun W => Q4 x1 y2 W (by omega) (by omega))
  have HM2 := hide (fun W => Q4 x2 y1 W (by omega) (by omega))
  have HM3 := hide (fun W => QY (x1 * y2) (x2 * y1) W (by omega) (by omega))
  obtain ⟨c, hc⟩ : ∃ c, cmpN (x1 * y2) (x2 * y1) = c := ⟨_, rfl⟩
  have hcr : -1 ≤ c ∧ c ≤ 1 := by rw [← hc]; unfold cmpN; split <;> (try split) <;> omega
  rw [hc] at HE HM3
  rw [if_neg (by simp)] at HE
  clear sx1 sx2 sy1 sy2 d1 d2 hc
  go_enter Tryz.func130, Tryz.ntmps130
  go_wp2_with fail
  obtain ⟨W, hW⟩ : ∃ W, (w.alloc (.cells #[.bool n1, .string (dec x1), .string (dec y1)] 79)).alloc (.cells #[.bool n1, .string (dec x2), .string (dec y2)] 79) = W := ⟨_, rfl⟩
  rw [hW] at HB HA1 HA2 ⊢
  clear hW
  have a1 := (za HA1).n1
  have a2 := (za HA1).n2
  have b1 := (za HA2).n1
  have b2 := (za HA2).n2
  go_cut [5] from 13 to 23 (fun s wx => s = .int .i64 c ∧ Below W.heap.size W wx)
  case first =>
   go_region_held3 (fun w' => w'.cell? ⟨w.heap.size, 1, none⟩ = some (.string (dec x1)) ∧ w'.cell? ⟨w.heap.size, 2, none⟩ = some (.string (dec y1)) ∧ w'.cell? ⟨w.heap.size + 1, 1, none⟩ = some (.string (dec x2)) ∧ w'.cell? ⟨w.heap.size + 1, 2, none⟩ = some (.string (dec y2))) (((try dsimp only); (repeat' apply And.intro) <;> (first | with_reducible assumption | exact a1 | exact a2 | exact b1 | exact b2))) (first | (go_at_call_of 133 (dec x1); refine (za HM1 W.drew).mono ?_; rintro e w1 ⟨rfl, hb1⟩; have HB1 : Hid (Below W.heap.size W w1) := (Below.refl _ _).drew.trans hb1; have HC1 := hide ((za HA1).below (za HB1)); have HC2 := hide ((za HA2).below (za HB1)); have p1 := (za HC1).n1; have p2 := (za HC1).n2; have p3 := (za HC2).n1; have p4 := (za HC2).n2; clear hb1) | (go_at_call_of 133 (dec x2); refine (za HM2 w1).mono ?_; rintro e w2 ⟨rfl, hb2⟩; have HB2 := hide (zj (za HB1) hb2); have q1 := ((za HC1).below hb2).n1; have q2 := ((za HC1).below hb2).n2; have q3 := ((za HC2).below hb2).n1; have q4 := ((za HC2).below hb2).n2; clear hb2) | (go_at_call 152; refine (za HM3 w2).mono ?_; rintro e w3 ⟨rfl, rfl⟩))
   all_goals
    go_wp2_with fail
    go_meet
    exact ⟨rfl, za HB2⟩
  case rest =>
  obtain ⟨rfl, hbc⟩ := hcut
  rename World => w4
  have HB4 := hide (zj (za HB) hbc)
  have p0 := ((za HA1).below hbc).n0
  clear hbc a1 a2 b1 b2
  cases n1 with
  | true =>
   have HQ : Hid (-c = R) := hide (by rw [za HE]; rfl)
   go_wp2_with fail
   go_ret
   exact ⟨zF (za HQ), za HB4⟩
  | false =>
   go_wp2_with fail
   go_ret
   exact ⟨zF (by rw [za HE]; rfl), za HB4⟩
 ·have hb : (n1 == n2) = false := by simpa using hn
  rw [if_pos hn] at HE
  clear hn
  cases n1 with
  | true =>
   go_enter Tryz.func130, Tryz.ntmps130
   go_wp2_with fail
   go_ret
   exact ⟨zF (za HE).symm, za HB⟩
  | false =>
   go_enter Tryz.func130, Tryz.ntmps130
   go_wp2_with fail
   go_ret
   exact ⟨zF (za HE).symm, za HB⟩
def xg (t : T3) : Prop := t.2.1.length ≤ 1000 ∧ t.2.2.length ≤ 1000
theorem YA {a b : T3} (h : (okT a && okT b) = false) : cmpT a b = 0 := by unfold cmpT; rw [h]; rfl
theorem JW {a b : T3} (ha : okT a = true) (hb : okT b = true) : cmpT a b = cmpRt (valT a) (valT b) := by unfold cmpT; rw [ha, hb]; rfl
theorem ok_T {t : T3} (h : okT t = true) : ∃ n x y, t = putT (n, x, y) ∧ valT t = (n, x, y) ∧ (dec x).size ≤ 60 ∧ (dec y).size ≤ 60 ∧ 0 < y ∧ (n = true → x ≠ 0) := by
 have h1 := J5 h
 obtain ⟨n, x, y, hv⟩ : ∃ n x y, valT t = (n, x, y) := ⟨_, _, _, rfl⟩
 rw [hv] at h1
 obtain ⟨p1, p2, p3, p4, p5, p6, _⟩ := qK h
 rw [← h1] at p3 p4 p5 p6
 simp only [putT, qs] at p3 p4 p5 p6
 exact ⟨n, x, y, h1.symm, hv, by rw [zH]; exact p3, by rw [zH]; exact p4, by omega, p6⟩
theorem Jh (a b : T3) (w : World) (ha : xg a) (hb : xg b) :
  Calls Tryz.prog 102 #[numT a, numT b] w fun e w' => e = .returned (.int .i64 (cmpT a b)) ∧ Below w.heap.size w w' := by
 obtain ⟨n1, u1, d1⟩ := a
 obtain ⟨n2, u2, d2⟩ := b
 obtain ⟨ha1, ha2⟩ := ha
 obtain ⟨hb1, hb2⟩ := hb
 simp only at ha1 ha2 hb1 hb2
 have HB := hide (qF w (.bool n1) (.string (B u1)) (.string (B d1)) (.bool n2) (.string (B u2)) (.string (B d2)) 79)
 have HA1 := hide ((AtC3.new w (.bool n1) (.string (B u1)) (.string (B d1)) 79).below (zf (Below.refl _ _) (.cells #[.bool n2, .string (B u2), .string (B d2)] 79)))
 have HA2 := hide (AtC3.new (w.alloc (.cells #[.bool n1, .string (B u1), .string (B d1)] 79)) (.bool n2) (.string (B u2)) (.string (B d2)) 79)
 rw [World.size_alloc] at HA2
 have H1 := hide (fun W => vn n1 u1 d1 W (by omega) (by omega))
 have H2 := hide (fun W => vn n2 u2 d2 W (by omega) (by omega))
 have HR := hide (fun (h : (okM n1 u1 d1 && okM n2 u2 d2) = false) => YA (a := (n1, u1, d1)) (b := (n2, u2, d2)) h)
 have HY := hide (fun (h : okM n1 u1 d1 = true) (h' : okM n2 u2 d2 = true) => JW (a := (n1, u1, d1)) (b := (n2, u2, d2)) h h')
 have HT1 := hide (fun (h : okM n1 u1 d1 = true) => ok_T (t := (n1, u1, d1)) h)
 have HT2 := hide (fun (h : okM n2 u2 d2 = true) => ok_T (t := (n2, u2, d2)) h)
 unfold numB at H1 H2
 show Calls Tryz.prog 102 #[.agg #[.bool n1, .string (B u1), .string (B d1)], .agg #[.bool n2, .string (B u2), .string (B d2)]] w _
 clear ha1 ha2 hb1 hb2
 go_enter Tryz.func102, Tryz.ntmps102
 go_wp2_with fail
 obtain ⟨W, hW⟩ : ∃ W, (w.alloc (.cells #[.bool n1, .string (B u1), .string (B d1)] 79)).alloc (.cells #[.bool n2, .string (B u2), .string (B d2)] 79) = W := ⟨_, rfl⟩
 rw [hW] at HB HA1 HA2 ⊢
 clear hW
 refine (za H1 W).mono ?_
 rintro e w1 ⟨rfl, hb1⟩
 have HB1 := hide (zj (za HB) hb1)
 have HC1 := hide ((za HA1).below hb1)
 have HC2 := hide ((za HA2).below hb1)
 clear hb1 HB HA1 HA2
 cases ho1 : okM n1 u1 d1 with
 | false =>
  have HQ := hide (za HR (by rw [ho1]; rfl))
  clear ho1
  go_wp2_with fail
  go_ret
  exact ⟨zF (za HQ).symm, za HB1⟩
 | true =>
  have q0 := (za HC2).n0
  have q1 := (za HC2).n1
  have q2 := (za HC2).n2
  go_wp2_with fail
  refine (za H2 w1).mono ?_
  rintro e w2 ⟨rfl, hb2⟩
  have HB2 := hide (zj (za HB1) hb2)
  have HD1 := hide ((za HC1).below hb2)
  have HD2 := hide ((za HC2).below hb2)
  clear hb2 HB1 HC1 HC2 q0 q1 q2
  cases ho2 : okM n2 u2 d2 with
  | false =>
   have HQ := hide (za HR (by rw [ho1, ho2]; rfl))
   clear ho1 ho2
   go_wp2_with fail
   go_ret
   exact ⟨zF (za HQ).symm, za HB2⟩
  | true =>
   have HQ := za HY ho1 ho2
   obtain ⟨m1, x1, y1, e1, v1, s1, s2, s3, s4⟩ := za HT1 ho1
   obtain ⟨m2, x2, y2, e2, v2, s5, s6, s7, s8⟩ := za HT2 ho2
   rw [v1, v2] at HQ
   have HQ := hide HQ
   unfold putT at e1 e2
   simp only [Prod.mk.injEq] at e1 e2
   obtain ⟨rfl, rfl, rfl⟩ := e1
   obtain ⟨rfl, rfl, rfl⟩ := e2
   have q0 := (za HD2).n0
   have q1 := (za HD2).n1
   have q2 := (za HD2).n2
   have p0 := (za HD1).n0
   have p1 := (za HD1).n1
   have p2 := (za HD1).n2
   clear ho1 ho2 v1 v2 HY HR HT1 HT2
   go_wp2_with fail
   refine (za3 n1 n2 x1 y1 x2 y2 w2 s1 s2 s5 s6 s3 s7 s4 s8).mono ?_
   rintro e w3 ⟨rfl, hb3⟩
   have HB3 := hide (zj (za HB2) hb3)
   clear hb3
   go_wp2_with fail
   go_ret
   exact ⟨zF (za HQ).symm, za HB3⟩
end Go.Proofs.YtpbnmhnbkfnaeaaGreatDoor
