/- A part of the proof, put together out of smaller texts. -/
import Derived.Test.YtcnnicbaeicboaaDoorM3
import Derived.Lib.OthersKept
import Derived.Deep.RegionWith
import Derived.Lib.Bytealg
set_option linter.all false
set_option maxRecDepth 100000
set_option maxHeartbeats 16000000
namespace Go.Proofs.YtcnnicbaeicboaaDoor
open Go.RowKit Nt
def plain (l : List UInt8) : Bool := isDec l && decide (l.length ≤ 60)
theorem km {l : List UInt8} (h : 60 < l.length) : plain l = false := by
 unfold plain; rw [decide_eq_false (by omega)]; simp
theorem vD {l : List UInt8} (h : isDec l = false) : plain l = false := by unfold plain; rw [h]; simp
theorem yY (l : List UInt8) (pos : Nat) (h : pos < l.length) :
  (48 ≤ (l[pos]).toNat ∧ (l[pos]).toNat ≤ 57 ∧ Utf8.decode (B l) pos = ((l[pos]).toNat, 1)) ∨ (¬ (48 ≤ (l[pos]).toNat ∧ (l[pos]).toNat ≤ 57) ∧ ((Utf8.decode (B l) pos).1 < 48 ∨ 57 < (Utf8.decode (B l) pos).1)) := by
 have h2 : pos < (B l).size := by rw [zi]; exact h
 have hg : ((B l)[pos]'h2) = l[pos]'h := B_get l pos h2
 by_cases ha : (l[pos]).toNat < 128
 ·have := decode_ascii (B l) pos h2 (by rw [hg]; exact ha)
  rw [hg] at this
  by_cases hd : 48 ≤ (l[pos]).toNat ∧ (l[pos]).toNat ≤ 57
  ·exact .inl ⟨hd.1, hd.2, this⟩
  ·refine .inr ⟨hd, ?_⟩
   rw [this]
   show (l[pos]).toNat < 48 ∨ 57 < (l[pos]).toNat
   omega
 ·have := (decode_high (B l) pos h2 (by rw [hg]; omega)).1
  exact .inr ⟨by omega, .inr (by omega)⟩
theorem q5 (l : List UInt8) (w : World) (hs : l.length ≤ 1000000000) :
  Calls Tryd.prog 48 #[.string (B l)] w fun e w' => e = .returned (.bool (plain l)) ∧ Below w.heap.size w w' := by
 have hI : ((B l).size : Int) = (l.length : Int) := by rw [zi]
 by_cases hz : l.length = 0
 ·have : l = [] := List.eq_nil_of_length_eq_zero hz
  subst this
  have hI0 : (((B []).size : Int) == 0) = true := by rw [hI]; rfl
  clear hI hz hs
  go_enter Tryd.func48, Tryd.ntmps48
  go_wp2
  go_ret
  exact ⟨rfl, Below.refl _ _⟩
 ·have h0 : 0 < l.length := by omega
  have h0I : (((B l).size : Int) == 0) = false := by rw [beq_eq_false_iff_ne]; omega
  by_cases h60 : 60 < l.length
  ·have h60I : (60 : Int) < ((B l).size : Int) := by omega
   rw [km h60]
   clear hI hz h60
   go_enter Tryd.func48, Tryd.ntmps48
   go_wp2
   go_ret
   exact ⟨rfl, Below.refl _ _⟩
  ·have h60I : ¬ (60 : Int) < ((B l).size : Int) := by omega
   by_cases h1 : 1 < l.length
   ·have h1I : (1 : Int) < ((B l).size : Int) := by omega
    have hg0 : 0 < (B l).size := by omega
    have hg : ((B l)[0]'hg0).toNat = (l[0]'h0).toNat := by rw [B_get]
    by_cases hc : l[0]'h0 = 48
    ·have hq : ((((B l)[0]'hg0).toNat : Int) == 48) = true := by rw [hg, hc]; rfl
     have hf : plain l = false := by
      apply vD
      cases hd : isDec l with
      | false => rfl
      | true =>
       unfold isDec at hd
       simp only [bne_iff_ne, Bool.and_eq_true, Bool.or_eq_true, decide_eq_true_eq] at hd
       rcases hd.2 with h2 | h2
       ·omega
       ·exact absurd (by rw [List.head?_eq_getElem?, List.getElem?_eq_getElem h0, hc]) h2
     rw [hf]
     clear hI hc hg hf hz
     go_enter Tryd.func48, Tryd.ntmps48
     go_wp2
     go_ret
     exact ⟨rfl, Below.refl _ _⟩
    ·have hq : ((((B l)[0]'hg0).toNat : Int) == 48) = false := by
      rw [hg, beq_eq_false_iff_ne]
      intro hh
      apply hc
      apply UInt8.toNat_inj.1
      simp only [UInt8.toNat_ofNat]; omega
     have hl0 : Hid (l.length ≤ 1 ∨ l.head? ≠ some 48) := .inr (by
      rw [List.head?_eq_getElem?, List.getElem?_eq_getElem h0]
      intro hh; exact hc (by simpa using hh))
     clear hI hc hg hz
     go_enter Tryd.func48, Tryd.ntmps48
     go_wp2
     go_loopw [4] (fun _ wr => ∃ pos : Nat, pos ≤ l.length ∧ wr.heap[w.heap.size]? = some (.stringIter (B l) pos) ∧ Below w.heap.size w wr ∧ Hid (∀ j (hj : j < l.length), j < pos → 48 ≤ (l[j]).toNat ∧ (l[j]).toNat ≤ 57))
      (fun _ wr => l.length - wr.iterPos w.heap.size)
     case atStart => exact ⟨0, Nat.zero_le _, World.iter_heap _ _ _, (Below.refl _ _).alloc (Nat.le_refl _) _, hide (fun j _ h => by omega)⟩
     case round =>
      obtain ⟨pos, hpl, hit, hb, hv⟩ := hrel
      have hpos0 := iterPos_of hit
      by_cases hlt : pos < l.length
      ·have hlt2 : pos < (B l).size := by rw [zi]; exact hlt
       have hnx := fun ty => Lib.run_next_any_at (P := Tryd.prog) wr w.heap.size (B l) pos ty hit hlt2
       rcases yY l pos hlt with ⟨h1, h2, h3⟩ | ⟨h1, h2⟩
       ·rw [h3] at hnx
        have hit2 := Lib.iterAt_heap wr w.heap.size (B l) pos (pos + 1) hit
        have hb2 := Lib.below_iterAt hb (k := w.heap.size) (Nat.le_refl _) (B l) (pos + 1)
        have hpos2 := iterPos_of hit2
        have hv2 : Hid (∀ j (hj : j < l.length), j < pos + 1 → 48 ≤ (l[j]).toNat ∧ (l[j]).toNat ≤ 57) := by
         intro j hj hjk
         by_cases hjk2 : j < pos
         ·exact za hv j hj hjk2
         ·have : j = pos := by omega
          subst this; exact ⟨h1, h2⟩
        have h1I : (48 : Int) ≤ ((l[pos]'hlt).toNat : Int) := by omega
        have h2I : ((l[pos]'hlt).toNat : Int) ≤ 57 := by omega
        have Hit2 := hide hit2
        have Hp0 := hide hpos0
        have Hp2 := hide hpos2
        clear h3 hit hit2 hpos0 hpos2
        go_wp2
        go_roundw
        case rel => exact ⟨pos + 1, by omega, za Hit2, hb2, hv2⟩
        case measure => rw [za Hp0, za Hp2]; omega
       ·have hb2 := Lib.below_iterAt hb (k := w.heap.size) (Nat.le_refl _) (B l) (pos + (Utf8.decode (B l) pos).2)
        have hf := vD (qz pos hlt h1)
        have Hf := hide hf
        generalize Utf8.decode (B l) pos = rw_ at *
        clear hf h1 hit hpos0
        rcases h2 with h2 | h2
        ·have h2I : (rw_.1 : Int) < 48 := by omega
         clear h2
         go_wp2
         go_ret
         exact ⟨zl (za Hf).symm, hb2⟩
        ·have h2I : (57 : Int) < rw_.1 := by omega
         have h3I : ¬ (rw_.1 : Int) < 48 := by omega
         clear h2
         go_wp2
         go_ret
         exact ⟨zl (za Hf).symm, hb2⟩
      ·have hlt2 : ¬ pos < (B l).size := by rw [zi]; exact hlt
       have hnx := fun ty => Lib.run_next_end_at (P := Tryd.prog) wr w.heap.size (B l) pos ty hit hlt2
       have hf : plain l = true := by
        unfold plain
        rw [q4 h0 (za hl0) (fun j hj => za hv j hj (by omega)), decide_eq_true (by omega)]; rfl
       have Hf := hide hf
       clear hf hit hpos0
       go_wp2
       go_ret
       exact ⟨zl (za Hf).symm, hb⟩
   ·have h1I : ¬ (1 : Int) < ((B l).size : Int) := by omega
    have hl0 : Hid (l.length ≤ 1 ∨ l.head? ≠ some 48) := .inl (by omega)
    clear hI hz
    go_enter Tryd.func48, Tryd.ntmps48
    go_wp2
    go_loopw [4] (fun _ wr => ∃ pos : Nat, pos ≤ l.length ∧ wr.heap[w.heap.size]? = some (.stringIter (B l) pos) ∧ Below w.heap.size w wr ∧ Hid (∀ j (hj : j < l.length), j < pos → 48 ≤ (l[j]).toNat ∧ (l[j]).toNat ≤ 57))
     (fun _ wr => l.length - wr.iterPos w.heap.size)
    case atStart => exact ⟨0, Nat.zero_le _, World.iter_heap _ _ _, (Below.refl _ _).alloc (Nat.le_refl _) _, hide (fun j _ h => by omega)⟩
    case round =>
     obtain ⟨pos, hpl, hit, hb, hv⟩ := hrel
     have hpos0 := iterPos_of hit
     by_cases hlt : pos < l.length
     ·have hlt2 : pos < (B l).size := by rw [zi]; exact hlt
      have hnx := fun ty => Lib.run_next_any_at (P := Tryd.prog) wr w.heap.size (B l) pos ty hit hlt2
      rcases yY l pos hlt with ⟨h1, h2, h3⟩ | ⟨h1, h2⟩
      ·rw [h3] at hnx
       have hit2 := Lib.iterAt_heap wr w.heap.size (B l) pos (pos + 1) hit
       have hb2 := Lib.below_iterAt hb (k := w.heap.size) (Nat.le_refl _) (B l) (pos + 1)
       have hpos2 := iterPos_of hit2
       have hv2 : Hid (∀ j (hj : j < l.length), j < pos + 1 → 48 ≤ (l[j]).toNat ∧ (l[j]).toNat ≤ 57) := by
        intro j hj hjk
        by_cases hjk2 : j < pos
        ·exact za hv j hj hjk2
        ·have : j = pos := by omega
         subst this; exact ⟨h1, h2⟩
       have h1I : (48 : Int) ≤ ((l[pos]'hlt).toNat : Int) := by omega
       have h2I : ((l[pos]'hlt).toNat : Int) ≤ 57 := by omega
       have Hit2 := hide hit2
       have Hp0 := hide hpos0
       have Hp2 := hide hpos2
       clear h3 hit hit2 hpos0 hpos2
       go_wp2
       go_roundw
       case rel => exact ⟨pos + 1, by omega, za Hit2, hb2, hv2⟩
       case measure => rw [za Hp0, za Hp2]; omega
      ·have hb2 := Lib.below_iterAt hb (k := w.heap.size) (Nat.le_refl _) (B l) (pos + (Utf8.decode (B l) pos).2)
       have hf := vD (qz pos hlt h1)
       have Hf := hide hf
       generalize Utf8.decode (B l) pos = rw_ at *
       clear hf h1 hit hpos0
       rcases h2 with h2 | h2
       ·have h2I : (rw_.1 : Int) < 48 := by omega
        clear h2
        go_wp2
        go_ret
        exact ⟨zl (za Hf).symm, hb2⟩
       ·have h2I : (57 : Int) < rw_.1 := by omega
        have h3I : ¬ (rw_.1 : Int) < 48 := by omega
        clear h2
        go_wp2
        go_ret
        exact ⟨zl (za Hf).symm, hb2⟩
     ·have hlt2 : ¬ pos < (B l).size := by rw [zi]; exact hlt
      have hnx := fun ty => Lib.run_next_end_at (P := Tryd.prog) wr w.heap.size (B l) pos ty hit hlt2
      have hf : plain l = true := by
       unfold plain
       rw [q4 h0 (za hl0) (fun j hj => za hv j hj (by omega)), decide_eq_true (by omega)]; rfl
      have Hf := hide hf
      clear hf hit hpos0
      go_wp2
      go_ret
      exact ⟨zl (za Hf).symm, hb⟩
def Tens (w : World) : Prop := ∀ j, j < 9 → w.cell? ⟨0, j, none⟩ = some (.int .u64 ((10 ^ j : Nat) : Int))
theorem Tens.below {w w' : World} (h : Tens w) (hb : Below w.heap.size w w') : Tens w' := by
 intro j hj
 have h1 := h j hj
 rw [hb.cell (p := ⟨0, j, none⟩) (World.block_lt_of_cell? w _ h1)]
 exact h1
theorem Tens.lt {w : World} (h : Tens w) : 0 < w.heap.size := World.block_lt_of_cell? w _ (h 0 (by omega))
theorem Tens.belowB {w w' : World} {b : Nat} (h : Tens w) (hb : Below b w w') (hlt : 0 < b) : Tens w' := by
 intro j hj
 rw [hb.cell (p := ⟨0, j, none⟩) hlt]
 exact h j hj
theorem vB {w : World} {base : Nat} {e : TypeId} {size : Nat} {v : Value} {n : Nat} {xs : List Value} (h : w.ownsRow base e size v n xs) {k : Nat} (hk : v.ownBlock ≠ some k) (s : ByteArray) (p : Nat) : (w.iterAt k s p).ownsRow base e size v n xs := by
 obtain ⟨h1, h2⟩ := h
 refine ⟨h1, ?_⟩
 rcases h2 with h2 | ⟨g, cap, cur, rfl, hb, hg, rest⟩
 ·exact .inl h2
 ·refine .inr ⟨g, cap, cur, rfl, hb, ?_, rest⟩
  rw [Lib.iterAt_other _ _ _ _ _ (by intro hh; apply hk; simp [Value.ownBlock, hh])]
  exact hg
def yp (xs : List Nat) (k : Nat) : Prop := ∀ g (h : g < xs.length), xs[g] < 1000000000 ∧ 10 ^ (min 9 (k - 9 * g)) ∣ xs[g]
theorem kT {a c r : Nat} (ha : a < 10 ^ 9) (hr : r < 9) (hd : 10 ^ (r + 1) ∣ a) (hc : c ≤ 9) : a + c * 10 ^ r < 10 ^ 9 := by
 obtain ⟨t, rfl⟩ := hd
 have e : (10 : Nat) ^ 9 = 10 ^ (r + 1) * 10 ^ (8 - r) := by rw [← Nat.pow_add]; congr 1; omega
 rw [e] at ha ⊢
 have h1 : t < 10 ^ (8 - r) := Nat.lt_of_mul_lt_mul_left ha
 have h2 : 10 ^ (r + 1) * (t + 1) ≤ 10 ^ (r + 1) * 10 ^ (8 - r) := Nat.mul_le_mul_left _ h1
 rw [Nat.mul_add, Nat.mul_one] at h2
 have h3 : c * 10 ^ r < 10 ^ (r + 1) := by
  rw [Nat.pow_succ, Nat.mul_comm]
  exact Nat.mul_lt_mul_of_pos_left (by omega) (Nat.pow_pos (by omega))
 omega
theorem kU {xs : List Nat} {p c : Nat} (h : yp xs (p + 1)) (hg : p / 9 < xs.length) (hc : c ≤ 9) :
  xs[p / 9] + c * 10 ^ (p % 9) < 1000000000 ∧ yp (xs.set (p / 9) (xs[p / 9] + c * 10 ^ (p % 9))) p := by
 have hr : p % 9 < 9 := Nat.mod_lt _ (by omega)
 have h0 := h (p / 9) hg
 have hmin : min 9 (p + 1 - 9 * (p / 9)) = p % 9 + 1 := by omega
 rw [hmin] at h0
 have hroom := kT (a := xs[p / 9]) h0.1 hr h0.2 hc
 refine ⟨hroom, ?_⟩
 intro g hgl
 by_cases hgg : g = p / 9
 ·subst hgg
  rw [List.getElem_set_self]
  refine ⟨hroom, ?_⟩
  rw [show min 9 (p - 9 * (p / 9)) = p % 9 from by omega]
  exact Nat.dvd_add (Nat.dvd_trans (Nat.pow_dvd_pow 10 (by omega)) h0.2) (Nat.dvd_mul_left _ _)
 ·rw [List.getElem_set_ne (by omega)]
  have h1 := h g (by simpa using hgl)
  exact ⟨h1.1, Nat.dvd_trans (Nat.pow_dvd_pow 10 (by omega)) h1.2⟩
theorem jQ (p : Nat) : 1000000000 ^ (p / 9) * 10 ^ (p % 9) = 10 ^ p := by
 have e : (1000000000 : Nat) = 10 ^ 9 := by decide
 rw [e, ← Nat.pow_mul, ← Nat.pow_add]
 congr 1; omega
theorem xz {xs : List Nat} {p c V : Nat} (hg : p / 9 < xs.length) (hV : ofd 1000000000 xs = V) : ofd 1000000000 (xs.set (p / 9) (xs[p / 9] + c * 10 ^ (p % 9))) = V + c * 10 ^ p := by
 have h := jA 1000000000 xs (p / 9) (xs[p / 9] + c * 10 ^ (p % 9)) hg
 rw [hV, Nat.mul_add, Nat.mul_left_comm, jQ] at h
 omega
theorem kf (x : Nat) (w : World) (hs : (dec x).size ≤ 100000) (hT : Tens w) :
  Calls Tryd.prog 49 #[.string (dec x)] w fun e w' => (∃ v', e = .returned v' ∧ isNatB w' w.heap.size v' x) ∧ Below w.heap.size w w' := by
 obtain ⟨i0, hi, hz0, hz1, hz2⟩ := info_parts Tryd.infoU64
 obtain ⟨n, hn⟩ : ∃ n, (dec x).size = n := ⟨_, rfl⟩
 obtain ⟨G, hG⟩ : ∃ G : Nat, (n : Int) / 9 + 1 = G := ⟨n / 9 + 1, by omega⟩
 have hnI : ((dec x).size : Int) = n := by omega
 have hn0 : 0 < n := by have := zU x; omega
 rw [hn] at hs
 have Hn := hide hn
 have HT := hide hT
 clear hn hT
 go_enter Tryd.func49, Tryd.ntmps49
 go_wp2_with (refine wpList_make_full _ rfl (.tmp 10) (.tmp 10) 65 rfl w.heap.size 80 i0 (.int .u64 0) 1 Tryd.underlying65 hi hz0 hz1 .i64 .i64 G G G rfl rfl rfl rfl (by rw [hz2]; omega) (by unfold maxLen; omega) (Nat.le_refl _) ?_; intro w1 hown1 hg1)
 have hown0 : w1.ownsRow w.heap.size 80 1 (.slice (some ⟨w.heap.size, 0, none⟩) G G) G (u64s (List.replicate G 0)) := by
  simpa [Value.cells, toList_madeCells_one, qA] using hown1
 have hb1 : Below w.heap.size w w1 := (Below.refl _ _).grown hg1 (Nat.le_refl _) (fun _ h => by cases h)
 have hlt1 : w.heap.size < w1.heap.size := (hown0.lt _ rfl).2
 clear hown1 hg1
 go_loopw [4] (fun _ wr => ∃ (pos : Nat) (xs : List Nat), pos ≤ n ∧ wr.heap[w1.heap.size]? = some (.stringIter (dec x) pos) ∧ xs.length = G ∧ wr.ownsRow w.heap.size 80 1 (.slice (some ⟨w.heap.size, 0, none⟩) G G) G (u64s xs) ∧ Below w.heap.size w wr ∧
   Hid (yp xs (n - pos)) ∧ Hid (ofd 1000000000 xs = pref x pos * 10 ^ (n - pos)))
  (fun _ wr => n - wr.iterPos w1.heap.size)
 case atStart =>
  refine ⟨0, List.replicate G 0, Nat.zero_le _, World.iter_heap _ _ _, by simp, hown0.alloc _, hb1.alloc hb1.size _, ?_, ?_⟩
  ·intro g hg
   simp
  ·show _ = _
   rw [zN, jo]; simp
 case round =>
  clear hown0 hb1
  obtain ⟨pos, xs, hpl, hit, hxl, hown, hb, hlaid, hval⟩ := hrel
  have hpos0 := iterPos_of hit
  by_cases hlt : pos < n
  ·have hlt2 : pos < (dec x).size := by rw [za Hn]; exact hlt
   obtain ⟨p, hp⟩ : ∃ p : Nat, (n : Int) - 1 - pos = p := ⟨n - 1 - pos, by omega⟩
   have hpN : n - 1 - pos = p := by omega
   have hby := yJ x pos hlt2
   have hps := jR x pos hlt2
   rw [za Hn, hpN] at hby hps
   have hc9 : x / 10 ^ p % 10 < 10 := Nat.mod_lt _ (by omega)
   generalize x / 10 ^ p % 10 = c at *
   have hnx := fun ty => Lib.run_next_ascii_at (P := Tryd.prog) wr w1.heap.size (dec x) pos ty hit hlt2 (by omega)
   obtain ⟨b, hbb⟩ : ∃ b, ((dec x)[pos]'hlt2).toNat = b := ⟨_, rfl⟩
   rw [hbb] at hnx hby
   have hb48 : (b : Int) - 48 = c := by omega
   have hit2 := Lib.iterAt_heap wr w1.heap.size (dec x) pos (pos + 1) hit
   have hb2 := Lib.below_iterAt hb (k := w1.heap.size) (by omega) (dec x) (pos + 1)
   have hown2 := vB hown (k := w1.heap.size) (by simp [Value.ownBlock]; omega) (dec x) (pos + 1)
   obtain ⟨W1, hW1⟩ : ∃ W1, W1 = wr.iterAt w1.heap.size (dec x) (pos + 1) := ⟨_, rfl⟩
   rw [← hW1] at hnx hit2 hb2 hown2
   have hgp : p / 9 < xs.length := by omega
   have hT2 := ((za HT).belowB hb2 (za HT).lt) (p % 9) (Nat.mod_lt _ (by omega))
   have hlaid' : yp xs (p + 1) := by have := za hlaid; rwa [show n - pos = p + 1 from by omega] at this
   have hst := kU (c := c) hlaid' hgp (by omega)
   have hval' : ofd 1000000000 xs = pref x pos * 10 ^ (p + 1) := by have := za hval; rwa [show n - pos = p + 1 from by omega] at this
   have hof := xz (c := c) hgp hval'
   have hcx := hown2.cellAt (p / 9) (by omega)
   rw [zr _ _ hgp] at hcx
   have hfr := hown2.frozenAt (p / 9)
   have hpow : 10 ^ (p % 9) ≤ 100000000 := by
    have : (10 : Nat) ^ (p % 9) ≤ 10 ^ 8 := Nat.pow_le_pow_right (by omega) (by omega)
    exact this
   generalize xs[p / 9]'hgp = a at *
   obtain ⟨t, ht⟩ : ∃ t, 10 ^ (p % 9) = t := ⟨_, rfl⟩
   rw [ht] at hT2 hst hof hpow
   obtain ⟨q, hq⟩ : ∃ q, p / 9 = q := ⟨_, rfl⟩
   obtain ⟨r, hr⟩ : ∃ r, p % 9 = r := ⟨_, rfl⟩
   rw [hq] at hgp hst hof hcx hfr
   rw [hr] at hT2
   obtain ⟨pp, hpp⟩ : ∃ pp, c * t = pp := ⟨_, rfl⟩
   have hppI : (c : Int) * t = pp := by rw [← hpp]; simp
   rw [hpp] at hst hof
   have hst2 := hown2.stored q (.int .u64 ((a : Int) + pp))
   rw [z6 _ _ (a + pp) _ (by simp)] at hst2
   have e1 : (p : Int).tdiv 9 = q := by rw [Int.tdiv_eq_ediv_of_nonneg (by omega)]; omega
   have e2 : (p : Int).tmod 9 = r := by rw [Int.tmod_eq_emod_of_nonneg (by omega)]; omega
   have e3 := wi64 (q : Int) (by omega) (by omega)
   have e4 := wi32 (c : Int) (by omega) (by omega)
   have e5 := wu64 (c : Int) (by omega) (by omega)
   have hrm : c * t ≤ 9 * 100000000 := Nat.mul_le_mul (by omega) hpow
   have e6 := wu64 (pp : Int) (by omega) (by omega)
   have e7 := wu64 ((a : Int) + pp) (by omega) (by omega)
   have hqG : (q : Int) < G := by omega
   have hr9 : (r : Int) < 9 := by omega
   have hqn : q < G := by omega
   have hrn : r < 9 := by omega
   have Hst := hide hst
   have Hof := hide hof
   have Hst2 := hide hst2
   have Hit2 := hide hit2
   have Hps := hide hps
   have Hp0 := hide hpos0
   clear hst hof hst2 hit hit2 hps hpos0 hown hb hval hval' hlaid hlaid' hW1 hby hbb ht hq hr hpp hpN
   go_wp2
   go_region
   all_goals
    go_wp2
    go_roundw
    case rel =>
     refine ⟨pos + 1, xs.set q (a + pp), by omega, ?_, by simpa using hxl, (za Hst2).1, (hb2.setCell (by simp) _).drew, ?_, ?_⟩
     ·have h1 := za Hit2
      show (W1.setCell ⟨w.heap.size, q, none⟩ _).heap[w1.heap.size]? = _
      rw [Below.heap_setCell _ _ _ _ (by show w1.heap.size ≠ w.heap.size; omega)]
      exact h1
     ·rw [show n - (pos + 1) = p from by omega]; exact (za Hst).2
     ·show _ = _
      rw [za Hof, za Hps, show n - (pos + 1) = p from by omega, Nat.add_mul, Nat.pow_succ, Nat.mul_comm (10 ^ p) 10, ← Nat.mul_assoc, Nat.mul_comm 10 (pref x pos)]
    case measure =>
     have h1 := za Hit2
     rw [za Hp0]
     have h2 : ((W1.setCell ⟨w.heap.size, q, none⟩ (.int .u64 ((a : Int) + pp))).drew).iterPos w1.heap.size = pos + 1 := by
      apply iterPos_of (s := dec x)
      show (W1.setCell ⟨w.heap.size, q, none⟩ _).heap[w1.heap.size]? = _
      rw [Below.heap_setCell _ _ _ _ (by show w1.heap.size ≠ w.heap.size; omega)]
      exact h1
     rw [h2]; omega
  ·have hpn : pos = n := by omega
   subst hpn
   have hlt2 : ¬ pos < (dec x).size := by rw [za Hn]; omega
   have hnx := fun ty => Lib.run_next_end_at (P := Tryd.prog) wr w1.heap.size (dec x) pos ty hit hlt2
   have hfin : ofd 1000000000 xs = x := by
    have h1 := za hval
    have h2 := jD x
    rw [za Hn] at h2
    rw [h1, h2]; simp
   have hall : ∀ d ∈ xs, d < 1000000000 := by
    intro d hd
    obtain ⟨g, hg, rfl⟩ := List.getElem_of_mem hd
    exact (za hlaid g hg).1
   have Hfin := hide hfin
   have Hall := hide hall
   clear hfin hall hval hlaid hpos0 hit
   go_wp2_with fail
   refine (qT xs w.heap.size _ _ (by omega) (za Hall) (by rw [hxl]; exact hown)).mono ?_
   rintro e w2 ⟨⟨v', rfl, hv'⟩, rfl⟩
   rw [za Hfin] at hv'
   go_wp2
   go_ret
   exact ⟨⟨v', rfl, hv'⟩, hb⟩
theorem qq (x : Nat) (w : World) (hs : (dec x).size ≤ 100000) (hT : Tens w) :
  Calls Tryd.prog 49 #[.string (dec x)] w fun e w' => (∃ v', e = .returned v' ∧ isNat w' v' x) ∧ Below w.heap.size w w' :=
 (kf x w hs hT).mono fun _ _ h => ⟨⟨h.1.choose, h.1.choose_spec.1, h.1.choose_spec.2.nat⟩, h.2⟩
theorem yM (x k : Nat) (h : k / 9 < (gr x).length) : (gr x)[k / 9] / 10 ^ (k % 9) % 10 = x / 10 ^ k % 10 := by
 have hr : k % 9 < 9 := Nat.mod_lt _ (by omega)
 have hg := xp (b := 1000000000) (by omega) (k / 9) x
 have hg' : (gr x)[k / 9] = x / 1000000000 ^ (k / 9) % 1000000000 := by
  rw [← hg, show dg 1000000000 x = gr x from rfl, List.getD_eq_getElem?_getD, List.getElem?_eq_getElem h]; rfl
 rw [hg']
 have e : (1000000000 : Nat) = 10 ^ (k % 9) * 10 ^ (9 - k % 9) := by
  rw [← Nat.pow_add, show k % 9 + (9 - k % 9) = 9 from by omega]
 generalize hq : x / 1000000000 ^ (k / 9) = q
 conv => lhs; rw [e]
 rw [Nat.mod_mul_right_div_self, Nat.mod_mod_of_dvd _ (by
  have : 10 ^ 1 ∣ 10 ^ (9 - k % 9) := Nat.pow_dvd_pow 10 (by omega)
  simpa using this), ← hq, Nat.div_div_eq_div_mul, jQ]
def lenV : Value → Nat
 | .slice _ n _ => n
 | _ => 0
def digs (x k : Nat) : List Nat := (List.range k).map fun j => x / 10 ^ j % 10
theorem vS (x k : Nat) : digs x (k + 1) = digs x k ++ [x / 10 ^ k % 10] := by simp [digs, List.range_succ]
theorem jW (x k : Nat) : (digs x k).length = k := by simp [digs]
theorem ky (x k : Nat) : ∀ d ∈ digs x k, d < 10 := by
 intro d hd
 obtain ⟨j, _, rfl⟩ := List.mem_map.1 hd
 exact Nat.mod_lt _ (by omega)
theorem xt (x : Nat) : ∀ k, ofd 10 (digs x k) = x % 10 ^ k := by
 intro k
 induction k with
 | zero => simp [digs, ofd, Nat.mod_one]
 | succ k ih => rw [vS, zD, ih, jW, zK]
theorem Za (x : Nat) : x < 10 ^ (9 * (gr x).length) := by
 have h := qR (b := 1000000000) (by omega) x
 rw [show (1000000000 : Nat) = 10 ^ 9 from by decide, ← Nat.pow_mul] at h
 unfold gr
 rw [show (1000000000 : Nat) = 10 ^ 9 from by decide]
 exact h
theorem zJ (x : Nat) (v : Value) (w : World) (hx : isNat w v x) (hs : (gr x).length ≤ 100000) (hT : Tens w) :
  Calls Tryd.prog 56 #[v] w fun e w' => e = .returned (.string (dec x)) ∧ Below w.heap.size w w' := by
 obtain ⟨i0, hi, hz0, hz1, hz2⟩ := info_parts Tryd.infoByte
 obtain ⟨p, cap, hv⟩ := zx hx
 subst hv
 by_cases hz : x = 0
 ·subst hz
  rw [z7, xn]
  clear hx hs hT
  go_enter Tryd.func56, Tryd.ntmps56
  go_wp2
  go_ret
  exact ⟨rfl, Below.refl _ _⟩
 ·obtain ⟨n, hn⟩ : ∃ n, (gr x).length = n := ⟨_, rfl⟩
  have hn0 : 0 < n := by
   rcases Nat.eq_zero_or_pos n with h | h
   ·rw [h] at hn; exact absurd (jK.1 (List.eq_nil_of_length_eq_zero hn)) hz
   ·exact h
  have hnI : ((n : Int) == 0) = false := by rw [beq_eq_false_iff_ne]; omega
  have hgd := yM x
  have hgl := gr_lt x
  have hgp := Za x
  have hx' := hx
  unfold isNat at hx'
  rw [hn] at hx' hs hgp
  rw [hn]
  generalize gr x = xs at *
  have Hgd := hide hgd
  have Hgl := hide hgl
  have Hgp := hide hgp
  have Hx := hide hx'
  have Hn := hide hn
  have HT := hide hT
  have Hz := hide hz
  clear hgd hgl hgp hx' hn hT hz hx
  go_enter Tryd.func56, Tryd.ntmps56
  go_wp2
  go_loopw [3, 13] (fun v i wr => ∃ (k : Nat), k ≤ n * 9 ∧ i = .int .i64 k ∧ wr.ownsRow w.heap.size 5 1 v k (((digs x k).map sg).map u8v) ∧ Below w.heap.size w wr)
   (fun _ i _ => n * 9 - (intOf i).toNat)
  case atStart =>
   exact ⟨0, Nat.zero_le _, rfl, World.ownsRow_made w #[] 0 (Nat.le_refl _) (by decide) (by simp), (Below.refl _ _).alloc (Nat.le_refl _) _⟩
  case round =>
   obtain ⟨k, hk, rfl, hown, hb⟩ := hrel
   by_cases hlt : k < n * 9
   ·have hkl : k / 9 < xs.length := by rw [za Hn]; omega
    obtain ⟨g, cap', hvv, _⟩ := zS (za Hx) (by omega)
    simp only [Value.slice.injEq, true_and] at hvv
    obtain ⟨rfl, rfl⟩ := hvv
    have hcx := (zt (za Hx) hb).cellAt (k / 9) (by rw [za Hn] at hkl; omega)
    rw [zr _ _ hkl] at hcx
    have hT2 := ((za HT).below hb) (k % 9) (Nat.mod_lt _ (by omega))
    have hd := za Hgd k hkl
    have ha9 : xs[k / 9]'hkl < 1000000000 := za Hgl _ (List.getElem_mem _)
    have hdl : x / 10 ^ k % 10 < 10 := Nat.mod_lt _ (by omega)
    have hsuc := vS x k
    have hpow : 0 < 10 ^ (k % 9) := Nat.pow_pos (by omega)
    have hpow2 : 10 ^ (k % 9) ≤ 100000000 := by
     have : (10 : Nat) ^ (k % 9) ≤ 10 ^ 8 := Nat.pow_le_pow_right (by omega) (by have := Nat.mod_lt k (show 9 > 0 by omega); omega)
     exact this
    generalize xs[k / 9]'hkl = a at *
    generalize x / 10 ^ k % 10 = d at *
    obtain ⟨t, ht⟩ : ∃ t, 10 ^ (k % 9) = t := ⟨_, rfl⟩
    rw [ht] at hT2 hd hpow hpow2
    obtain ⟨q, hq⟩ : ∃ q, k / 9 = q := ⟨_, rfl⟩
    obtain ⟨r, hr⟩ : ∃ r, k % 9 = r := ⟨_, rfl⟩
    rw [hq] at hcx hkl
    rw [hr] at hT2
    obtain ⟨at_, hat⟩ : ∃ z, a / t = z := ⟨_, rfl⟩
    rw [hat] at hd
    have hatl : at_ ≤ a := by rw [← hat]; exact Nat.div_le_self _ _
    have e1 : (k : Int).tdiv 9 = q := by rw [Int.tdiv_eq_ediv_of_nonneg (by omega)]; omega
    have e2 : (k : Int).tmod 9 = r := by rw [Int.tmod_eq_emod_of_nonneg (by omega)]; omega
    have e3 := wi64 (q : Int) (by omega) (by omega)
    have e4 : (a : Int).tdiv t = at_ := by rw [Int.tdiv_eq_ediv_of_nonneg (by omega), ← hat]; rfl
    have e5 := wu64 (at_ : Int) (by omega) (by omega)
    have e6 : (at_ : Int).tmod 10 = d := by rw [Int.tmod_eq_emod_of_nonneg (by omega)]; omega
    have htN : ¬ (t : Int) = 0 := by omega
    have hqn : (q : Int) < n := by omega
    have hqn2 : q < n := by omega
    have hr9 : (r : Int) < 9 := by omega
    have hrn : r < 9 := by omega
    have hki : (k : Int) < n * 9 := by omega
    have Hsuc := hide hsuc
    clear hsuc hd ht hq hr hat
    go_wp2
    go_quiet (fail)
    have hown2 := v6 hown nq
    have hb2 := below_drewN hb nq
    have hw := hb.size
    go_wp2_with (at_builtin; refine wpList_append_own _ rfl (.tmp 27) (.tmp 31) 22 rfl w.heap.size 5 i0 (.int .u8 0) 1 1 Tryd.underlying22 hi hz0 hz1 hz2 rfl (by decide) _ _ _ rfl (hown2.alloc _) ⟨wr.heap.size, 0, none⟩ 1 1 [.int .u8 (48 + (d : Int))] rfl rfl (cell_one_new _ _ _) (by intro u hu; simp at hu; subst hu; rfl) (by unfold maxLen; omega) (by omega) (by show w.heap.size ≤ ((wr.drewN nq).alloc _).heap.size; rw [World.size_alloc]; show w.heap.size ≤ wr.heap.size + 1; omega) ?_; intro v2 w2 hown3 hg3 _)
    have hbX := zG (hb2.alloc hw _) (hown2.alloc _) hg3 (by rw [World.size_alloc]; show w.heap.size ≤ wr.heap.size + 1; omega)
    go_roundw
    case rel =>
     refine ⟨k + 1, by omega, by go_num, ?_, hbX⟩
     rw [za Hsuc, List.map_append, List.map_append]
     simp only [List.map_cons, List.map_nil, yF hdl]
     exact hown3
    case measure => simp [intOf]; omega
   ·have hkn : k = n * 9 := by omega
    subst hkn
    have hpre : strip (digs x (n * 9)) = dg 10 x := by
     rw [jZ (by omega) (ky x _), xt, Nat.mod_eq_of_lt (by rw [Nat.mul_comm]; exact za Hgp)]
    obtain ⟨g, cap', hvv, hcc, hbg, hgw⟩ := zS hown (by omega)
    subst hvv
    have Hpre := hide hpre
    have hdl := ky x (n * 9)
    have hlen := jW x (n * 9)
    generalize digs x (n * 9) = D at *
    have Hdl := hide hdl
    clear hpre hdl
    go_wp2
    go_loopw [3] (fun v wr2 => ∃ (E : List Nat), v = .slice (some ⟨g, 0, none⟩) E.length cap' ∧ E.length ≤ n * 9 ∧ wr2 = wr ∧ wr.ownsRow w.heap.size 5 1 (.slice (some ⟨g, 0, none⟩) E.length cap') E.length ((E.map sg).map u8v) ∧ Hid (strip E = dg 10 x) ∧ Hid (∀ d ∈ E, d < 10))
     (fun v _ => lenV v)
    case atStart => exact ⟨D, by rw [hlen], by omega, rfl, by rw [hlen]; exact hown, Hpre, Hdl⟩
    case round =>
     obtain ⟨E, rfl, hEl, rfl, hownE, hst, hEd⟩ := hrel
     have hE0 : 0 < E.length := by
      rcases Nat.eq_zero_or_pos E.length with h | h
      ·exfalso
       have : E = [] := List.eq_nil_of_length_eq_zero h
       rw [this] at hst
       exact za Hz ((jm (by omega)).1 (za hst).symm)
      ·exact h
     have hc := hownE.cellAt (E.length - 1) (by omega)
     rw [vJ _ _ (by simp; omega), List.getElem_map] at hc
     have hsp : E = E.take (E.length - 1) ++ [E[E.length - 1]'(by omega)] := by
      rw [← List.take_succ_eq_append_getElem (by omega), show E.length - 1 + 1 = E.length from by omega, List.take_length]
     have hlast : E[E.length - 1]'(by omega) < 10 := za hEd _ (List.getElem_mem _)
     have htk := yV hownE (E.length - 1) (by omega)
     generalize E[E.length - 1]'(by omega) = d at *
     rw [zI (by omega), if_pos hlast] at hc
     by_cases hd0 : d = 0
     ·have hst2 : strip (E.take (E.length - 1)) = dg 10 x := by
       rw [← za hst]
       conv => rhs; rw [hsp, hd0]
       rw [ja]
      have hEd2 : ∀ e ∈ E.take (E.length - 1), e < 10 := fun e he => za hEd e (List.mem_of_mem_take he)
      have hq : (((48 + d : Nat) : Int) == 48) = true := by rw [beq_iff_eq]; omega
      have e1 : ((E.map sg).map u8v).take (E.length - 1) = ((E.take (E.length - 1)).map sg).map u8v := by simp [List.map_take]
      rw [e1] at htk
      have hl1 : (E.take (E.length - 1)).length = E.length - 1 := by simp
      generalize E.take (E.length - 1) = F at *
      have hzl : F.length + 1 = E.length := by omega
      have Htk := hide htk
      have Hst2 := hide hst2
      have Hd2 := hide hEd2
      clear hst2 htk hsp hd0 e1 hEd2
      go_wp2
      go_roundw
      case rel => exact ⟨F, by rw [hl1], by omega, trivial, by rw [hl1]; exact za Htk, Hst2, Hd2⟩
      case measure => show E.length - 1 < E.length; omega
     ·have hq : (((48 + d : Nat) : Int) == 48) = false := by rw [beq_eq_false_iff_ne]; omega
      have hfin : E = dg 10 x := by rw [← za hst, hsp, qD _ _ hd0]
      have Hfin := hide hfin
      clear hfin hsp htk hd0
      have hrv := yc (E.map sg) g cap' w.heap.size wr (by rw [List.length_map]; omega) (by rw [List.length_map]; exact hownE)
      rw [List.length_map] at hrv
      have Hrv := hide hrv
      clear hrv hownE hown
      go_wp2_with fail
      refine (za Hrv).mono ?_
      rintro e w3 ⟨rfl, hown3, hg3⟩
      have hbX := hb.grown hg3 hb.size (fun k hk => by cases hk; omega)
      have hconv := zM (dst := 9) Tryd.underlying22 Tryd.underlying5 Tryd.underlying9 hown3
      have hfin2 : B (E.map sg).reverse = dec x := by unfold dec txt; rw [zV (za Hz), ← za Hfin]
      rw [hfin2] at hconv
      clear hfin2 hown3 hg3 Hrv
      go_wp2
      go_ret
      exact ⟨rfl, hbX⟩
theorem qZ {x : Nat} : (gr x).length = 0 ↔ x = 0 := by
 rw [List.length_eq_zero_iff]; exact jK
theorem qH {x y n : Nat} (h : x ≤ y) (hy : (gr y).length ≤ n) : (gr x).length ≤ n := Nat.le_trans (qa h) hy
theorem zo {w w3 : World} {b : Nat} (h : Below b w w3) (hs : b ≤ w3.heap.size) (g : Nat) (hg : b ≤ g) (x y z : Value) (o : Obj) : Below b w ((((w3.setCell ⟨g, 0, none⟩ x).setCell ⟨g, 1, none⟩ y).setCell ⟨g, 2, none⟩ z).alloc o) :=
 (zh h g hg x y z).alloc (by simpa using hs) o
theorem kc {neg : Bool} {u d : Nat} (hd : 0 < d) : zm neg u d = if 60 < (dec (u / Nat.gcd u d)).size ∨ 60 < (dec (d / Nat.gcd u d)).size then none else some (neg && u / Nat.gcd u d != 0, u / Nat.gcd u d, d / Nat.gcd u d) := by
 unfold zm
 by_cases h : 60 < (dec (u / Nat.gcd u d)).size ∨ 60 < (dec (d / Nat.gcd u d)).size
 ·rw [if_pos (.inr h), if_pos h]
 ·rw [if_neg (by rintro (h1 | h1); omega; exact h h1), if_neg h]
theorem jg (neg : Bool) (u d : Nat) (vu vd : Value) (w : World) (hu : isNat w vu u) (hdn : isNat w vd d) (hd : 0 < d) (hsu : (gr u).length ≤ 100000) (hsd : (gr d).length ≤ 100000) (hT : Tens w) :
  Calls Tryd.prog 41 #[.bool neg, vu, vd] w fun e w' => e = .returned (zd (zm neg u d)) ∧ Below w.heap.size w w' := by
 have Hu := hide hu
 have Hd := hide hdn
 have HT := hide hT
 have hg : 0 < Nat.gcd u d := Nat.gcd_pos_of_pos_right _ hd
 have hgl := qH (Nat.gcd_le_right u hd) hsd
 have hql := qH (Nat.div_le_self u (Nat.gcd u d)) hsu
 have hdl := qH (Nat.div_le_self d (Nat.gcd u d)) hsd
 have Hlow := hide (kc (neg := neg) (u := u) hd)
 clear hu hdn hT
 go_enter Tryd.func41, Tryd.ntmps41
 go_wp2_with fail
 have hbA : ∀ o : Obj, Below w.heap.size w (w.alloc o) := fun o => (Below.refl _ _).alloc (Nat.le_refl _) _
 refine (gcd_c u d _ _ _ (zp (za Hu) (hbA _)) (zp (za Hd) (hbA _)) (by omega) (by omega)).mono ?_
 rintro e w1 ⟨⟨vg, rfl, hvg⟩, hb1⟩
 have hb0 := zg hb1
 have hz0 : w.heap.size + 1 ≤ w1.heap.size := by have := hb1.size; simpa using this
 have hbu1 := zf hb0
 have Hvg := hide hvg
 have Hn1 := hide (And.intro hb0 hz0)
 clear hvg hb1 hb0 hz0
 go_wp2_with fail
 refine (kh u _ _ _ _ (zp (za Hu) hbu1) (za Hvg) (by omega) (by omega) hg).mono ?_
 rintro e w2 ⟨⟨v1, v1r, rfl, hv1, _⟩, hb2⟩
 have hn2 := ze (za Hn1).1 (za Hn1).2 hb2
 have hbu2 := zf hn2.1
 have Hv1 := hide hv1
 have Hvg2 := hide (zp (za Hvg) hb2)
 have Hn2 := hide hn2
 clear hv1 hb2 hn2 hbu1
 go_wp2_with fail
 refine (kh d _ _ _ _ (zp (za Hd) hbu2) (za Hvg2) (by omega) (by omega) hg).mono ?_
 rintro e w3 ⟨⟨v2, v2r, rfl, hv2, _⟩, hb3⟩
 have hn3 := ze (za Hn2).1 (za Hn2).2 hb3
 have HV1 := hide (zp (za Hv1) hb3)
 have HV2 := hide hv2
 have HT3 := hide ((za HT).below (zf hn3.1))
 have Hn3 := hide hn3
 clear hv2 hb3 hn3 hbu2 Hv1 Hvg2 Hn2 Hn1 Hvg hbA
 generalize hqu : u / Nat.gcd u d = qu at *
 generalize hqd : d / Nat.gcd u d = qd at *
 clear hqu hqd
 obtain ⟨p1, cp1, hv1s⟩ := zx (za HV1)
 subst hv1s
 by_cases hq0 : qu = 0
 ·have hl0 : decide (0 < (gr qu).length) = false := by have := qZ.2 hq0; rw [decide_eq_false_iff_not]; omega
  have Hsg : Hid ((neg && qu != 0) = false) := by show _ = _; rw [hq0]; simp
  clear hq0
  cases neg with
  | false =>
   go_wp2_with fail
   refine (zJ qu _ _ (za HV1) (by omega) (za HT3)).mono ?_
   rintro e w4 ⟨rfl, hb4⟩
   have hn4 := ze (za Hn3).1 (za Hn3).2 hb4
   have hv2 := zp (za HV2) hb4
   have hT4 := (za HT3).below hb4
   have HV2' := hide hv2
   have HT4 := hide hT4
   have Hn4 := hide hn4
   clear hv2 hT4 hn4 hb4
   go_wp2_with fail
   refine (zJ qd _ _ (za HV2') (by omega) (za HT4)).mono ?_
   rintro e w5 ⟨rfl, hb5⟩
   have hn5 := ze (za Hn4).1 (za Hn4).2 hb5
   have c0 := zb hn5.1 0
   have c1 := zb hn5.1 1
   have c2 := zb hn5.1 2
   have f0 := zc hn5.1 0
   have f1 := zc hn5.1 1
   have f2 := zc hn5.1 2
   have hbX := zf hn5.1
   simp at c0 c1 c2
   have hbb : w.heap.size < w5.heap.size := hn5.2
   clear hb5 hn5
   by_cases h1 : 60 < (dec qu).size
   ·rw [if_pos (.inl h1)] at Hlow
    go_wp2
    refine bodyPost_ret (v := zd none) (by simp [results, Tryd.results41, go_sem, zd, numO, noNum, numV, c0, c1, c2, hbb]) rfl ⟨by rw [za Hlow], ?_⟩
    exact zo hbX hbX.size _ (Nat.le_refl _) _ _ _ _
   ·by_cases h2 : 60 < (dec qd).size
    ·rw [if_pos (.inr h2)] at Hlow
     go_wp2
     refine bodyPost_ret (v := zd none) (by simp [results, Tryd.results41, go_sem, zd, numO, noNum, numV, c0, c1, c2, hbb]) rfl ⟨by rw [za Hlow], ?_⟩
     exact zo hbX hbX.size _ (Nat.le_refl _) _ _ _ _
    ·rw [if_neg (by rintro (h | h); exact h1 h; exact h2 h)] at Hlow
     go_wp2
     refine bodyPost_ret (v := zd (some (false, qu, qd))) (by simp [results, Tryd.results41, go_sem, zd, numO, numV, c0, c1, c2, hbb]) rfl ⟨by rw [za Hlow, za Hsg], ?_⟩
     exact zo hbX hbX.size _ (Nat.le_refl _) _ _ _ _
  | true =>
   go_wp2_with fail
   refine (zJ qu _ _ (za HV1) (by omega) (za HT3)).mono ?_
   rintro e w4 ⟨rfl, hb4⟩
   have hn4 := ze (za Hn3).1 (za Hn3).2 hb4
   have hv2 := zp (za HV2) hb4
   have hT4 := (za HT3).below hb4
   have HV2' := hide hv2
   have HT4 := hide hT4
   have Hn4 := hide hn4
   clear hv2 hT4 hn4 hb4
   go_wp2_with fail
   refine (zJ qd _ _ (za HV2') (by omega) (za HT4)).mono ?_
   rintro e w5 ⟨rfl, hb5⟩
   have hn5 := ze (za Hn4).1 (za Hn4).2 hb5
   have c0 := zb hn5.1 0
   have c1 := zb hn5.1 1
   have c2 := zb hn5.1 2
   have f0 := zc hn5.1 0
   have f1 := zc hn5.1 1
   have f2 := zc hn5.1 2
   have hbX := zf hn5.1
   simp at c0 c1 c2
   have hbb : w.heap.size < w5.heap.size := hn5.2
   clear hb5 hn5
   by_cases h1 : 60 < (dec qu).size
   ·rw [if_pos (.inl h1)] at Hlow
    go_wp2
    refine bodyPost_ret (v := zd none) (by simp [results, Tryd.results41, go_sem, zd, numO, noNum, numV, c0, c1, c2, hbb]) rfl ⟨by rw [za Hlow], ?_⟩
    exact zo hbX hbX.size _ (Nat.le_refl _) _ _ _ _
   ·by_cases h2 : 60 < (dec qd).size
    ·rw [if_pos (.inr h2)] at Hlow
     go_wp2
     refine bodyPost_ret (v := zd none) (by simp [results, Tryd.results41, go_sem, zd, numO, noNum, numV, c0, c1, c2, hbb]) rfl ⟨by rw [za Hlow], ?_⟩
     exact zo hbX hbX.size _ (Nat.le_refl _) _ _ _ _
    ·rw [if_neg (by rintro (h | h); exact h1 h; exact h2 h)] at Hlow
     go_wp2
     refine bodyPost_ret (v := zd (some (false, qu, qd))) (by simp [results, Tryd.results41, go_sem, zd, numO, numV, c0, c1, c2, hbb]) rfl ⟨by rw [za Hlow, za Hsg], ?_⟩
     exact zo hbX hbX.size _ (Nat.le_refl _) _ _ _ _
 ·have hl0 : decide (0 < (gr qu).length) = true := by have := mt qZ.1 hq0; rw [decide_eq_true_eq]; omega
  cases neg with
  | false =>
   have Hsg : Hid ((false && qu != 0) = false) := rfl
   clear hq0
   go_wp2_with fail
   refine (zJ qu _ _ (za HV1) (by omega) (za HT3)).mono ?_
   rintro e w4 ⟨rfl, hb4⟩
   have hn4 := ze (za Hn3).1 (za Hn3).2 hb4
   have hv2 := zp (za HV2) hb4
   have hT4 := (za HT3).below hb4
   have HV2' := hide hv2
   have HT4 := hide hT4
   have Hn4 := hide hn4
   clear hv2 hT4 hn4 hb4
   go_wp2_with fail
   refine (zJ qd _ _ (za HV2') (by omega) (za HT4)).mono ?_
   rintro e w5 ⟨rfl, hb5⟩
   have hn5 := ze (za Hn4).1 (za Hn4).2 hb5
   have c0 := zb hn5.1 0
   have c1 := zb hn5.1 1
   have c2 := zb hn5.1 2
   have f0 := zc hn5.1 0
   have f1 := zc hn5.1 1
   have f2 := zc hn5.1 2
   have hbX := zf hn5.1
   simp at c0 c1 c2
   have hbb : w.heap.size < w5.heap.size := hn5.2
   clear hb5 hn5
   by_cases h1 : 60 < (dec qu).size
   ·rw [if_pos (.inl h1)] at Hlow
    go_wp2
    refine bodyPost_ret (v := zd none) (by simp [results, Tryd.results41, go_sem, zd, numO, noNum, numV, c0, c1, c2, hbb]) rfl ⟨by rw [za Hlow], ?_⟩
    exact zo hbX hbX.size _ (Nat.le_refl _) _ _ _ _
   ·by_cases h2 : 60 < (dec qd).size
    ·rw [if_pos (.inr h2)] at Hlow
     go_wp2
     refine bodyPost_ret (v := zd none) (by simp [results, Tryd.results41, go_sem, zd, numO, noNum, numV, c0, c1, c2, hbb]) rfl ⟨by rw [za Hlow], ?_⟩
     exact zo hbX hbX.size _ (Nat.le_refl _) _ _ _ _
    ·rw [if_neg (by rintro (h | h); exact h1 h; exact h2 h)] at Hlow
     go_wp2
     refine bodyPost_ret (v := zd (some (false, qu, qd))) (by simp [results, Tryd.results41, go_sem, zd, numO, numV, c0, c1, c2, hbb]) rfl ⟨by rw [za Hlow, za Hsg], ?_⟩
     exact zo hbX hbX.size _ (Nat.le_refl _) _ _ _ _
  | true =>
   have Hsg : Hid ((true && qu != 0) = true) := by show _ = _; rw [bne_iff_ne.2 hq0]; rfl
   clear hq0
   go_wp2_with fail
   refine (zJ qu _ _ (za HV1) (by omega) (za HT3)).mono ?_
   rintro e w4 ⟨rfl, hb4⟩
   have hn4 := ze (za Hn3).1 (za Hn3).2 hb4
   have hv2 := zp (za HV2) hb4
   have hT4 := (za HT3).below hb4
   have HV2' := hide hv2
   have HT4 := hide hT4
   have Hn4 := hide hn4
   clear hv2 hT4 hn4 hb4
   go_wp2_with fail
   refine (zJ qd _ _ (za HV2') (by omega) (za HT4)).mono ?_
   rintro e w5 ⟨rfl, hb5⟩
   have hn5 := ze (za Hn4).1 (za Hn4).2 hb5
   have c0 := zb hn5.1 0
   have c1 := zb hn5.1 1
   have c2 := zb hn5.1 2
   have f0 := zc hn5.1 0
   have f1 := zc hn5.1 1
   have f2 := zc hn5.1 2
   have hbX := zf hn5.1
   simp at c0 c1 c2
   have hbb : w.heap.size < w5.heap.size := hn5.2
   clear hb5 hn5
   by_cases h1 : 60 < (dec qu).size
   ·rw [if_pos (.inl h1)] at Hlow
    go_wp2
    refine bodyPost_ret (v := zd none) (by simp [results, Tryd.results41, go_sem, zd, numO, noNum, numV, c0, c1, c2, hbb]) rfl ⟨by rw [za Hlow], ?_⟩
    exact zo hbX hbX.size _ (Nat.le_refl _) _ _ _ _
   ·by_cases h2 : 60 < (dec qd).size
    ·rw [if_pos (.inr h2)] at Hlow
     go_wp2
     refine bodyPost_ret (v := zd none) (by simp [results, Tryd.results41, go_sem, zd, numO, noNum, numV, c0, c1, c2, hbb]) rfl ⟨by rw [za Hlow], ?_⟩
     exact zo hbX hbX.size _ (Nat.le_refl _) _ _ _ _
    ·rw [if_neg (by rintro (h | h); exact h1 h; exact h2 h)] at Hlow
     go_wp2
     refine bodyPost_ret (v := zd (some (true, qu, qd))) (by simp [results, Tryd.results41, go_sem, zd, numO, numV, c0, c1, c2, hbb]) rfl ⟨by rw [za Hlow, za Hsg], ?_⟩
     exact zo hbX hbX.size _ (Nat.le_refl _) _ _ _ _
theorem vX (neg : Bool) (u d : List UInt8) : okM neg u d = (plain u && plain d && decide (zj d ≠ 0) && !(neg && decide (zj u = 0)) && decide (Nat.gcd (zj u) (zj d) = 1)) := by
 unfold okM plain
 cases decide (u.length ≤ 60) <;> cases decide (d.length ≤ 60) <;> cases isDec u <;> cases isDec d <;> simp
theorem jJ {x n : Nat} (h : (dec x).size ≤ n) : (gr x).length ≤ n := by
 have h1 := zW x
 apply z9 (by omega)
 have h2 : (10 : Nat) ^ (dec x).size ≤ 1000000000 ^ n := Nat.le_trans (Nat.pow_le_pow_left (by omega) _) (Nat.pow_le_pow_right (by omega) h)
 omega
theorem yi (neg : Bool) (u d : List UInt8) (w : World) (hsu : u.length ≤ 1000000000) (hsd : d.length ≤ 1000000000) (h : (plain u && plain d) = false) :
  Calls Tryd.prog 9 #[numB neg u d] w fun e w' => e = .returned (.bool (okM neg u d)) ∧ Below w.heap.size w w' := by
 have Hok : Hid (okM neg u d = false) := by show _ = _; rw [vX, h]; simp
 unfold numB
 have h1 := fun w => q5 u w hsu
 have h2 := fun w => q5 d w hsd
 have H2 := hide h2
 cases hu : plain u with
 | false =>
  rw [hu] at h1
  have H1 := hide h1
  clear h hu h1 h2
  go_enter Tryd.func9, Tryd.ntmps9
  go_wp2_with fail
  refine (za H1 _).mono ?_
  rintro e w1 ⟨rfl, hb1⟩
  have hb0 := zg hb1
  have hz0 : w.heap.size + 1 ≤ w1.heap.size := by have := hb1.size; simpa using this
  clear hb1
  go_wp2
  go_ret
  exact ⟨zl (za Hok).symm, zf hb0⟩
 | true =>
  rw [hu] at h1 h
  have hd : plain d = false := by simpa using h
  rw [hd] at H2
  have H1 := hide h1
  clear h hu hd h1 h2
  go_enter Tryd.func9, Tryd.ntmps9
  go_wp2_with fail
  refine (za H1 _).mono ?_
  rintro e w1 ⟨rfl, hb1⟩
  have hb0 := zg hb1
  have hz0 : w.heap.size + 1 ≤ w1.heap.size := by have := hb1.size; simpa using this
  clear hb1
  have c0 := zb hb0 0
  have c1 := zb hb0 1
  have c2 := zb hb0 2
  simp at c0 c1 c2
  go_wp2_with fail
  refine (za H2 _).mono ?_
  rintro e w2 ⟨rfl, hb2⟩
  have hn2 := ze hb0 hz0 hb2
  go_wp2
  go_ret
  exact ⟨zl (za Hok).symm, zf hn2.1⟩
theorem vN (neg : Bool) (u d : List UInt8) (w : World) (hu : plain u = true) (hd : plain d = true) (hT : Tens w) :
  Calls Tryd.prog 9 #[numB neg u d] w fun e w' => e = .returned (.bool (okM neg u d)) ∧ Below w.heap.size w w' := by
 have hu' := hu
 have hd' := hd
 unfold plain at hu' hd'
 simp only [Bool.and_eq_true, decide_eq_true_eq] at hu' hd'
 have Hok : Hid (okM neg u d = (decide (zj d ≠ 0) && !(neg && decide (zj u = 0)) && decide (Nat.gcd (zj u) (zj d) = 1))) := by
  show _ = _; rw [vX, hu, hd]; simp
 have h1 := fun w => q5 u w (by omega)
 have h2 := fun w => q5 d w (by omega)
 rw [hu] at h1
 rw [hd] at h2
 have Bu : B u = dec (zj u) := by unfold dec txt; rw [← zz hu'.1]
 have Bd : B d = dec (zj d) := by unfold dec txt; rw [← zz hd'.1]
 have hau := zi u
 have had := zi d
 unfold numB
 rw [Bu] at h1 hau
 rw [Bd] at h2 had
 rw [Bu, Bd]
 have HT := hide hT
 have H1 := hide h1
 have H2 := hide h2
 generalize zj u = a at *
 generalize zj d = q at *
 have hsa : (dec a).size ≤ 60 := by omega
 have hsq : (dec q).size ≤ 60 := by omega
 have hga := jJ hsa
 have hgq := jJ hsq
 have ha0 := qW a
 have hq0 := qW q
 clear h1 h2 Bu Bd hu hd hu' hd' hau had hT
 by_cases hq : q = 0
 ·rw [decide_eq_true hq] at hq0
  have Hok : Hid (okM neg u d = false) := by show _ = _; rw [za Hok]; simp [hq]
  clear hq
  go_enter Tryd.func9, Tryd.ntmps9
  go_wp2_with fail
  refine (za H1 _).mono ?_
  rintro e w1 ⟨rfl, hb1⟩
  have hb0 := zg hb1
  have hz0 : w.heap.size + 1 ≤ w1.heap.size := by have := hb1.size; simpa using this
  clear hb1
  have c0 := zb hb0 0
  have c1 := zb hb0 1
  have c2 := zb hb0 2
  simp at c0 c1 c2
  go_wp2_with fail
  refine (za H2 _).mono ?_
  rintro e w2 ⟨rfl, hb2⟩
  have hn2 := ze hb0 hz0 hb2
  clear c0 c1 c2 hb2 hb0 hz0
  have c0 := zb hn2.1 0
  have c1 := zb hn2.1 1
  have c2 := zb hn2.1 2
  simp at c0 c1 c2
  go_wp2
  go_ret
  exact ⟨zl (za Hok).symm, zf hn2.1⟩
 ·rw [decide_eq_false hq] at hq0
  have hgg : (gr (Nat.gcd a q)).length ≤ 60 := qH (Nat.gcd_le_right a (by omega)) hgq
  cases neg with
  | false =>
   have Hok : Hid (okM false u d = decide (Nat.gcd a q = 1)) := by show _ = _; rw [za Hok]; simp [hq]
   clear hq
   go_enter Tryd.func9, Tryd.ntmps9
   go_wp2_with fail
   refine (za H1 _).mono ?_
   rintro e w1 ⟨rfl, hb1⟩
   have hb0 := zg hb1
   have hz0 : w.heap.size + 1 ≤ w1.heap.size := by have := hb1.size; simpa using this
   clear hb1
   have c0 := zb hb0 0
   have c1 := zb hb0 1
   have c2 := zb hb0 2
   simp at c0 c1 c2
   go_wp2_with fail
   refine (za H2 _).mono ?_
   rintro e w2 ⟨rfl, hb2⟩
   have hn2 := ze hb0 hz0 hb2
   clear c0 c1 c2 hb2 hb0 hz0
   have c0 := zb hn2.1 0
   have c1 := zb hn2.1 1
   have c2 := zb hn2.1 2
   simp at c0 c1 c2
   have HT2 := hide ((za HT).below (zf hn2.1))
   have HW : Hid (Below (w.heap.size + 1) (w.alloc (.cells #[.bool false, .string (dec a), .string (dec q)] 26)) w2.drew ∧ w.heap.size + 1 ≤ w2.drew.heap.size) := hide ⟨hn2.1.drew, hn2.2⟩
   have HC : Hid (∀ wx : World, Below w2.drew.heap.size w2.drew wx → wx.cell? ⟨w.heap.size, 1, none⟩ = some (.string (dec a)) ∧ wx.cell? ⟨w.heap.size, 2, none⟩ = some (.string (dec q))) := by
    intro wx hx
    have hlt : w.heap.size < w2.drew.heap.size := hn2.2
    exact ⟨by rw [hx.cell (p := ⟨w.heap.size, 1, none⟩) hlt]; exact c1, by rw [hx.cell (p := ⟨w.heap.size, 2, none⟩) hlt]; exact c2⟩
   go_wp2
   go_region_with (first | (go_at_call_of 49 (dec a); refine (qq a _ (by omega) (by first | exact (za HT2) | exact Tens.below (w := w2.drew) (za HT2) (by assumption))).mono ?_; rintro e wa ⟨⟨va, rfl, hva⟩, hba⟩; have Hva := hide hva; have Hba := hide hba; clear hva; have ca1 : wa.cell? ⟨w.heap.size, 1, none⟩ = some (.string (dec a)) := (by first | exact (za HC _ hba).1 | exact (za HC _ ((za Hbq).trans (hba.mono (za Hbq).size))).1); have ca2 : wa.cell? ⟨w.heap.size, 2, none⟩ = some (.string (dec q)) := (by first | exact (za HC _ hba).2 | exact (za HC _ ((za Hbq).trans (hba.mono (za Hbq).size))).2)) | (go_at_call_of 49 (dec q); refine (qq q _ (by omega) (by first | exact (za HT2) | exact Tens.below (w := w2.drew) (za HT2) (by assumption))).mono ?_; rintro e wq ⟨⟨vq, rfl, hvq⟩, hbq⟩; have Hvq := hide hvq; have Hbq := hide hbq; clear hvq; have cq1 : wq.cell? ⟨w.heap.size, 1, none⟩ = some (.string (dec a)) := (by first | exact (za HC _ hbq).1 | exact (za HC _ ((za Hba).trans (hbq.mono (za Hba).size))).1); have cq2 : wq.cell? ⟨w.heap.size, 2, none⟩ = some (.string (dec q)) := (by first | exact (za HC _ hbq).2 | exact (za HC _ ((za Hba).trans (hbq.mono (za Hba).size))).2)) | (go_at_call 50; refine (gcd_c a q va vq _ (by first | exact za Hva | exact zp (za Hva) (za Hbq)) (by first | exact za Hvq | exact zp (za Hvq) (za Hba)) (by omega) (by omega)).mono ?_; rintro e wg ⟨⟨vg, rfl, hvg⟩, hbg⟩; have Hvg := hide hvg; have Hbg := hide hbg; clear hvg) | (go_at_call 51; refine (kB (Nat.gcd a q) vg _ (za Hvg) (by omega)).mono ?_; rintro e wi ⟨rfl, rfl⟩))
   all_goals
    go_wp2
    go_ret
    refine ⟨zl (za Hok).symm, zf (o := .cells #[.bool false, .string (dec a), .string (dec q)] 26) ?_⟩
    first
     | exact (ze (ze (ze (za HW).1 (za HW).2 (za Hba)).1 (ze (za HW).1 (za HW).2 (za Hba)).2 (za Hbq)).1 (ze (ze (za HW).1 (za HW).2 (za Hba)).1 (ze (za HW).1 (za HW).2 (za Hba)).2 (za Hbq)).2 (za Hbg)).1
     | exact (ze (ze (ze (za HW).1 (za HW).2 (za Hbq)).1 (ze (za HW).1 (za HW).2 (za Hbq)).2 (za Hba)).1 (ze (ze (za HW).1 (za HW).2 (za Hbq)).1 (ze (za HW).1 (za HW).2 (za Hbq)).2 (za Hba)).2 (za Hbg)).1
  | true =>
   by_cases ha : a = 0
   ·rw [decide_eq_true ha] at ha0
    have Hok : Hid (okM true u d = false) := by show _ = _; rw [za Hok]; simp [ha]
    clear hq ha
    go_enter Tryd.func9, Tryd.ntmps9
    go_wp2_with fail
    refine (za H1 _).mono ?_
    rintro e w1 ⟨rfl, hb1⟩
    have hb0 := zg hb1
    have hz0 : w.heap.size + 1 ≤ w1.heap.size := by have := hb1.size; simpa using this
    clear hb1
    have c0 := zb hb0 0
    have c1 := zb hb0 1
    have c2 := zb hb0 2
    simp at c0 c1 c2
    go_wp2_with fail
    refine (za H2 _).mono ?_
    rintro e w2 ⟨rfl, hb2⟩
    have hn2 := ze hb0 hz0 hb2
    clear c0 c1 c2 hb2 hb0 hz0
    have c0 := zb hn2.1 0
    have c1 := zb hn2.1 1
    have c2 := zb hn2.1 2
    simp at c0 c1 c2
    go_wp2
    go_ret
    exact ⟨zl (za Hok).symm, zf hn2.1⟩
   ·rw [decide_eq_false ha] at ha0
    have Hok : Hid (okM true u d = decide (Nat.gcd a q = 1)) := by show _ = _; rw [za Hok]; simp [hq, ha]
    clear hq ha
    go_enter Tryd.func9, Tryd.ntmps9
    go_wp2_with fail
    refine (za H1 _).mono ?_
    rintro e w1 ⟨rfl, hb1⟩
    have hb0 := zg hb1
    have hz0 : w.heap.size + 1 ≤ w1.heap.size := by have := hb1.size; simpa using this
    clear hb1
    have c0 := zb hb0 0
    have c1 := zb hb0 1
    have c2 := zb hb0 2
    simp at c0 c1 c2
    go_wp2_with fail
    refine (za H2 _).mono ?_
    rintro e w2 ⟨rfl, hb2⟩
    have hn2 := ze hb0 hz0 hb2
    clear c0 c1 c2 hb2 hb0 hz0
    have c0 := zb hn2.1 0
    have c1 := zb hn2.1 1
    have c2 := zb hn2.1 2
    simp at c0 c1 c2
    have HT2 := hide ((za HT).below (zf hn2.1))
    have HW : Hid (Below (w.heap.size + 1) (w.alloc (.cells #[.bool true, .string (dec a), .string (dec q)] 26)) w2.drew ∧ w.heap.size + 1 ≤ w2.drew.heap.size) := hide ⟨hn2.1.drew, hn2.2⟩
    have HC : Hid (∀ wx : World, Below w2.drew.heap.size w2.drew wx → wx.cell? ⟨w.heap.size, 1, none⟩ = some (.string (dec a)) ∧ wx.cell? ⟨w.heap.size, 2, none⟩ = some (.string (dec q))) := by
     intro wx hx
     have hlt : w.heap.size < w2.drew.heap.size := hn2.2
     exact ⟨by rw [hx.cell (p := ⟨w.heap.size, 1, none⟩) hlt]; exact c1, by rw [hx.cell (p := ⟨w.heap.size, 2, none⟩) hlt]; exact c2⟩
    go_wp2
    go_region_with (first | (go_at_call_of 49 (dec a); refine (qq a _ (by omega) (by first | exact (za HT2) | exact Tens.below (w := w2.drew) (za HT2) (by assumption))).mono ?_; rintro e wa ⟨⟨va, rfl, hva⟩, hba⟩; have Hva := hide hva; have Hba := hide hba; clear hva; have ca1 : wa.cell? ⟨w.heap.size, 1, none⟩ = some (.string (dec a)) := (by first | exact (za HC _ hba).1 | exact (za HC _ ((za Hbq).trans (hba.mono (za Hbq).size))).1); have ca2 : wa.cell? ⟨w.heap.size, 2, none⟩ = some (.string (dec q)) := (by first | exact (za HC _ hba).2 | exact (za HC _ ((za Hbq).trans (hba.mono (za Hbq).size))).2)) | (go_at_call_of 49 (dec q); refine (qq q _ (by omega) (by first | exact (za HT2) | exact Tens.below (w := w2.drew) (za HT2) (by assumption))).mono ?_; rintro e wq ⟨⟨vq, rfl, hvq⟩, hbq⟩; have Hvq := hide hvq; have Hbq := hide hbq; clear hvq; have cq1 : wq.cell? ⟨w.heap.size, 1, none⟩ = some (.string (dec a)) := (by first | exact (za HC _ hbq).1 | exact (za HC _ ((za Hba).trans (hbq.mono (za Hba).size))).1); have cq2 : wq.cell? ⟨w.heap.size, 2, none⟩ = some (.string (dec q)) := (by first | exact (za HC _ hbq).2 | exact (za HC _ ((za Hba).trans (hbq.mono (za Hba).size))).2)) | (go_at_call 50; refine (gcd_c a q va vq _ (by first | exact za Hva | exact zp (za Hva) (za Hbq)) (by first | exact za Hvq | exact zp (za Hvq) (za Hba)) (by omega) (by omega)).mono ?_; rintro e wg ⟨⟨vg, rfl, hvg⟩, hbg⟩; have Hvg := hide hvg; have Hbg := hide hbg; clear hvg) | (go_at_call 51; refine (kB (Nat.gcd a q) vg _ (za Hvg) (by omega)).mono ?_; rintro e wi ⟨rfl, rfl⟩))
    all_goals
     go_wp2
     go_ret
     refine ⟨zl (za Hok).symm, zf (o := .cells #[.bool true, .string (dec a), .string (dec q)] 26) ?_⟩
     first
      | exact (ze (ze (ze (za HW).1 (za HW).2 (za Hba)).1 (ze (za HW).1 (za HW).2 (za Hba)).2 (za Hbq)).1 (ze (ze (za HW).1 (za HW).2 (za Hba)).1 (ze (za HW).1 (za HW).2 (za Hba)).2 (za Hbq)).2 (za Hbg)).1
      | exact (ze (ze (ze (za HW).1 (za HW).2 (za Hbq)).1 (ze (za HW).1 (za HW).2 (za Hbq)).2 (za Hba)).1 (ze (ze (za HW).1 (za HW).2 (za Hbq)).1 (ze (za HW).1 (za HW).2 (za Hbq)).2 (za Hba)).2 (za Hbg)).1
theorem qb (neg : Bool) (u d : List UInt8) (w : World) (hsu : u.length ≤ 1000000000) (hsd : d.length ≤ 1000000000) (hT : Tens w) :
  Calls Tryd.prog 9 #[numB neg u d] w fun e w' => e = .returned (.bool (okM neg u d)) ∧ Below w.heap.size w w' := by
 cases h : plain u && plain d with
 | false => exact yi neg u d w hsu hsd h
 | true =>
  simp only [Bool.and_eq_true] at h
  exact vN neg u d w h.1 h.2 hT
theorem kz {n : Nat} (h : n ≤ 9223372036854775808) : (gr n).length ≤ 3 := z9 (by omega) (Nat.lt_of_le_of_lt h (by decide))
theorem q3 (i : Int) (w : World) (h0 : -9223372036854775808 ≤ i) (h1 : i ≤ 9223372036854775807) (hT : Tens w) :
  Calls Tryd.prog 14 #[.int .i64 i] w fun e w' => e = .returned (intV i) ∧ Below w.heap.size w w' := by
 have HT := hide hT
 clear hT
 by_cases hi : 0 ≤ i
 ·obtain ⟨n, rfl⟩ := Int.eq_ofNat_of_zero_le hi
  have Hf : Hid (intV (n : Int) = numV false (dec n) ⟨#[49]⟩) := by
   show _ = _; unfold intV; rw [decide_eq_false (by omega), qi]; simp
  have ew : IntKind.wrap .u64 (n : Int) = (n : Int) := wu64 _ (by omega) (by omega)
  have el : decide ((n : Int) < 0) = false := decide_eq_false (by omega)
  have hg := kz (n := n) (by omega)
  go_enter Tryd.func14, Tryd.ntmps14
  go_wp2_with fail
  refine (kG (n) _ (by omega)).mono ?_
  rintro e w1 ⟨⟨v, rfl, hv⟩, hb1⟩
  have hb0 := zg hb1
  have hz0 : w.heap.size + 1 ≤ w1.heap.size := by have := hb1.size; simpa using this
  have Hv := hide hv
  have HT1 := hide ((za HT).below (zf hb0))
  clear hv
  go_wp2_with fail
  refine (zJ (n) v _ (za Hv) (by omega) (za HT1)).mono ?_
  rintro e w2 ⟨rfl, hb2⟩
  have hn2 := ze hb0 hz0 hb2
  have c0 := zb hn2.1 0
  have c1 := zb hn2.1 1
  have c2 := zb hn2.1 2
  have f0 := zc hn2.1 0
  have f1 := zc hn2.1 1
  have f2 := zc hn2.1 2
  have hbX := zf hn2.1
  simp at c0 c1 c2
  clear hb1 hb0 hb2 hn2 hz0
  go_wp2
  refine bodyPost_ret (v := numV false (dec n) ⟨#[49]⟩) (by simp [results, Tryd.results14, go_sem, numV, c0, c1, c2]) rfl ⟨by rw [za Hf], ?_⟩
  exact zh hbX _ (Nat.le_refl _) _ _ _
 ·obtain ⟨n, hn⟩ := Int.eq_ofNat_of_zero_le (show 0 ≤ -(i + 1) by omega)
  have hn' : i = -(n : Int) - 1 := by omega
  subst hn'
  have Hf : Hid (intV (-(n : Int) - 1) = numV true (dec (n + 1)) ⟨#[49]⟩) := by
   show _ = _; unfold intV; rw [decide_eq_true (by omega), qi, show (-(n : Int) - 1).natAbs = n + 1 from by omega]
  have ew : IntKind.wrap .u64 (-(n : Int) - 1) = 18446744073709551615 - (n : Int) := by rw [IntKind.wrap_u64]; omega
  have en : IntKind.wrap .u64 (-(18446744073709551615 - (n : Int))) = ((n + 1 : Nat) : Int) := by rw [IntKind.wrap_u64]; omega
  have el : decide (-(n : Int) - 1 < 0) = true := decide_eq_true (by omega)
  have hg := kz (n := n + 1) (by omega)
  clear hn
  go_enter Tryd.func14, Tryd.ntmps14
  go_wp2_with fail
  refine (kG (n + 1) _ (by omega)).mono ?_
  rintro e w1 ⟨⟨v, rfl, hv⟩, hb1⟩
  have hb0 := zg hb1
  have hz0 : w.heap.size + 1 ≤ w1.heap.size := by have := hb1.size; simpa using this
  have Hv := hide hv
  have HT1 := hide ((za HT).below (zf hb0))
  clear hv
  go_wp2_with fail
  refine (zJ (n + 1) v _ (za Hv) (by omega) (za HT1)).mono ?_
  rintro e w2 ⟨rfl, hb2⟩
  have hn2 := ze hb0 hz0 hb2
  have c0 := zb hn2.1 0
  have c1 := zb hn2.1 1
  have c2 := zb hn2.1 2
  have f0 := zc hn2.1 0
  have f1 := zc hn2.1 1
  have f2 := zc hn2.1 2
  have hbX := zf hn2.1
  simp at c0 c1 c2
  clear hb1 hb0 hb2 hn2 hz0
  go_wp2
  refine bodyPost_ret (v := numV true (dec (n + 1)) ⟨#[49]⟩) (by simp [results, Tryd.results14, go_sem, numV, c0, c1, c2]) rfl ⟨by rw [za Hf], ?_⟩
  exact zh hbX _ (Nat.le_refl _) _ _ _
theorem vm (c : UInt8) (l : List UInt8) : Lib.indexByte l c = findI c l := by
 unfold findI
 induction l with
 | nil => rfl
 | cons d r ih =>
  unfold Lib.indexByte findB
  by_cases h : d = c
  ·simp [h]
  ·simp only [h, if_false]
   cases hf : findB c r with
   | none => rw [hf] at ih; simp_all
   | some k => rw [hf] at ih; simp_all; try omega
theorem yN (l : List UInt8) (c : UInt8) (w : World) :
  Calls Tryd.prog 157 #[.string (B l), .int .u8 c.toNat] w fun e w' => e = .returned (.int .i64 (findI c l)) ∧ w' = w := by
 go_enter Tryd.func157, Tryd.ntmps157
 go_wp2
 rw [run_callFunc_extern Tryd.func170 (by kernel_rfl) (by kernel_rfl) (by kernel_rfl) (e := Extern.BytealgIndexByte.indexByte) (by kernel_rfl), Lib.run_indexByteString]
 simp only [Result.andThen]
 rw [Oper.upon_value]
 go_wp2
 go_ret
 refine ⟨?_, rfl⟩
 exact qx (by rw [xh, vm])
theorem xV (l : List UInt8) (c : UInt8) (w : World) :
  Calls Tryd.prog 143 #[.string (B l), .string (B [c])] w fun e w' => e = .returned (.int .i64 (findI c l)) ∧ w' = w := by
 have hs1 : (B [c]).size = 1 := rfl
 have hg : (B [c])[0].toNat = c.toNat := rfl
 by_cases hl : [c] = l
 ·have he : ((B [c]).toList == (B l).toList) = true := by rw [B_tl, B_tl, hl]; simp
  have Hf : Hid (findI c l = 0) := by show _ = _; rw [← hl]; simp [findI, findB]
  clear hl
  go_enter Tryd.func143, Tryd.ntmps143
  go_wp2
  go_ret
  exact ⟨qx (za Hf).symm, rfl⟩
 ·have he : ((B [c]).toList == (B l).toList) = false := by rw [B_tl, B_tl, beq_eq_false_iff_ne]; exact hl
  clear hl
  go_enter Tryd.func143, Tryd.ntmps143
  go_wp2_with fail
  refine (yN l c _).mono ?_
  rintro e w1 ⟨rfl, rfl⟩
  go_wp2
  go_ret
  exact ⟨rfl, rfl⟩
def cutM (c : UInt8) (l : List UInt8) : List UInt8 × List UInt8 × Bool := match findB c l with | some k => (l.take k, l.drop (k + 1), true) | none => (l, [], false)
theorem xT (l : List UInt8) (c : UInt8) (w : World) (hs : l.length ≤ 1000000000) :
  Calls Tryd.prog 130 #[.string (B l), .string (B [c])] w fun e w' => e = .returned (.tuple #[.string (B (cutM c l).1), .string (B (cutM c l).2.1), .bool (cutM c l).2.2]) ∧ Below w.heap.size w w' := by
 have hs1 : (B [c]).size = 1 := rfl
 have hsz : (B l).size ≤ 1000000000 := by rw [zi]; exact hs
 have hix := fun w => xV l c w
 unfold cutM
 cases hf : findB c l with
 | none =>
  have hi : findI c l = -1 := by unfold findI; rw [hf]
  rw [hi] at hix
  have Hix := hide hix
  clear hix hi hf
  go_enter Tryd.func130, Tryd.ntmps130
  go_wp2_with fail
  refine (za Hix _).mono ?_
  rintro e w1 ⟨rfl, rfl⟩
  go_wp2
  go_ret3
  exact ⟨rfl, Below.refl _ _⟩
 | some k =>
  have hk := zY hf
  have hi : findI c l = k := by unfold findI; rw [hf]
  rw [hi] at hix
  have Hix := hide hix
  have hk2 : k < (B l).size := by rw [zi]; exact hk
  clear hix hi hf
  have c1 : (0 : Int) ≤ ↑k := by omega
  have c2 : (↑k : Int) ≤ ↑(B l).size := by omega
  have c3 : (0 : Int) ≤ ↑k + ↑(B [c]).size := by omega
  have c4 : (↑k + ↑(B [c]).size : Int) ≤ ↑(B l).size := by omega
  have c5 : (0 : Int) ≤ ↑k + 1 := by omega
  have c6 : (↑k + 1 : Int) ≤ ↑(B l).size := by omega
  have w1 := wi64 ((k : Int) + 1) (by omega) (by omega)
  go_enter Tryd.func130, Tryd.ntmps130
  go_wp2_with fail
  refine (za Hix _).mono ?_
  rintro e w1 ⟨rfl, rfl⟩
  go_wp2
  go_region
  go_wp2
  go_ret3
  have e1 : (B l).extract 0 k = B (l.take k) := by rw [zA]; rfl
  have e2 : (B l).extract (k + 1) (B l).size = B (l.drop (k + 1)) := by rw [zA, zi, List.take_length]
  rw [← e1, ← e2]
  exact ⟨rfl, (Below.refl _ _).drew⟩
theorem cut_c (l : List UInt8) (c : UInt8) (w : World) (hs : l.length ≤ 1000000000) :
  Calls Tryd.prog 91 #[.string (B l), .string (B [c])] w fun e w' => e = .returned (.tuple #[.string (B (cutM c l).1), .string (B (cutM c l).2.1), .bool (cutM c l).2.2]) ∧ Below w.heap.size w w' := by
 go_enter Tryd.func91, Tryd.ntmps91
 go_wp2_with fail
 refine (xT l c _ hs).mono ?_
 rintro e w1 ⟨rfl, hb1⟩
 go_wp2
 go_ret3
 exact ⟨rfl, hb1⟩
theorem ko (l : List UInt8) (c : UInt8) (w : World) :
  Calls Tryd.prog 90 #[.string (B l), .string (B [c])] w fun e w' => e = .returned (.bool (l.head? == some c)) ∧ w' = w := by
 have hs1 : (B [c]).size = 1 := rfl
 cases l with
 | nil =>
  have hz : (B []).size = 0 := rfl
  go_enter Tryd.func90, Tryd.ntmps90
  go_wp2
  go_ret
  exact ⟨rfl, rfl⟩
 | cons d r =>
  have hz : (B (d :: r)).size = r.length + 1 := by rw [zi]; rfl
  have he : (((B (d :: r)).extract 0 1).toList == (B [c]).toList) = ((d :: r).head? == some c) := by
   rw [zA, B_tl, B_tl]; simp
  go_enter Tryd.func90, Tryd.ntmps90
  go_wp2
  go_ret
  exact ⟨zl (by simp), rfl⟩
theorem ji (l : List UInt8) (c : UInt8) (w : World) :
  Calls Tryd.prog 39 #[.string (B l), .string (B [c])] w fun e w' => e = .returned (.bool (l.head? == some c)) ∧ w' = w := by
 go_enter Tryd.func39, Tryd.ntmps39
 go_wp2_with fail
 refine (ko l c _).mono ?_
 rintro e w1 ⟨rfl, rfl⟩
 go_wp2
 go_ret
 exact ⟨rfl, rfl⟩
theorem qJ (r : Int) (w : World) :
  Calls Tryd.prog 38 #[.int .i64 r] w fun e w' => e = .returned (.bool (zn r)) ∧ w' = w := by
 unfold zn
 by_cases h2 : (r == 2) = true
 ·go_enter Tryd.func38, Tryd.ntmps38
  go_wp2
  go_ret
  exact ⟨zl (by simp [h2]), rfl⟩
 ·have h2' : (r == 2) = false := by simpa using h2
  clear h2
  by_cases h8 : (r == 8) = true
  ·go_enter Tryd.func38, Tryd.ntmps38
   go_wp2
   go_ret
   exact ⟨zl (by simp [h8, h2']), rfl⟩
  ·have h8' : (r == 8) = false := by simpa using h8
   clear h8
   by_cases h10 : (r == 10) = true
   ·go_enter Tryd.func38, Tryd.ntmps38
    go_wp2
    go_ret
    exact ⟨zl (by simp [h8', h2', h10]), rfl⟩
   ·have h10' : (r == 10) = false := by simpa using h10
    clear h10
    by_cases h16 : (r == 16) = true
    ·go_enter Tryd.func38, Tryd.ntmps38
     go_wp2
     go_ret
     exact ⟨zl (by simp [h8', h2', h10', h16]), rfl⟩
    ·have h16' : (r == 16) = false := by simpa using h16
     clear h16
     go_enter Tryd.func38, Tryd.ntmps38
     go_wp2
     go_ret
     exact ⟨zl (by simp [h8', h2', h10', h16']), rfl⟩
def digI (x : Int) : Int := if 48 ≤ x ∧ x ≤ 57 then x - 48 else if 97 ≤ x ∧ x ≤ 102 then x - 87 else 99
def digU (x : Int) : Int := if digI x = 99 then 0 else digI x
theorem kN (c : UInt8) : digI (c.toNat : Int) = (digN c : Nat) := by
 unfold digI digN
 by_cases h1 : 48 ≤ c.toNat ∧ c.toNat ≤ 57
 ·rw [if_pos h1, if_pos (by omega)]; omega
 ·rw [if_neg h1, if_neg (by omega)]
  by_cases h2 : 97 ≤ c.toNat ∧ c.toNat ≤ 102
  ·rw [if_pos h2, if_pos (by omega)]; omega
  ·rw [if_neg h2, if_neg (by omega)]; rfl
theorem kK (x : Int) (b : Nat) (w : World) (hb : b ≤ 16) :
  Calls Tryd.prog 131 #[.int .i64 b, .int .i32 x] w fun e w' => e = .returned (.tuple #[.int .u64 (digU x), .bool (decide (digI x < b))]) ∧ w' = w := by
 by_cases h1 : 48 ≤ x ∧ x ≤ 57
 ·have hf : digI x = x - 48 := by unfold digI; rw [if_pos h1]
  have hu : digU x = x - 48 := by unfold digU; rw [hf, if_neg (by omega)]
  rw [hf, hu]
  have e1 : IntKind.wrap .i32 (x - 48) = x - 48 := by rw [IntKind.wrap_i32]; omega
  have e2 := wu64 (x - 48) (by omega) (by omega)
  have e3 := wi64 (x - 48) (by omega) (by omega)
  obtain ⟨h1a, h1b⟩ := h1
  clear hf hu
  go_enter Tryd.func131, Tryd.ntmps131
  go_wp2
  go_ret2
  exact ⟨rfl, rfl⟩
 ·by_cases h2 : 97 ≤ x ∧ x ≤ 102
  ·have hf : digI x = x - 87 := by unfold digI; rw [if_neg h1, if_pos h2]
   have hu : digU x = x - 87 := by unfold digU; rw [hf, if_neg (by omega)]
   rw [hf, hu]
   have e1 : IntKind.wrap .i32 (x - 87) = x - 87 := by rw [IntKind.wrap_i32]; omega
   have e2 := wu64 (x - 87) (by omega) (by omega)
   have e3 := wi64 (x - 87) (by omega) (by omega)
   have a1 : 48 ≤ x := by omega
   have a2 : ¬ x ≤ 57 := by omega
   obtain ⟨h2a, h2b⟩ := h2
   clear hf hu h1
   go_enter Tryd.func131, Tryd.ntmps131
   go_wp2
   go_ret2
   exact ⟨rfl, rfl⟩
  ·have hf : digI x = 99 := by unfold digI; rw [if_neg h1, if_neg h2]
   have hu : digU x = 0 := by unfold digU; rw [hf, if_pos rfl]
   have hd : decide (digI x < b) = false := by rw [hf]; exact decide_eq_false (by omega)
   rw [hd, hu]
   clear hf hu hd
   by_cases a1 : 48 ≤ x
   ·have a2 : ¬ x ≤ 57 := by omega
    by_cases a3 : 97 ≤ x
    ·have a4 : ¬ x ≤ 102 := by omega
     clear h1 h2
     go_enter Tryd.func131, Tryd.ntmps131
     go_wp2
     go_ret2
     exact ⟨rfl, rfl⟩
    ·clear h1 h2
     go_enter Tryd.func131, Tryd.ntmps131
     go_wp2
     go_ret2
     exact ⟨rfl, rfl⟩
   ·have a3 : ¬ 97 ≤ x := by omega
    clear h1 h2
    go_enter Tryd.func131, Tryd.ntmps131
    go_wp2
    go_ret2
    exact ⟨rfl, rfl⟩
theorem xL (l : List UInt8) (pos : Nat) (h : pos < l.length) :
  ((l[pos]).toNat < 128 ∧ Utf8.decode (B l) pos = ((l[pos]).toNat, 1)) ∨ (digN (l[pos]) = 99 ∧ 128 ≤ (Utf8.decode (B l) pos).1) := by
 have h2 : pos < (B l).size := by rw [zi]; exact h
 have hg : ((B l)[pos]'h2) = l[pos]'h := B_get l pos h2
 by_cases ha : (l[pos]).toNat < 128
 ·have := decode_ascii (B l) pos h2 (by rw [hg]; exact ha)
  rw [hg] at this
  exact .inl ⟨ha, this⟩
 ·have := decode_high (B l) pos h2 (by rw [hg]; omega)
  refine .inr ⟨?_, this.1⟩
  unfold digN; rw [if_neg (by omega), if_neg (by omega)]
theorem yv {w : World} {base : Nat} {e : TypeId} {size : Nat} {v : Value} {n : Nat} {xs : List Value} (h : w.ownsRow base e size v n xs) {k : Nat} (hk : k < base) : v.ownBlock ≠ some k := by
 intro hh
 have := (h.lt _ hh).1
 omega
theorem jf (w : World) : isNat (w.alloc (.cells #[] 80)) (.slice (some ⟨w.heap.size, 0, none⟩) 0 0) 0 := by
 unfold isNat
 rw [z7]
 exact ql (World.ownsRow_made w #[] 0 (Nat.le_refl _) (by decide) (by simp)) (Nat.zero_le _)
theorem yy (l : List UInt8) (b : Nat) (w : World) (hb2 : 2 ≤ b) (hb16 : b ≤ 16) (hs : l.length ≤ 10000) :
  Calls Tryd.prog 92 #[.int .i64 b, .string (B l)] w fun e w' => (∃ v', e = .returned (.tuple #[v', .bool (okN b l)]) ∧ isNat w' v' (natV b l)) ∧ Below w.heap.size w w' := by
 go_enter Tryd.func92, Tryd.ntmps92
 go_wp2
 go_loopw [6, 8, 9, 10] (fun v _ _ _ wr => ∃ pos : Nat, pos ≤ l.length ∧ wr.heap[w.heap.size + 1]? = some (.stringIter (B l) pos) ∧ isNat wr v (rdN b (l.take pos)) ∧ v.ownBlock ≠ some (w.heap.size + 1) ∧ Below w.heap.size w wr ∧ w.heap.size + 2 ≤ wr.heap.size ∧ Hid (∀ c ∈ l.take pos, digN c < b))
  (fun _ _ _ _ wr => l.length - wr.iterPos (w.heap.size + 1))
 case atStart =>
  refine ⟨0, Nat.zero_le _, ?_, ?_, ?_, ?_, ?_, hide (by simp)⟩
  ·simpa using World.iter_heap (w.alloc (.cells #[] 80)) (B l) 0
  ·exact zt (jf w) ((Below.refl _ _).alloc (Nat.le_refl _) _)
  ·simp [Value.ownBlock]
  ·exact ((Below.refl _ _).alloc (Nat.le_refl _) _).alloc (by simp) _
  ·simp [World.iter]
 case round =>
  obtain ⟨pos, hpl, hit, hown, hob, hb, hsz, hdg⟩ := hrel
  have hpos0 := iterPos_of hit
  by_cases hlt : pos < l.length
  ·have hlt2 : pos < (B l).size := by rw [zi]; exact hlt
   have hnx := fun ty => Lib.run_next_any_at (P := Tryd.prog) wr (w.heap.size + 1) (B l) pos ty hit hlt2
   have hbad := @yr b l pos hlt
   rcases xL l pos hlt with ⟨h1, h3⟩ | ⟨h1, h2⟩
   ·rw [h3] at hnx
    have hit2 := Lib.iterAt_heap wr (w.heap.size + 1) (B l) pos (pos + 1) hit
    have hb2 := Lib.below_iterAt hb (k := w.heap.size + 1) (by omega) (B l) (pos + 1)
    have hown2 : isNat _ _ _ := vB hown hob (B l) (pos + 1)
    have hpos2 := iterPos_of hit2
    have hsn := vF l pos hlt
    have hlk := kp b (l.take pos) (za hdg)
    rw [List.length_take, Nat.min_eq_left hpl] at hlk
    have hsk := qX hb16 hlk
    have hgk := jJ (n := 2 * pos + 1) hsk
    have hdI := kN (l[pos]'hlt)
    have hsz2 : w.heap.size + 2 ≤ (wr.iterAt (w.heap.size + 1) (B l) (pos + 1)).heap.size := by rw [Lib.iterAt_size]; exact hsz
    obtain ⟨W1, hW1⟩ : ∃ W1, W1 = wr.iterAt (w.heap.size + 1) (B l) (pos + 1) := ⟨_, rfl⟩
    rw [← hW1] at hnx hit2 hb2 hown2 hpos2 hsz2
    have hsnN := congrArg (rdN b) hsn
    rw [jE] at hsnN
    generalize hnn : rdN b (l.take pos) = n at *
    generalize hcc : l[pos]'hlt = c at *
    have hvc := fun w => kK (c.toNat : Int) b w hb16
    rw [hdI] at hvc
    by_cases hge : b ≤ digN c
    ·have Hf := hide (hbad hge)
     rw [decide_eq_false (by omega)] at hvc
     have Hv := hide hvc
     clear hbad hsnN hsn hlk hnn hcc hit hpos0 h3 h1 hW1 hvc hdI
     go_wp2_with fail
     refine (za Hv _).mono ?_
     rintro e w1 ⟨rfl, rfl⟩
     go_wp2
     go_ret2
     refine ⟨⟨.slice (some ⟨w1.heap.size, 0, none⟩) 0 0, by rw [za Hf]; rfl, ?_⟩, hb2.alloc hb2.size _⟩
     unfold natV
     rw [za Hf]
     exact jf w1
    ·have hd16 : digN c < 16 := by omega
     have hdu : digU (c.toNat : Int) = digN c := by unfold digU; rw [hdI, if_neg (by omega)]
     rw [hdu, decide_eq_true (by omega)] at hvc
     have Hv := hide hvc
     have Hit2 := hide hit2
     have Hp0 := hide hpos0
     have Hp2 := hide hpos2
     have Hn := hide hsnN
     have Hdg2 : Hid (∀ x ∈ l.take (pos + 1), digN x < b) := by
      intro x hx
      rw [hsn] at hx
      rcases List.mem_append.1 hx with hx | hx
      ·exact za hdg x hx
      ·simp only [List.mem_singleton] at hx; subst hx; omega
     have e1 := wu64 (b : Int) (by omega) (by omega)
     generalize digN c = d at *
     clear hbad hsnN hsn hlk hnn hcc hit hit2 hpos0 hpos2 h3 h1 hW1 hvc hdI hdu
     go_wp2_with fail
     refine (za Hv _).mono ?_
     rintro e w1 ⟨rfl, rfl⟩
     go_wp2_with fail
     refine (j0 n b d _ _ hown2 (by omega) (by omega) (by omega)).mono ?_
     rintro e w2 ⟨⟨v2, rfl, hv2⟩, hbw⟩
     have hlt3 : w.heap.size + 1 < w1.heap.size := by omega
     have Hit3 : Hid (w2.heap[w.heap.size + 1]? = some (.stringIter (B l) (pos + 1))) := by
      show _ = _
      rw [hbw.block _ hlt3]; exact za Hit2
     have Hp3 := hide (iterPos_of (za Hit3))
     have hob2 := yv hv2 hlt3
     have hbs := hbw.size
     go_wp2
     go_roundw
     case rel => exact ⟨pos + 1, by omega, za Hit3, by rw [za Hn]; exact hv2.nat, hob2, hb2.trans (hbw.mono hb2.size), by omega, Hdg2⟩
     case measure => rw [za Hp0, za Hp3]; omega
   ·have hb2 := Lib.below_iterAt hb (k := w.heap.size + 1) (by omega) (B l) (pos + (Utf8.decode (B l) pos).2)
    have hf := hbad (by omega)
    have Hf := hide hf
    generalize Utf8.decode (B l) pos = rw_ at *
    have hdI : digI (rw_.1 : Int) = 99 := by unfold digI; rw [if_neg (by omega), if_neg (by omega)]
    have hvc := fun w => kK (rw_.1 : Int) b w hb16
    rw [hdI, decide_eq_false (by omega)] at hvc
    have Hv := hide hvc
    clear hbad hf h1 h2 hit hpos0 hdI hvc
    go_wp2_with fail
    refine (za Hv _).mono ?_
    rintro e w1 ⟨rfl, rfl⟩
    go_wp2
    go_ret2
    refine ⟨⟨.slice (some ⟨(wr.iterAt (w.heap.size + 1) (B l) (pos + rw_.2)).heap.size, 0, none⟩) 0 0, by rw [za Hf]; rfl, ?_⟩, hb2.alloc hb2.size _⟩
    unfold natV
    rw [za Hf]
    exact jf _
  ·have hlt2 : ¬ pos < (B l).size := by rw [zi]; exact hlt
   have hnx := fun ty => Lib.run_next_end_at (P := Tryd.prog) wr (w.heap.size + 1) (B l) pos ty hit hlt2
   have htk : l.take pos = l := List.take_of_length_le (by omega)
   rw [htk] at hown
   have hall := za hdg
   rw [htk] at hall
   have hok : okN b l = !l.isEmpty := by
    cases l with
    | nil => rfl
    | cons c r => rw [jB (by simp) hall]; rfl
   have hnv : natV b l = rdN b l := by
    unfold natV
    cases l with
    | nil => simp [rdN]
    | cons c r => rw [if_pos (jB (by simp) hall)]
   have Hok := hide hok
   have Hnv := hide hnv
   clear hok hnv hall htk
   go_wp2
   go_ret2
   refine ⟨⟨u6, ?_, by rw [za Hnv]; exact hown⟩, hb⟩
   show Ending.returned (.tuple #[u6, .bool (!(B l).toList.isEmpty)]) = _
   rw [B_tl, za Hok]
theorem y9 (p : Nat) : gr (10 ^ p) = (List.replicate (p / 9 + 1) 0).set (p / 9) (10 ^ (p % 9)) := by
 have hpow : 10 ^ (p % 9) ≤ 100000000 := by
  have : (10 : Nat) ^ (p % 9) ≤ 10 ^ 8 := Nat.pow_le_pow_right (by omega) (by omega)
  exact this
 have hpos : 10 ^ (p % 9) ≠ 0 := by have := Nat.pow_pos (n := p % 9) (show 0 < 10 by omega); omega
 have hset : (List.replicate (p / 9 + 1) 0).set (p / 9) (10 ^ (p % 9)) = List.replicate (p / 9) 0 ++ [10 ^ (p % 9)] := by
  rw [List.replicate_succ', List.set_append_right _ _ (by simp)]
  simp
 rw [hset]
 have h1 := qD (List.replicate (p / 9) 0) (10 ^ (p % 9)) hpos
 have h2 : ∀ d ∈ List.replicate (p / 9) 0 ++ [10 ^ (p % 9)], d < 1000000000 := by
  intro d hd
  rcases List.mem_append.1 hd with h | h
  ·have := List.eq_of_mem_replicate h; omega
  ·simp only [List.mem_singleton] at h; omega
 have h3 := yL h2
 rw [h1, zD, zN, List.length_replicate, jQ, Nat.zero_add] at h3
 exact h3.symm
theorem yT (p : Nat) (w : World) (hp : p ≤ 10000) (hT : Tens w) :
  Calls Tryd.prog 93 #[.int .i64 p] w fun e w' => (∃ v', e = .returned v' ∧ isNat w' v' (10 ^ p)) ∧ Below w.heap.size w w' := by
 obtain ⟨i0, hi, hz0, hz1, hz2⟩ := info_parts Tryd.infoU64
 obtain ⟨q, hq⟩ : ∃ q, p / 9 = q := ⟨_, rfl⟩
 obtain ⟨r, hr⟩ : ∃ r, p % 9 = r := ⟨_, rfl⟩
 have hG : (p : Int) / 9 + 1 = ((q + 1 : Nat) : Int) := by omega
 have e1 : (p : Int).tdiv 9 = q := by rw [Int.tdiv_eq_ediv_of_nonneg (by omega)]; omega
 have e2 : (p : Int).tmod 9 = r := by rw [Int.tmod_eq_emod_of_nonneg (by omega)]; omega
 have e3 := wi64 (q : Int) (by omega) (by omega)
 have hg := y9 p
 rw [hq, hr] at hg
 obtain ⟨t, ht⟩ : ∃ t, 10 ^ r = t := ⟨_, rfl⟩
 rw [ht] at hg
 have Hg := hide hg
 have HT := hide hT
 clear hg hT
 go_enter Tryd.func93, Tryd.ntmps93
 go_wp2_with (refine wpList_make_full _ rfl (.tmp 6) (.tmp 6) 65 rfl w.heap.size 80 i0 (.int .u64 0) 1 Tryd.underlying65 hi hz0 hz1 .i64 .i64 (q + 1) (q + 1) (q + 1) rfl rfl (by go_num) (by go_num) (by rw [hz2]; omega) (by unfold maxLen; omega) (Nat.le_refl _) ?_; intro w1 hown1 hg1; have hown0 : w1.ownsRow w.heap.size 80 1 (.slice (some ⟨w.heap.size, 0, none⟩) (q + 1) (q + 1)) (q + 1) (u64s (List.replicate (q + 1) 0)) := (by simpa [Value.cells, toList_madeCells_one, qA] using hown1); have hb1 : Below w.heap.size w w1 := (Below.refl _ _).grown hg1 (Nat.le_refl _) (fun _ h => by cases h); have hT2 := ((za HT).belowB hb1 (za HT).lt) r (by omega); rw [ht] at hT2; have hcx : w1.cell? ⟨w.heap.size, q, none⟩ = some (.int .u64 0) := (by have h := hown0.cellAt q (by omega); rw [zr _ _ (by simp)] at h; simpa using h); have hfr := hown0.frozenAt q; have hst2 := hown0.stored q (.int .u64 (t : Int)); rw [z6 _ _ t _ rfl, ← za Hg] at hst2; have Hst2 := hide hst2; clear hst2 hown1 hg1)
 go_ret
 refine ⟨⟨_, rfl, ?_⟩, hb1.setCell (by simp) _⟩
 have h1 := (za Hst2).1
 unfold isNat
 have hl : (gr (10 ^ p)).length = q + 1 := by rw [za Hg]; simp
 rw [hl]
 exact ql h1 (Nat.zero_le _)
def zy (b : Nat) (l : List UInt8) : Nat × Nat × Bool :=
 match findB 47 l with
 | some k => (natV b (l.take k), natV b (l.drop (k + 1)), okN b (l.take k) && okN b (l.drop (k + 1)))
 | none => match findB 46 l with
  | some k => if b = 10 then (natV 10 (l.take k ++ l.drop (k + 1)), 10 ^ (l.drop (k + 1)).length, okN 10 (l.take k ++ l.drop (k + 1))) else (0, 0, false)
  | none => (natV b l, 1, okN b l)
theorem kO {c : UInt8} : ∀ {l : List UInt8} {k : Nat}, findB c l = some k → l[k]? = some c := by
 intro l
 induction l with
 | nil => intro k h; simp [findB] at h
 | cons d r ih =>
  intro k h
  simp only [findB] at h
  split at h
  ·rename_i hd; simp at h; subst h; simp [hd]
  ·cases hr : findB c r with
   | none => rw [hr] at h; simp at h
   | some j => rw [hr] at h; simp at h; subst h; simpa using ih hr
theorem je (neg : Bool) (u : Nat) : zm neg u 0 = none := by simp [zm]
theorem jr (neg : Bool) {b : Nat} (hb : b ≤ 16) (l : List UInt8) : bodyM neg b l = if (zy b l).2.2 then zm neg (zy b l).1 (zy b l).2.1 else none := by
 unfold bodyM zy
 cases h47 : findB 47 l with
 | some k =>
  show overM neg b _ _ = if (okN b _ && okN b _) = true then zm neg (natV b _) (natV b _) else none
  unfold overM
  by_cases h : (okN b (l.take k) && okN b (l.drop (k + 1))) = true
  ·rw [if_pos h, if_pos h]
   simp only [Bool.and_eq_true] at h
   unfold natV
   rw [if_pos h.1, if_pos h.2]
  ·rw [if_neg h, if_neg h]
 | none =>
  cases h46 : findB 46 l with
  | some k =>
   by_cases h10 : b = 10
   ·simp only [h10, if_true]
    unfold qm natV
    by_cases h : okN 10 (l.take k ++ l.drop (k + 1)) = true
    ·rw [if_pos h, if_pos h, if_pos h]
    ·rw [if_neg h, if_neg h]
   ·simp only [h10, if_false]
    unfold zX
    have hlt := zY h46
    have hg := kO h46
    rw [List.getElem?_eq_getElem hlt] at hg
    have hc : l[k] = 46 := by simpa using hg
    rw [yr k hlt (by rw [hc]; show b ≤ 99; omega)]
    rfl
  | none =>
   show zX neg b l = if okN b l = true then zm neg (natV b l) 1 else none
   unfold zX natV
   by_cases h : okN b l = true
   ·rw [if_pos h, if_pos h, if_pos h]
   ·rw [if_neg h, if_neg h]
theorem jj (l : List UInt8) (b : Nat) (w : World) (hb2 : 2 ≤ b) (hb16 : b ≤ 16) (hs : l.length ≤ 1000) (hT : Tens w) :
  Calls Tryd.prog 40 #[.int .i64 b, .string (B l)] w fun e w' => (∃ vu vd, e = .returned (.tuple #[vu, vd, .bool (zy b l).2.2]) ∧ isNat w' vu (zy b l).1 ∧ isNat w' vd (zy b l).2.1) ∧ Below w.heap.size w w' := by
 have HT := hide hT
 clear hT
 have hc := fun w => cut_c l 47 w (by omega)
 unfold cutM at hc
 unfold zy
 cases h47 : findB 47 l with
 | some k =>
  rw [h47] at hc
  dsimp only at hc
  have Hc := hide hc
  have hl1 : (l.take k).length ≤ 10000 := by rw [List.length_take]; omega
  have hl2 : (l.drop (k + 1)).length ≤ 10000 := by rw [List.length_drop]; omega
  dsimp only
  generalize l.take k = x at *
  generalize l.drop (k + 1) = y at *
  clear hc h47
  go_enter Tryd.func40, Tryd.ntmps40
  go_wp2_with fail
  refine (za Hc _).mono ?_
  rintro e w1 ⟨rfl, hb1⟩
  go_wp2_with fail
  have h := yy x b w1 hb2 hb16 hl1
  refine h.mono ?_
  clear h
  rintro e w2 ⟨⟨v2, rfl, hv2⟩, hbb2⟩
  clear Hc
  have hb2w := hb1.trans (hbb2.mono hb1.size)
  have Hv2 := hide hv2
  clear hv2
  go_wp2_with fail
  have h := yy y b w2 hb2 hb16 hl2
  refine h.mono ?_
  clear h
  rintro e w3 ⟨⟨v3, rfl, hv3⟩, hbb3⟩
  have hb3w := hb2w.trans (hbb3.mono hb2w.size)
  have Hv3 := hide hv3
  have Hv2' := hide (zp (za Hv2) hbb3)
  clear hv3
  cases hx : okN b x with
  | true =>
   go_wp2
   go_ret3
   exact ⟨⟨v2, v3, by rw [hx]; rfl, za Hv2', za Hv3⟩, hb3w⟩
  | false =>
   go_wp2
   go_ret3
   exact ⟨⟨v2, v3, by rw [hx]; rfl, za Hv2', za Hv3⟩, hb3w⟩
 | none =>
  rw [h47] at hc
  have Hc := hide hc
  have hc2 := fun w => cut_c l 46 w (by omega)
  unfold cutM at hc2
  cases h46 : findB 46 l with
  | some k =>
   rw [h46] at hc2
   dsimp only at hc hc2
   have Hc2 := hide hc2
   by_cases h10 : b = 10
   ·subst h10
    have hl1 : (l.take k ++ l.drop (k + 1)).length ≤ 10000 := by rw [List.length_append, List.length_take, List.length_drop]; omega
    have hly : (l.drop (k + 1)).length ≤ 1000 := by rw [List.length_drop]; omega
    have hlx : (l.take k).length ≤ 1000 := by rw [List.length_take]; omega
    dsimp only
    rw [if_pos rfl]
    generalize l.take k = x at *
    generalize l.drop (k + 1) = y at *
    have hap := zu x y
    have hszx : ¬ 9223372036854775807 < (B x).size + (B y).size := by rw [zi, zi]; omega
    have hszy : ((B y).size : Int) = (y.length : Int) := by rw [zi]
    clear hc hc2 h47 h46
    go_enter Tryd.func40, Tryd.ntmps40
    go_wp2_with fail
    refine (za Hc _).mono ?_
    rintro e w1 ⟨rfl, hb1⟩
    go_wp2_with fail
    refine (za Hc2 _).mono ?_
    rintro e w2 ⟨rfl, hbb2⟩
    have hb2w := hb1.trans (hbb2.mono hb1.size)
    clear Hc Hc2 hbb2
    go_wp2_with fail
    have h := yy (x ++ y) 10 w2 (by omega) (by omega) hl1
    refine h.mono ?_
    clear h
    rintro e w3 ⟨⟨v3, rfl, hv3⟩, hbb3⟩
    have hb3w := hb2w.trans (hbb3.mono hb2w.size)
    have Hv3 := hide hv3
    clear hv3
    go_wp2_with fail
    have h := yT y.length w3 (by omega) ((za HT).below hb3w)
    refine h.mono ?_
    clear h
    rintro e w4 ⟨⟨v4, rfl, hv4⟩, hbb4⟩
    have hb4w := hb3w.trans (hbb4.mono hb3w.size)
    have Hv4 := hide hv4
    have Hv3' := hide (zp (za Hv3) hbb4)
    clear hv4
    go_wp2
    go_ret3
    exact ⟨⟨v3, v4, rfl, za Hv3', za Hv4⟩, hb4w⟩
   ·have hnb : ((b : Int) == 10) = false := by rw [beq_eq_false_iff_ne]; omega
    dsimp only
    rw [if_neg h10]
    generalize l.take k = x at *
    generalize l.drop (k + 1) = y at *
    clear hc hc2 h47 h46
    go_enter Tryd.func40, Tryd.ntmps40
    go_wp2_with fail
    refine (za Hc _).mono ?_
    rintro e w1 ⟨rfl, hb1⟩
    go_wp2_with fail
    refine (za Hc2 _).mono ?_
    rintro e w2 ⟨rfl, hbb2⟩
    have hb2w := hb1.trans (hbb2.mono hb1.size)
    clear Hc Hc2 hbb2
    go_wp2
    go_ret3
    refine ⟨⟨.slice (some ⟨w2.heap.size, 0, none⟩) 0 0, .slice (some ⟨w2.heap.size + 1, 0, none⟩) 0 0, rfl, ?_, ?_⟩, ?_⟩
    ·exact zp (jf w2) ((Below.refl _ _).alloc (Nat.le_refl _) _)
    ·have h := jf (w2.alloc (.cells #[] 80))
     simpa using h
    ·exact (hb2w.alloc hb2w.size _).alloc (by have := hb2w.size; simp; omega) _
  | none =>
   rw [h46] at hc2
   dsimp only at hc hc2
   have Hc2 := hide hc2
   have hap : B l ++ B [] = B l := by rw [zu, List.append_nil]
   have hszx : ¬ 9223372036854775807 < (B l).size + (B []).size := by rw [zi, zi]; simp; omega
   have hszy : ((B []).size : Int) = ((0 : Nat) : Int) := rfl
   clear hc hc2 h47 h46
   go_enter Tryd.func40, Tryd.ntmps40
   go_wp2_with fail
   refine (za Hc _).mono ?_
   rintro e w1 ⟨rfl, hb1⟩
   go_wp2_with fail
   refine (za Hc2 _).mono ?_
   rintro e w2 ⟨rfl, hbb2⟩
   have hb2w := hb1.trans (hbb2.mono hb1.size)
   clear Hc Hc2 hbb2
   go_wp2_with fail
   have h := yy l b w2 (by omega) (by omega) (by omega)
   refine h.mono ?_
   clear h
   rintro e w3 ⟨⟨v3, rfl, hv3⟩, hbb3⟩
   have hb3w := hb2w.trans (hbb3.mono hb2w.size)
   have Hv3 := hide hv3
   clear hv3
   go_wp2_with fail
   have h := yT 0 w3 (by omega) ((za HT).below hb3w)
   refine h.mono ?_
   clear h
   rintro e w4 ⟨⟨v4, rfl, hv4⟩, hbb4⟩
   have hb4w := hb3w.trans (hbb4.mono hb3w.size)
   have Hv4 := hide hv4
   have Hv3' := hide (zp (za Hv3) hbb4)
   clear hv4
   go_wp2
   go_ret3
   exact ⟨⟨v3, v4, rfl, za Hv3', za Hv4⟩, hb4w⟩
theorem j8 {b : Nat} (hb : b ≤ 16) (l : List UInt8) : (gr (natV b l)).length ≤ 2 * l.length + 1 := by
 unfold natV
 by_cases h : okN b l = true
 ·rw [if_pos h]; exact jJ (qw hb h)
 ·rw [if_neg h, z7]; simp
theorem vC {b : Nat} (hb : b ≤ 16) (l : List UInt8) (hl : l.length ≤ 240) : (gr (zy b l).1).length ≤ 1000 ∧ (gr (zy b l).2.1).length ≤ 1000 := by
 unfold zy
 cases h47 : findB 47 l with
 | some k =>
  dsimp only
  refine ⟨Nat.le_trans (j8 hb _) ?_, Nat.le_trans (j8 hb _) ?_⟩
  ·rw [List.length_take]; omega
  ·rw [List.length_drop]; omega
 | none =>
  cases h46 : findB 46 l with
  | some k =>
   dsimp only
   by_cases h10 : b = 10
   ·rw [if_pos h10]
    refine ⟨Nat.le_trans (j8 (by omega) _) ?_, ?_⟩
    ·rw [List.length_append, List.length_take, List.length_drop]; omega
    ·rw [y9, List.length_set, List.length_replicate, List.length_drop]; omega
   ·rw [if_neg h10, z7]; simp
  | none =>
   dsimp only
   refine ⟨Nat.le_trans (j8 hb _) (by omega), ?_⟩
   have := y9 0
   rw [Nat.pow_zero] at this
   rw [this, List.length_set, List.length_replicate]; omega
theorem qI (l : List UInt8) (b : Nat) (w : World) (hb4 : b = 2 ∨ b = 8 ∨ b = 10 ∨ b = 16) (hl : l.length ≤ 240) (h45 : (l.head? == some 45) = false) (h43 : (l.head? == some 43) = false) (hT : Tens w) :
  Calls Tryd.prog 7 #[.string (B l), .int .i64 b] w fun e w' => e = .returned (zd (zk l b)) ∧ Below w.heap.size w w' := by
 have hr : zn (b : Int) = true := by rcases hb4 with rfl | rfl | rfl | rfl <;> rfl
 have Hm : Hid (zk l (b : Int) = bodyM false b l) := by
  show _ = _
  rw [qh l b hb4 hl]
  cases l with
  | nil => rfl
  | cons c t =>
   show (if c = 45 then bodyM true b t else if c = 43 then bodyM false b t else bodyM false b (c :: t)) = _
   rw [if_neg (by simpa using h45), if_neg (by simpa using h43)]
 have hsz : ¬ (240 : Int) < ((B l).size : Int) := by rw [zi]; omega
 have h1 := fun w => qJ (b : Int) w
 have h2 := fun w => ji l 45 w
 have h3 := fun w => ji l 43 w
 rw [hr] at h1
 rw [h45] at h2
 rw [h43] at h3
 have H1 := hide h1
 have H2 := hide h2
 have H3 := hide h3
 have HT := hide hT
 clear h1 h2 h3 hT hr h45 h43
 go_enter Tryd.func7, Tryd.ntmps7
 go_wp2_with fail
 refine (za H1 _).mono ?_
 rintro e w1 ⟨rfl, rfl⟩
 go_wp2_with fail
 refine (za H2 _).mono ?_
 rintro e w1 ⟨rfl, rfl⟩
 go_wp2_with fail
 refine (za H3 _).mono ?_
 rintro e w1 ⟨rfl, rfl⟩
 clear H1 H2 H3
 have Hpb : Hid (zk l (b : Int) = if (zy b l).2.2 then zm false (zy b l).1 (zy b l).2.1 else none) := hide ((za Hm).trans (jr false (by omega) l))
 have hgs := vC (b := b) (by omega) l (by omega)
 clear Hm
 go_wp2_with fail
 have h := jj l b (w.alloc (.cells #[.bool false, .string ⟨#[]⟩, .string ⟨#[]⟩] 26)) (by omega) (by omega) (by omega) ((za HT).below ((Below.refl _ _).alloc (Nat.le_refl _) _))
 refine h.mono ?_
 clear h
 rintro e w2 ⟨⟨vu, vd, rfl, hvu, hvd⟩, hb2⟩
 have hb0 := zg hb2
 have hz0 : w.heap.size + 1 ≤ w2.heap.size := by have := hb2.size; simpa using this
 have HT2 := hide ((za HT).below (zf hb0))
 generalize (zy b l).1 = pu at *
 generalize (zy b l).2.1 = pd at *
 generalize (zy b l).2.2 = po at *
 obtain ⟨pp, cp, hvs⟩ := zx hvd
 subst hvs
 have Hvu := hide hvu
 have Hvd := hide hvd
 clear hvu hvd hb2
 cases po with
 | false =>
  have c0 := zb hb0 0
  have c1 := zb hb0 1
  have c2 := zb hb0 2
  have f0 := zc hb0 0
  have f1 := zc hb0 1
  have f2 := zc hb0 2
  have hbX := zf hb0
  simp at c0 c1 c2
  clear hb0
  go_wp2
  refine bodyPost_ret (v := zd none) (by simp [results, Tryd.results7, go_sem, zd, numO, noNum, numV, c0, c1, c2]) rfl ⟨by rw [za Hpb]; rfl, ?_⟩
  exact zh hbX _ (Nat.le_refl _) _ _ _
 | true =>
  by_cases hd : pd = 0
  ·have hl0 : (((gr pd).length : Int) == 0) = true := by rw [hd, z7]; rfl
   have Hf : Hid (zk l (b : Int) = none) := by show _ = _; rw [za Hpb, hd, if_pos rfl, je]
   clear hd
   have c0 := zb hb0 0
   have c1 := zb hb0 1
   have c2 := zb hb0 2
   have f0 := zc hb0 0
   have f1 := zc hb0 1
   have f2 := zc hb0 2
   have hbX := zf hb0
   simp at c0 c1 c2
   clear hb0
   go_wp2
   refine bodyPost_ret (v := zd none) (by simp [results, Tryd.results7, go_sem, zd, numO, noNum, numV, c0, c1, c2]) rfl ⟨by rw [za Hf], ?_⟩
   exact zh hbX _ (Nat.le_refl _) _ _ _
  ·have hl0 : (((gr pd).length : Int) == 0) = false := by rw [beq_eq_false_iff_ne]; have := mt qZ.1 hd; omega
   have Hov2 : Hid (zk l (b : Int) = zm false pu pd) := by show _ = _; rw [za Hpb, if_pos rfl]
   have hdp : 0 < pd := by omega
   clear hd
   go_wp2_with fail
   have h := jg false pu pd vu _ w2 (za Hvu) (za Hvd) hdp (by omega) (by omega) (za HT2)
   refine h.mono ?_
   clear h
   rintro e w3 ⟨rfl, hb3⟩
   have hn3 := ze hb0 hz0 hb3
   have c0 := zb hn3.1 0
   have c1 := zb hn3.1 1
   have c2 := zb hn3.1 2
   have f0 := zc hn3.1 0
   have f1 := zc hn3.1 1
   have f2 := zc hn3.1 2
   have hbX := zf hn3.1
   simp at c0 c1 c2
   clear hb3 hb0 hn3 hl0 hdp
   generalize zm false pu pd = o at *
   unfold zd
   obtain ⟨n3, u3, d3, ho⟩ : ∃ n3 u3 d3, numO o = numV n3 u3 d3 := by
    cases o with
    | none => exact ⟨_, _, _, rfl⟩
    | some p => exact ⟨_, _, _, rfl⟩
   have Ho := hide ho
   rw [ho]
   unfold numV
   clear ho
   go_wp2
   refine bodyPost_ret (v := zd o) (by simp [results, Tryd.results7, go_sem, zd, za Ho, numV, c0, c1, c2]) rfl ⟨by rw [za Hov2], ?_⟩
   exact zh hbX _ (Nat.le_refl _) _ _ _
theorem js (t : List UInt8) (b : Nat) (w : World) (hb4 : b = 2 ∨ b = 8 ∨ b = 10 ∨ b = 16) (hlen : (45 :: t).length ≤ 240) (hT : Tens w) :
  Calls Tryd.prog 7 #[.string (B (45 :: t)), .int .i64 b] w fun e w' => e = .returned (zd (zk (45 :: t) b)) ∧ Below w.heap.size w w' := by
 have hr : zn (b : Int) = true := by rcases hb4 with rfl | rfl | rfl | rfl <;> rfl
 obtain ⟨l, hl⟩ : ∃ l : List UInt8, l = 45 :: t := ⟨_, rfl⟩
 rw [← hl]
 rw [← hl] at hlen
 have Hm : Hid (zk l (b : Int) = bodyM true b t) := by
  show _ = _
  rw [qh l b hb4 hlen, hl]
  rfl
 have htl : t.length ≤ 240 := by rw [hl] at hlen; simp at hlen; omega
 have hsz : ¬ (240 : Int) < ((B l).size : Int) := by rw [zi]; omega
 have hcut : (B l).extract 1 (B l).size = B t := by rw [zA, zi, List.take_length, hl]; rfl
 have hszp : (1 : Int) ≤ ((B l).size : Int) := by rw [zi, hl]; simp; omega
 have h1 := fun w => qJ (b : Int) w
 have h2 := fun w => ji l 45 w
 rw [hr] at h1
 rw [show (l.head? == some 45) = true from by rw [hl]; rfl] at h2
 have H1 := hide h1
 have H2 := hide h2
 have HT := hide hT
 clear h1 h2  hT hr hl
 go_enter Tryd.func7, Tryd.ntmps7
 go_wp2_with fail
 refine (za H1 _).mono ?_
 rintro e w1 ⟨rfl, rfl⟩
 go_wp2_with fail
 refine (za H2 _).mono ?_
 rintro e w1 ⟨rfl, rfl⟩
 clear H1 H2
 have Hpb : Hid (zk l (b : Int) = if (zy b t).2.2 then zm true (zy b t).1 (zy b t).2.1 else none) := hide ((za Hm).trans (jr true (by omega) t))
 have hgs := vC (b := b) (by omega) t (by omega)
 clear Hm
 go_wp2_with fail
 have h := jj t b (w.alloc (.cells #[.bool false, .string ⟨#[]⟩, .string ⟨#[]⟩] 26)) (by omega) (by omega) (by omega) ((za HT).below ((Below.refl _ _).alloc (Nat.le_refl _) _))
 refine h.mono ?_
 clear h
 rintro e w2 ⟨⟨vu, vd, rfl, hvu, hvd⟩, hb2⟩
 have hb0 := zg hb2
 have hz0 : w.heap.size + 1 ≤ w2.heap.size := by have := hb2.size; simpa using this
 have HT2 := hide ((za HT).below (zf hb0))
 generalize (zy b t).1 = pu at *
 generalize (zy b t).2.1 = pd at *
 generalize (zy b t).2.2 = po at *
 obtain ⟨pp, cp, hvs⟩ := zx hvd
 subst hvs
 have Hvu := hide hvu
 have Hvd := hide hvd
 clear hvu hvd hb2
 cases po with
 | false =>
  have c0 := zb hb0 0
  have c1 := zb hb0 1
  have c2 := zb hb0 2
  have f0 := zc hb0 0
  have f1 := zc hb0 1
  have f2 := zc hb0 2
  have hbX := zf hb0
  simp at c0 c1 c2
  clear hb0
  go_wp2
  refine bodyPost_ret (v := zd none) (by simp [results, Tryd.results7, go_sem, zd, numO, noNum, numV, c0, c1, c2]) rfl ⟨by rw [za Hpb]; rfl, ?_⟩
  exact zh hbX _ (Nat.le_refl _) _ _ _
 | true =>
  by_cases hd : pd = 0
  ·have hl0 : (((gr pd).length : Int) == 0) = true := by rw [hd, z7]; rfl
   have Hf : Hid (zk l (b : Int) = none) := by show _ = _; rw [za Hpb, hd, if_pos rfl, je]
   clear hd
   have c0 := zb hb0 0
   have c1 := zb hb0 1
   have c2 := zb hb0 2
   have f0 := zc hb0 0
   have f1 := zc hb0 1
   have f2 := zc hb0 2
   have hbX := zf hb0
   simp at c0 c1 c2
   clear hb0
   go_wp2
   refine bodyPost_ret (v := zd none) (by simp [results, Tryd.results7, go_sem, zd, numO, noNum, numV, c0, c1, c2]) rfl ⟨by rw [za Hf], ?_⟩
   exact zh hbX _ (Nat.le_refl _) _ _ _
  ·have hl0 : (((gr pd).length : Int) == 0) = false := by rw [beq_eq_false_iff_ne]; have := mt qZ.1 hd; omega
   have Hov2 : Hid (zk l (b : Int) = zm true pu pd) := by show _ = _; rw [za Hpb, if_pos rfl]
   have hdp : 0 < pd := by omega
   clear hd
   go_wp2_with fail
   have h := jg true pu pd vu _ w2 (za Hvu) (za Hvd) hdp (by omega) (by omega) (za HT2)
   refine h.mono ?_
   clear h
   rintro e w3 ⟨rfl, hb3⟩
   have hn3 := ze hb0 hz0 hb3
   have c0 := zb hn3.1 0
   have c1 := zb hn3.1 1
   have c2 := zb hn3.1 2
   have f0 := zc hn3.1 0
   have f1 := zc hn3.1 1
   have f2 := zc hn3.1 2
   have hbX := zf hn3.1
   simp at c0 c1 c2
   clear hb3 hb0 hn3 hl0 hdp
   generalize zm true pu pd = o at *
   unfold zd
   obtain ⟨n3, u3, d3, ho⟩ : ∃ n3 u3 d3, numO o = numV n3 u3 d3 := by
    cases o with
    | none => exact ⟨_, _, _, rfl⟩
    | some p => exact ⟨_, _, _, rfl⟩
   have Ho := hide ho
   rw [ho]
   unfold numV
   clear ho
   go_wp2
   refine bodyPost_ret (v := zd o) (by simp [results, Tryd.results7, go_sem, zd, za Ho, numV, c0, c1, c2]) rfl ⟨by rw [za Hov2], ?_⟩
   exact zh hbX _ (Nat.le_refl _) _ _ _
theorem jy (t : List UInt8) (b : Nat) (w : World) (hb4 : b = 2 ∨ b = 8 ∨ b = 10 ∨ b = 16) (hlen : (43 :: t).length ≤ 240) (hT : Tens w) :
  Calls Tryd.prog 7 #[.string (B (43 :: t)), .int .i64 b] w fun e w' => e = .returned (zd (zk (43 :: t) b)) ∧ Below w.heap.size w w' := by
 have hr : zn (b : Int) = true := by rcases hb4 with rfl | rfl | rfl | rfl <;> rfl
 obtain ⟨l, hl⟩ : ∃ l : List UInt8, l = 43 :: t := ⟨_, rfl⟩
 rw [← hl]
 rw [← hl] at hlen
 have Hm : Hid (zk l (b : Int) = bodyM false b t) := by
  show _ = _
  rw [qh l b hb4 hlen, hl]
  rfl
 have htl : t.length ≤ 240 := by rw [hl] at hlen; simp at hlen; omega
 have hsz : ¬ (240 : Int) < ((B l).size : Int) := by rw [zi]; omega
 have hcut : (B l).extract 1 (B l).size = B t := by rw [zA, zi, List.take_length, hl]; rfl
 have hszp : (1 : Int) ≤ ((B l).size : Int) := by rw [zi, hl]; simp; omega
 have h1 := fun w => qJ (b : Int) w
 have h2 := fun w => ji l 45 w
 have h3 := fun w => ji l 43 w
 rw [hr] at h1
 rw [show (l.head? == some 45) = false from by rw [hl]; rfl] at h2
 rw [show (l.head? == some 43) = true from by rw [hl]; rfl] at h3
 have H1 := hide h1
 have H2 := hide h2
 have H3 := hide h3
 have HT := hide hT
 clear h1 h2 h3 hT hr hl
 go_enter Tryd.func7, Tryd.ntmps7
 go_wp2_with fail
 refine (za H1 _).mono ?_
 rintro e w1 ⟨rfl, rfl⟩
 go_wp2_with fail
 refine (za H2 _).mono ?_
 rintro e w1 ⟨rfl, rfl⟩
 go_wp2_with fail
 refine (za H3 _).mono ?_
 rintro e w1 ⟨rfl, rfl⟩
 clear H1 H2 H3
 have Hpb : Hid (zk l (b : Int) = if (zy b t).2.2 then zm false (zy b t).1 (zy b t).2.1 else none) := hide ((za Hm).trans (jr false (by omega) t))
 have hgs := vC (b := b) (by omega) t (by omega)
 clear Hm
 go_wp2_with fail
 have h := jj t b (w.alloc (.cells #[.bool false, .string ⟨#[]⟩, .string ⟨#[]⟩] 26)) (by omega) (by omega) (by omega) ((za HT).below ((Below.refl _ _).alloc (Nat.le_refl _) _))
 refine h.mono ?_
 clear h
 rintro e w2 ⟨⟨vu, vd, rfl, hvu, hvd⟩, hb2⟩
 have hb0 := zg hb2
 have hz0 : w.heap.size + 1 ≤ w2.heap.size := by have := hb2.size; simpa using this
 have HT2 := hide ((za HT).below (zf hb0))
 generalize (zy b t).1 = pu at *
 generalize (zy b t).2.1 = pd at *
 generalize (zy b t).2.2 = po at *
 obtain ⟨pp, cp, hvs⟩ := zx hvd
 subst hvs
 have Hvu := hide hvu
 have Hvd := hide hvd
 clear hvu hvd hb2
 cases po with
 | false =>
  have c0 := zb hb0 0
  have c1 := zb hb0 1
  have c2 := zb hb0 2
  have f0 := zc hb0 0
  have f1 := zc hb0 1
  have f2 := zc hb0 2
  have hbX := zf hb0
  simp at c0 c1 c2
  clear hb0
  go_wp2
  refine bodyPost_ret (v := zd none) (by simp [results, Tryd.results7, go_sem, zd, numO, noNum, numV, c0, c1, c2]) rfl ⟨by rw [za Hpb]; rfl, ?_⟩
  exact zh hbX _ (Nat.le_refl _) _ _ _
 | true =>
  by_cases hd : pd = 0
  ·have hl0 : (((gr pd).length : Int) == 0) = true := by rw [hd, z7]; rfl
   have Hf : Hid (zk l (b : Int) = none) := by show _ = _; rw [za Hpb, hd, if_pos rfl, je]
   clear hd
   have c0 := zb hb0 0
   have c1 := zb hb0 1
   have c2 := zb hb0 2
   have f0 := zc hb0 0
   have f1 := zc hb0 1
   have f2 := zc hb0 2
   have hbX := zf hb0
   simp at c0 c1 c2
   clear hb0
   go_wp2
   refine bodyPost_ret (v := zd none) (by simp [results, Tryd.results7, go_sem, zd, numO, noNum, numV, c0, c1, c2]) rfl ⟨by rw [za Hf], ?_⟩
   exact zh hbX _ (Nat.le_refl _) _ _ _
  ·have hl0 : (((gr pd).length : Int) == 0) = false := by rw [beq_eq_false_iff_ne]; have := mt qZ.1 hd; omega
   have Hov2 : Hid (zk l (b : Int) = zm false pu pd) := by show _ = _; rw [za Hpb, if_pos rfl]
   have hdp : 0 < pd := by omega
   clear hd
   go_wp2_with fail
   have h := jg false pu pd vu _ w2 (za Hvu) (za Hvd) hdp (by omega) (by omega) (za HT2)
   refine h.mono ?_
   clear h
   rintro e w3 ⟨rfl, hb3⟩
   have hn3 := ze hb0 hz0 hb3
   have c0 := zb hn3.1 0
   have c1 := zb hn3.1 1
   have c2 := zb hn3.1 2
   have f0 := zc hn3.1 0
   have f1 := zc hn3.1 1
   have f2 := zc hn3.1 2
   have hbX := zf hn3.1
   simp at c0 c1 c2
   clear hb3 hb0 hn3 hl0 hdp
   generalize zm false pu pd = o at *
   unfold zd
   obtain ⟨n3, u3, d3, ho⟩ : ∃ n3 u3 d3, numO o = numV n3 u3 d3 := by
    cases o with
    | none => exact ⟨_, _, _, rfl⟩
    | some p => exact ⟨_, _, _, rfl⟩
   have Ho := hide ho
   rw [ho]
   unfold numV
   clear ho
   go_wp2
   refine bodyPost_ret (v := zd o) (by simp [results, Tryd.results7, go_sem, zd, za Ho, numV, c0, c1, c2]) rfl ⟨by rw [za Hov2], ?_⟩
   exact zh hbX _ (Nat.le_refl _) _ _ _
theorem j2 (l : List UInt8) (r : Int) (w : World) (hs : l.length ≤ 1000000000) (h : zn r = false ∨ 240 < l.length) :
  Calls Tryd.prog 7 #[.string (B l), .int .i64 r] w fun e w' => e = .returned (zd (zk l r)) ∧ Below w.heap.size w w' := by
 rw [jP l r h]
 have hsz : (B l).size ≤ 1000000000 := by rw [zi]; exact hs
 by_cases hr : zn r = false
 ·clear h
  go_enter Tryd.func7, Tryd.ntmps7
  go_wp2_with fail
  refine (qJ r _).mono ?_
  rintro e w1 ⟨rfl, rfl⟩
  rw [hr]
  go_wp2
  refine bodyPost_ret (v := zd none) (by simp [results, Tryd.results7, go_sem, zd, numO, noNum, numV]) rfl ⟨rfl, ?_⟩
  exact (Below.refl _ _).alloc (Nat.le_refl _) _
 ·have hr' : zn r = true := by simpa using hr
  have hl : (240 : Int) < ((B l).size : Int) := by rw [zi]; rcases h with h | h; exact absurd h hr; omega
  clear h hr
  go_enter Tryd.func7, Tryd.ntmps7
  go_wp2_with fail
  refine (qJ r _).mono ?_
  rintro e w1 ⟨rfl, rfl⟩
  rw [hr']
  go_wp2
  refine bodyPost_ret (v := zd none) (by simp [results, Tryd.results7, go_sem, zd, numO, noNum, numV]) rfl ⟨rfl, ?_⟩
  exact (Below.refl _ _).alloc (Nat.le_refl _) _
theorem jc (l : List UInt8) (r : Int) (w : World) (hs : l.length ≤ 1000000000) (hT : Tens w) :
  Calls Tryd.prog 7 #[.string (B l), .int .i64 r] w fun e w' => e = .returned (zd (zk l r)) ∧ Below w.heap.size w w' := by
 by_cases h : zn r = false ∨ 240 < l.length
 ·exact j2 l r w hs h
 ·have hr : zn r = true := by
   cases hh : zn r with
   | true => rfl
   | false => exact absurd (.inl hh) h
  have hl : l.length ≤ 240 := by
   apply Decidable.byContradiction
   intro hh
   exact h (.inr (by omega))
  obtain ⟨b, rfl, hb4⟩ := qc hr
  cases l with
  | nil => exact qI [] b w hb4 hl rfl rfl hT
  | cons c t =>
   by_cases h45 : c = 45
   ·subst h45; exact js t b w hb4 hl hT
   ·by_cases h43 : c = 43
    ·subst h43; exact jy t b w hb4 hl hT
    ·exact qI (c :: t) b w hb4 hl (by simpa using h45) (by simpa using h43) hT
theorem Zb (d : Nat) (h : d < 16) : ((⟨#[48, 49, 50, 51, 52, 53, 54, 55, 56, 57, 97, 98, 99, 100, 101, 102]⟩ : ByteArray)[d]'h).toNat = (sg d).toNat := by
 rcases d with _ | _ | _ | _ | _ | _ | _ | _ | _ | _ | _ | _ | _ | _ | _ | _ | d
 all_goals first | rfl | omega
theorem yG (x b : Nat) (v : Value) (w : World) (hx : isNat w v x) (hs : (gr x).length ≤ 100000) (hb2 : 2 ≤ b) (hb16 : b ≤ 16) (hsd : (dg b x).length ≤ 1000000) :
  Calls Tryd.prog 53 #[.int .i64 b, v] w fun e w' => e = .returned (.string (txt b x)) ∧ Below w.heap.size w w' := by
 obtain ⟨i0, hi, hz0, hz1, hz2⟩ := info_parts Tryd.infoByte
 obtain ⟨p, cap, hv⟩ := zx hx
 subst hv
 by_cases hz : x = 0
 ·subst hz
  have h0 : txt b 0 = ⟨#[48]⟩ := by unfold txt; rw [zE]; rfl
  rw [z7, h0]
  clear hx hs
  go_enter Tryd.func53, Tryd.ntmps53
  go_wp2
  go_ret
  exact ⟨rfl, Below.refl _ _⟩
 ·have hn0 : 0 < (gr x).length := by have := mt qZ.1 hz; omega
  have hnI : (((gr x).length : Int) == 0) = false := by rw [beq_eq_false_iff_ne]; omega
  have e1 := wu64 (b : Int) (by omega) (by omega)
  have Hx := hide hx
  have Hz := hide hz
  clear hx hz
  go_enter Tryd.func53, Tryd.ntmps53
  go_wp2
  go_loopw [1, 5, 6, 7] (fun n out _ _ wr => ∃ (k : Nat) (ls : List Nat), k ≤ x ∧ isNat wr n k ∧ wr.ownsRow w.heap.size 5 1 out ls.length ((ls.map sg).map u8v) ∧ Below w.heap.size w wr ∧ Hid (dg b x = ls ++ dg b k))
   (fun _ out _ _ _ => (dg b x).length - lenV out)
  case atStart =>
   exact ⟨x, [], Nat.le_refl _, zt (za Hx) ((Below.refl _ _).alloc (Nat.le_refl _) _), World.ownsRow_made w #[] 0 (Nat.le_refl _) (by decide) (by simp), (Below.refl _ _).alloc (Nat.le_refl _) _, hide (by simp)⟩
  case round =>
   obtain ⟨k, ls, hk, hnat, hown, hb, hdg⟩ := hrel
   obtain ⟨pk, ck, hvk⟩ := zx hnat
   subst hvk
   obtain ⟨po, co, hvo⟩ := zx hown
   subst hvo
   by_cases hk0 : k = 0
   ·have hl0 : ¬ (0 : Int) < ((gr k).length : Int) := by rw [hk0, z7]; simp
    have hfin : ls = dg b x := by rw [za hdg, hk0, zQ, List.append_nil]
    have hls : 0 < ls.length := by
     rcases Nat.eq_zero_or_pos ls.length with h | h
     ·have h' : ls = [] := List.eq_nil_of_length_eq_zero h
      rw [h'] at hfin
      exact absurd ((jm hb2).1 hfin.symm) (za Hz)
     ·exact h
    have hsl : ls.length ≤ 1000000 := by rw [hfin]; exact hsd
    obtain ⟨g, cap', hvv, hcc, hbg, hgw⟩ := zS hown hls
    simp only [Value.slice.injEq, true_and] at hvv
    obtain ⟨rfl, rfl⟩ := hvv
    have Hfin := hide hfin
    have hrv := yc (ls.map sg) g co w.heap.size wr (by rw [List.length_map]; omega) (by rw [List.length_map]; exact hown)
    rw [List.length_map] at hrv
    have Hrv := hide hrv
    clear hrv hown hfin
    go_wp2_with fail
    refine (za Hrv).mono ?_
    rintro e w3 ⟨rfl, hown3, hg3⟩
    have hbX := hb.grown hg3 hb.size (fun k hk => by cases hk; omega)
    have hconv := zM (dst := 9) Tryd.underlying22 Tryd.underlying5 Tryd.underlying9 hown3
    have hfin2 : B (ls.map sg).reverse = txt b x := by unfold txt; rw [zV (za Hz), ← za Hfin]
    rw [hfin2] at hconv
    clear hfin2 hown3 hg3 Hrv
    go_wp2
    go_ret
    exact ⟨rfl, hbX⟩
   ·have hl0 : (0 : Int) < ((gr k).length : Int) := by have := mt qZ.1 hk0; omega
    have hgk := qa hk
    have hpos := qp (b := b) hb2 (show 0 < k by omega)
    have hdl : k % b < 16 := Nat.lt_of_lt_of_le (Nat.mod_lt _ (by omega)) hb16
    have hqk : k / b ≤ x := Nat.le_trans (Nat.div_le_self _ _) hk
    have hdg2 : dg b x = (ls ++ [k % b]) ++ dg b (k / b) := by rw [za hdg, hpos]; simp
    have Hdg2 := hide hdg2
    have hll := congrArg List.length hdg2
    rw [List.length_append, List.length_append] at hll
    clear hpos hdg2
    go_wp2_with fail
    have h := jX k b _ wr hnat (by omega) (by omega) (by omega)
    refine h.mono ?_
    clear h
    rintro e w2 ⟨⟨v2, rfl, hv2⟩, hb2'⟩
    have hown2 := zt hown hb2'
    have hbw := hb.trans (hb2'.mono hb.size)
    have hhex := Zb (k % b) hdl
    unfold isNatB at hv2
    have hne : v2.ownBlock = none ∨ v2.ownBlock ≠ (Value.slice po ls.length co).ownBlock := by
     by_cases hh : v2.ownBlock = none
     ·exact .inl hh
     ·refine .inr (fun he => ?_)
      obtain ⟨g, hg⟩ := Option.ne_none_iff_exists'.1 hh
      have h1 := (hv2.lt g hg).1
      have h2 := (hown.lt g (he ▸ hg)).2
      omega
    have Hne := hide hne
    clear hne
    have Hv2 := hide hv2
    generalize k % b = d at *
    have hw := hbw.size
    have e8 : (sg d).toNat < 256 := (sg d).toNat_lt
    clear hv2 hnat hown
    go_wp2_with (at_builtin; refine wpList_append_own _ rfl (.tmp 22) (.tmp 25) 22 rfl w.heap.size 5 i0 (.int .u8 0) 1 1 Tryd.underlying22 hi hz0 hz1 hz2 rfl (by decide) _ _ _ rfl (hown2.alloc _) ⟨w2.heap.size, 0, none⟩ 1 1 [.int .u8 ((sg d).toNat : Int)] rfl rfl (cell_one_new _ _ _) (by intro u hu; simp at hu; subst hu; rfl) (by unfold maxLen; omega) (by omega) (by simp; omega) ?_; intro v3 w3 hown3 hg3 _)
    have hbX := zG (hbw.alloc hw _) (hown2.alloc _) hg3 (by simp <;> omega)
    obtain ⟨p3, c3, hv3⟩ := zx hown3
    subst hv3
    go_roundw
    case rel =>
     refine ⟨k / b, ls ++ [d], hqk, ?_, ?_, hbX, Hdg2⟩
     ·exact ql (((za Hv2).alloc _).kept hg3 (za Hne)) (Nat.zero_le _)
     ·rw [List.length_append, List.map_append, List.map_append]
      exact hown3
    case measure =>
     show (dg b x).length - (ls.length + 1) < (dg b x).length - ls.length
     simp at hll
     omega
theorem xr (b x : Nat) : (dg b x).length ≤ (txl b x).length := by
 unfold txl
 by_cases h : x = 0
 ·rw [if_pos h, h, zQ]; simp
 ·rw [if_neg h]; simp
theorem j3 (neg : Bool) (u d : List UInt8) (r : Int) (w : World) (hsu : u.length ≤ 1000000000) (hsd : d.length ≤ 1000000000) (h : (okM neg u d && zn r) = false) (hT : Tens w) :
  Calls Tryd.prog 11 #[numB neg u d, .int .i64 r] w fun e w' => e = .returned (.string (B (zw neg u d r))) ∧ Below w.heap.size w w' := by
 have Hf : Hid (B (zw neg u d r) = ⟨#[]⟩) := by show _ = _; unfold zw; rw [h]; rfl
 have h1 := fun w hT => qb neg u d w hsu hsd hT
 have HT := hide hT
 unfold numB at *
 clear hT
 cases hr : zn r with
 | false =>
  clear h h1
  go_enter Tryd.func11, Tryd.ntmps11
  go_wp2_with fail
  refine (qJ r _).mono ?_
  rintro e w2 ⟨rfl, rfl⟩
  rw [hr]
  go_wp2
  go_ret
  exact ⟨zv (za Hf).symm, (Below.refl _ _).alloc (Nat.le_refl _) _⟩
 | true =>
  rw [hr, Bool.and_true] at h
  rw [h] at h1
  have H1 := hide h1
  clear h h1
  go_enter Tryd.func11, Tryd.ntmps11
  go_wp2_with fail
  refine (qJ r _).mono ?_
  rintro e w2 ⟨rfl, rfl⟩
  rw [hr]
  go_wp2_with fail
  refine (za H1 _ ((za HT).below ((Below.refl _ _).alloc (Nat.le_refl _) _))).mono ?_
  rintro e w1 ⟨rfl, hb1⟩
  have hb0 := zg hb1
  go_wp2
  go_ret
  exact ⟨zv (za Hf).symm, zf hb0⟩
theorem jL (neg : Bool) (u d : List UInt8) (b : Nat) (w : World) (hok : okM neg u d = true) (hb4 : b = 2 ∨ b = 8 ∨ b = 10 ∨ b = 16) (hT : Tens w) :
  Calls Tryd.prog 11 #[numB neg u d, .int .i64 b] w fun e w' => e = .returned (.string (B (zw neg u d b))) ∧ Below w.heap.size w w' := by
 have hr : zn (b : Int) = true := by rcases hb4 with rfl | rfl | rfl | rfl <;> rfl
 obtain ⟨h3, h4, hu, hd, hd0, hn0, _⟩ := zR hok
 have h1 := fun w hT => qb neg u d w (by omega) (by omega) hT
 rw [hok] at h1
 have Hf : Hid (zw neg u d b = prM neg (zj u) (zj d) b) := by show _ = _; unfold zw; rw [hok, hr]; simp
 have Bu : B u = dec (zj u) := by unfold dec txt; rw [← zz h3]
 have Bd : B d = dec (zj d) := by unfold dec txt; rw [← zz h4]
 have hau := zi u
 have had := zi d
 unfold numB at *
 rw [Bu, Bd] at h1
 rw [Bu] at hau
 rw [Bd] at had
 rw [Bu, Bd]
 generalize zj u = a at *
 generalize zj d = q at *
 have hau60 : (dec a).size ≤ 60 := by omega
 have had60 : (dec q).size ≤ 60 := by omega
 have hq1 := yf q
 have hta := qU (b := b) (by omega) hau60
 have htq := qU (b := b) (by omega) had60
 have hta' : (txl b a).length ≤ 240 := by unfold txt at hta; rwa [zi] at hta
 have htq' : (txl b q).length ≤ 240 := by unfold txt at htq; rwa [zi] at htq
 have hda := xr b a
 have hdq := xr b q
 have hga := jJ hau60
 have hgq := jJ had60
 have H1 := hide h1
 have HT := hide hT
 clear h1 Bu Bd h3 h4 hok hau had hn0 hT
 go_enter Tryd.func11, Tryd.ntmps11
 go_wp2_with fail
 refine (qJ b _).mono ?_
 rintro e w2 ⟨rfl, rfl⟩
 rw [hr]
 go_wp2_with fail
 refine (za H1 _ ((za HT).below ((Below.refl _ _).alloc (Nat.le_refl _) _))).mono ?_
 rintro e w1 ⟨rfl, hb1⟩
 have hb0 := zg hb1
 have hz0 : w.heap.size + 1 ≤ w1.heap.size := by have := hb1.size; simpa using this
 have c0 := zb hb0 0
 have c1 := zb hb0 1
 have c2 := zb hb0 2
 simp at c0 c1 c2
 go_wp2_with fail
 have h := qq a w1 (by omega) ((za HT).below (zf hb0))
 refine h.mono ?_
 clear h
 rintro e w2 ⟨⟨v2, rfl, hv2⟩, hb2⟩
 have hn2 := ze hb0 hz0 hb2
 have Hv2 := hide hv2
 clear hv2
 go_wp2_with fail
 have h := yG a b v2 w2 (za Hv2) (by omega) (by omega) (by omega) (by omega)
 refine h.mono ?_
 clear h
 rintro e w3 ⟨rfl, hb3⟩
 have hn3 := ze hn2.1 hn2.2 hb3
 clear c0 c1 c2 hb1 hb0 hz0 hb2 hn2 hb3
 have c0 := zb hn3.1 0
 have c1 := zb hn3.1 1
 have c2 := zb hn3.1 2
 simp at c0 c1 c2
 have hs47 : (⟨#[47]⟩ ++ txt b q : ByteArray).size = 1 + (txt b q).size := by rw [ByteArray.size_append]; rfl
 by_cases hone : q = 1
 ·rw [decide_eq_true hone] at hq1
  cases neg with
  | false =>
   have Hf2 : Hid (B (zw false u d b) = txt b a) := by show _ = _; rw [za Hf]; simp [prM, hone, txt]
   clear hone
   go_wp2
   go_ret
   exact ⟨zv (za Hf2).symm, zf hn3.1⟩
  | true =>
   have Hf2 : Hid (B (zw true u d b) = ⟨#[45]⟩ ++ txt b a) := by
    show _ = _; rw [za Hf, show (⟨#[45]⟩ : ByteArray) = B [45] from rfl]; unfold txt; rw [zu]; simp [prM, hone]
   have hns : ¬ 9223372036854775807 < 1 + (txt b a).size := by omega
   clear hone
   go_wp2
   go_ret
   exact ⟨zv (za Hf2).symm, zf hn3.1⟩
 ·rw [decide_eq_false hone] at hq1
  cases neg with
  | false =>
   have Hf2 : Hid (B (zw false u d b) = txt b a ++ (⟨#[47]⟩ ++ txt b q)) := by
    show _ = _; rw [za Hf, show (⟨#[47]⟩ : ByteArray) = B [47] from rfl]; unfold txt; rw [zu, zu]; simp [prM, hone]
   clear hone
   go_wp2_with fail
   have h := qq q w3 (by omega) ((za HT).below (zf hn3.1))
   refine h.mono ?_
   clear h
   rintro e w4 ⟨⟨v4, rfl, hv4⟩, hb4'⟩
   have hn4 := ze hn3.1 hn3.2 hb4'
   have Hv4 := hide hv4
   clear hv4
   go_wp2_with fail
   have h := yG q b v4 w4 (za Hv4) (by omega) (by omega) (by omega) (by omega)
   refine h.mono ?_
   clear h
   rintro e w5 ⟨rfl, hb5⟩
   have hn5 := ze hn4.1 hn4.2 hb5
   go_wp2
   go_ret
   exact ⟨zv (za Hf2).symm, zf hn5.1⟩
  | true =>
   have Hf2 : Hid (B (zw true u d b) = (⟨#[45]⟩ ++ txt b a) ++ (⟨#[47]⟩ ++ txt b q)) := by
    show _ = _; rw [za Hf, show (⟨#[47]⟩ : ByteArray) = B [47] from rfl, show (⟨#[45]⟩ : ByteArray) = B [45] from rfl]; unfold txt; rw [zu, zu, zu]; simp [prM, hone]
   have hns : ¬ 9223372036854775807 < 1 + (txt b a).size := by omega
   clear hone
   go_wp2_with fail
   have h := qq q w3 (by omega) ((za HT).below (zf hn3.1))
   refine h.mono ?_
   clear h
   rintro e w4 ⟨⟨v4, rfl, hv4⟩, hb4'⟩
   have hn4 := ze hn3.1 hn3.2 hb4'
   have Hv4 := hide hv4
   clear hv4
   go_wp2_with fail
   have h := yG q b v4 w4 (za Hv4) (by omega) (by omega) (by omega) (by omega)
   refine h.mono ?_
   clear h
   rintro e w5 ⟨rfl, hb5⟩
   have hn5 := ze hn4.1 hn4.2 hb5
   go_wp2
   go_ret
   exact ⟨zv (za Hf2).symm, zf hn5.1⟩
theorem vl (neg : Bool) (u d : List UInt8) (r : Int) (w : World) (hsu : u.length ≤ 1000000000) (hsd : d.length ≤ 1000000000) (hT : Tens w) :
  Calls Tryd.prog 11 #[numB neg u d, .int .i64 r] w fun e w' => e = .returned (.string (B (zw neg u d r))) ∧ Below w.heap.size w w' := by
 cases h : okM neg u d && zn r with
 | false => exact j3 neg u d r w hsu hsd h hT
 | true =>
  simp only [Bool.and_eq_true] at h
  obtain ⟨b, rfl, hb4⟩ := qc h.2
  exact jL neg u d b w h.1 hb4 hT
end Go.Proofs.YtcnnicbaeicboaaDoor
