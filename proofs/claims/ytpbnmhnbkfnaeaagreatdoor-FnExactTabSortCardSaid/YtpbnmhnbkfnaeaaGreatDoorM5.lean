/- A part of the proof, put together out of smaller texts: each piece says what it is for. -/
import Derived.Test.YtpbnmhnbkfnaeaaGreatDoorM4
import Derived.Laws.CopyOwn
import Derived.BigRegion
import Derived.Lib.OthersKept
namespace Go.Proofs.YtpbnmhnbkfnaeaaGreatDoor
open Go.RowKit Nt

theorem timesPlus_z (x f : Nat) (v : Value) (w : World) (hx : isNat w v x) (hs : (gr x).length ≤ 1000000) (hf : f < 1000000000) :
    Calls Tryz.prog 201 #[v, .int .u64 f, .int .u64 0] w fun e w' => (∃ v', e = .returned v' ∧ isNatB w' w.heap.size v' (x * f)) ∧ Below w.heap.size w w' := by
  have := timesPlus_c x f 0 v w hx hs hf (by omega)
  simpa using this

/-- the integer in a cell -/
def cellN (w : World) (b j : Nat) : Nat := match w.cell? ⟨b, j, none⟩ with
  | some v => (intOf v).toNat
  | none => 0
theorem cellN_of {w : World} {b j d : Nat} (h : w.cell? ⟨b, j, none⟩ = some (.int .u64 (d : Int))) : cellN w b j = d := by
  unfold cellN; rw [h]; rfl
theorem own_drew {w : World} {base : Nat} {e : TypeId} {size : Nat} {v : Value} {n : Nat} {xs : List Value} (h : w.ownsRow base e size v n xs) : w.drew.ownsRow base e size v n xs := h

theorem sameOut_trans {L L1 L2 : List Nat} {i k : Nat} (h : sameOut L L1 i k) (h' : sameOut L1 L2 i k) : sameOut L L2 i k := by
  refine ⟨h'.1.trans h.1, h'.2.1, ?_⟩
  intro t h1 h2 ht
  rw [h'.2.2 t (by rw [h.1]; exact h1) h2 ht]
  exact h.2.2 t h1 _ ht

theorem putback_close {W W' V Y q p : Nat} {up : Bool} (h : W + (q + 1) * Y = V + if true then p else 0) (h' : W' + (if up then p else 0) = W + Y) : W' + q * Y = V + if (!up) then p else 0 := by
  rw [Nat.add_mul] at h
  cases up <;> simp at h h' ⊢ <;> omega

theorem pad_ofd (l : List Nat) (k : Nat) (b : Nat) : ofd b (l ++ List.replicate k 0) = ofd b l := by
  rw [ofd_append, ofd_replicate_zero]; simp

set_option maxRecDepth 100000 in
set_option maxHeartbeats 4000000 in
theorem over_small (x y : Nat) (v u : Value) (w : World) (hx : isNat w v x) (hy : isNat w u y) (hsx : (gr x).length ≤ 1000000) (hsy : (gr y).length ≤ 1000000) (hlt : x < y) :
    Calls Tryz.prog 183 #[v, u] w fun e w' => (∃ v1 v2, e = .returned (.tuple #[v1, v2]) ∧ isNat w' v1 (x / y) ∧ isNat w' v2 (x % y)) ∧ Below w.heap.size w w' := by
  rw [Nat.div_eq_of_lt hlt, Nat.mod_eq_of_lt hlt]
  have hl := less_c x y v u w hx hy hsx hsy
  rw [decide_eq_true hlt] at hl
  have Hl := hide hl
  have Hx := hide hx
  clear hl hx hy hlt hsx hsy
  go_enter Tryz.func183, Tryz.ntmps183
  go_wp2_with fail
  refine (unhide Hl).mono ?_
  rintro e w1 ⟨rfl, hb1⟩
  go_wp2
  go_ret2
  have hbX := hb1.alloc hb1.size (.cells #[] 173)
  refine ⟨⟨_, _, rfl, ?_, own_below (unhide Hx) hbX⟩, hbX⟩
  have := World.ownsRow_made (base := 0) (e := 173) (size := 1) w1 #[] 0 (Nat.zero_le _) (by decide) (by simp)
  unfold isNat
  rw [gr_zero]
  exact this


set_option maxRecDepth 100000 in
set_option maxHeartbeats 4000000 in
theorem over_great (x y : Nat) (v u : Value) (w : World) (hx : isNat w v x) (hy : isNat w u y) (hsx : (gr x).length ≤ 1000000) (hsy : (gr y).length ≤ 1000000) (hle : y ≤ x) (hy0 : 0 < y) :
    Calls Tryz.prog 183 #[v, u] w fun e w' => (∃ v1 v2, e = .returned (.tuple #[v1, v2]) ∧ isNat w' v1 (x / y) ∧ isNat w' v2 (x % y)) ∧ Below w.heap.size w w' := by
  obtain ⟨i0, hi, hz0, hz1, hz2⟩ := info_parts Tryz.infoU64
  have hl := less_c x y v u w hx hy hsx hsy
  rw [decide_eq_false (by omega)] at hl
  have Hl := hide hl
  have Hx := hide hx
  have Hy := hide hy
  clear hl
  have hyne : gr y ≠ [] := fun h => by have := gr_nil.1 h; omega
  have hml : (gr y).length ≤ (gr x).length := gr_len_le hle
  obtain ⟨m, hm⟩ : ∃ m, (gr y).length = m + 1 := ⟨(gr y).length - 1, by have : (gr y).length ≠ 0 := fun h => hyne (List.eq_nil_of_length_eq_zero h); omega⟩
  obtain ⟨n, hn⟩ : ∃ n, (gr x).length = n := ⟨_, rfl⟩
  obtain ⟨K, hKI⟩ : ∃ K : Nat, (n : Int) - m = K := ⟨n - m, by omega⟩
  obtain ⟨gy, cy, hu, hcy, _, hgy⟩ := own_some hy (by omega)
  obtain ⟨gx, cx, hv, hcx, _, hgx⟩ := own_some hx (by omega)
  subst hu
  subst hv
  have hcell := Hy.out.cellAt m (by omega)
  rw [u64s_get _ _ (by omega)] at hcell
  have htop9 : (gr y)[m]'(by omega) < 1000000000 := gr_lt y _ (List.getElem_mem _)
  have htop0 : 0 < (gr y)[m]'(by omega) := by
    have := (dg_can (b := 1000000000) (by omega) y).2 ((gr y)[m]'(by omega)) (by
      rw [List.getLast?_eq_getElem?]
      show (gr y)[(gr y).length - 1]? = _
      rw [show (gr y).length - 1 = m from by omega]
      exact List.getElem?_eq_getElem _)
    omega
  have hsc := fun s hs hs0 => @scaled_len y s m (gr y) rfl hm hs hs0
  obtain ⟨yt, hyt⟩ : ∃ a, (gr y)[m]'(by omega) = a := ⟨_, rfl⟩
  rw [hyt] at hcell htop9 htop0
  simp only [hyt] at hsc
  have hs0 := scale_pos htop9
  have hs9 := scale_lt htop0
  obtain ⟨s, hs⟩ : ∃ s, 1000000000 / (yt + 1) = s := ⟨_, rfl⟩
  rw [hs] at hs0 hs9
  have hsc := hsc s hs hs0
  have hsI : (1000000000 : Int) / ((yt : Int) + 1) = (s : Int) := by rw [← hs]; rfl
  have Hsc := hide hsc
  have Hm := hide hm
  have Hn := hide hn
  rw [hm] at hml hsy hcy Hy Hl
  rw [hn] at hml hsx hcx Hx Hl
  rw [hm, hn]
  clear hx hy hsc hs hyt hyne hm hn
  go_enter Tryz.func183, Tryz.ntmps183
  go_wp2_with fail
  refine (unhide Hl).mono ?_
  clear Hl
  rintro e w1 ⟨rfl, hb1⟩
  have hcell1 : w1.cell? ⟨gy, m, none⟩ = some (.int .u64 (yt : Int)) := by rw [hb1.cell (p := ⟨gy, m, none⟩) hgy]; exact hcell
  go_wp2_with (refine wpList_make_full _ rfl (.tmp 31) (.tmp 31) 178 rfl w.heap.size 173 i0 (.int .u64 0) 1 Tryz.underlying178 hi hz0 hz1 .i64 .i64 ((n + 1 : Nat) : Int) ((n + 1 : Nat) : Int) (n + 1) rfl rfl rfl rfl (by rw [hz2]; omega) (by unfold maxLen; omega) hb1.size ?_; intro w2 hown2 hg2)
  have hb2 : Below w.heap.size w w2 := hb1.grown hg2 hb1.size (fun _ h => by cases h)
  have hxs9 : (gr (x * s)).length ≤ n + 1 := by
    apply dg_len_le (by omega)
    have h1 : x < 1000000000 ^ n := by have := lt_pow_dg (b := 1000000000) (by omega) x; rwa [show (dg 1000000000 x).length = n from unhide Hn] at this
    rw [Nat.pow_succ]
    exact Nat.mul_lt_mul'' h1 hs9
  refine (timesPlus_z x s _ _ (own_below (unhide Hx) hb2) (by rw [unhide Hn]; exact hsx) hs9).mono ?_
  rintro e w3 ⟨⟨v3, rfl, hv3⟩, hb3⟩
  have hown3 := own_below hown2 hb3
  have hb03 := hb2.trans (hb3.mono hb2.size)
  rw [show (madeCells (Value.int IntKind.u64 0).cells ((n + 1) * 1)).toList = u64s (List.replicate (n + 1) 0) from by
    rw [Nat.mul_one, show (Value.int IntKind.u64 0).cells = #[.int .u64 0] from rfl, toList_madeCells_one, u64s_zero]] at hown3
  have hblk := own_block_full hown3
  obtain ⟨p3, c3, hv3s⟩ := own_slice hv3
  subst hv3s
  obtain ⟨k3, hk3⟩ : ∃ k3, (gr (x * s)).length = k3 := ⟨_, rfl⟩
  have hsome := fun h => own_some hv3 h
  have hcells := fun g cap (h : Value.slice p3 (gr (x * s)).length c3 = .slice (some ⟨g, 0, none⟩) (gr (x * s)).length cap) => (h ▸ hv3 : w3.ownsRow w2.heap.size 173 1 (.slice (some ⟨g, 0, none⟩) (gr (x * s)).length cap) (gr (x * s)).length (u64s (gr (x * s)))).cells (g := g) rfl
  have hpos : 0 < (u64s (gr (x * s))).length → ∃ ad, p3 = some ad ∧ ∀ j v, (u64s (gr (x * s)))[j]? = some v → w3.cell? (ad.add j) = some v := by
    intro h
    obtain ⟨g, cap, hh, _⟩ := hsome (by rwa [u64s_length] at h)
    have h2 := hcells g cap hh
    simp only [Value.slice.injEq, true_and] at hh
    exact ⟨_, hh.1, h2⟩
  have Hblk := hide hblk
  have Hpos := hide hpos
  have hsz1 := hb1.size
  clear hblk hpos hsome hcells hown3 hown2 hg2 hb1 hb2 hb3 hv3 hcell hcell1
  have hk3l : k3 ≤ n + 1 := by omega
  have Hk3 := hide hk3
  rw [hk3]
  clear hk3
  go_wp2_with (refine wpList_copy_splice rfl (.tmp 33) (.tmp 36) 178 178 rfl 173 Tryz.underlying178 (by simp [hi, hz1]) (some ⟨w1.heap.size, 0, none⟩) p3 (n + 1) (n + 1) k3 c3 rfl rfl w1.heap.size 0 (u64s (List.replicate (n + 1) 0)) 173 (unhide Hblk) (u64s (gr (x * s))) (by rw [u64s_length, unhide Hk3]; exact (Nat.min_eq_left hk3l).symm) (fun h => ⟨rfl, unhide Hpos h⟩) (by simp [u64s]; have := unhide Hk3; omega) (u64s_one _) w.heap.size w hb03 hsz1 ?_; intro w4 hg4 hb4)
  have hrow : splice (u64s (List.replicate (n + 1) 0)) 0 (u64s (gr (x * s))) = u64s (gr (x * s) ++ List.replicate (n + 1 - k3) 0) := by
    unfold splice
    rw [List.take_zero, List.nil_append, Nat.zero_add, u64s_length, unhide Hk3, ← u64s_drop, List.drop_replicate, u64s_append]
  have hg4' := unhide hg4
  rw [hrow] at hg4'
  have hLl : (gr (x * s) ++ List.replicate (n + 1 - k3) 0).length = n + 1 := by
    rw [List.length_append, List.length_replicate, unhide Hk3]; omega
  have hLo : ofd 1000000000 (gr (x * s) ++ List.replicate (n + 1 - k3) 0) = x * s := by rw [pad_ofd, gr_ofd]
  have hLd : ∀ d ∈ gr (x * s) ++ List.replicate (n + 1 - k3) 0, d < 1000000000 := by
    intro d hd
    rcases List.mem_append.1 hd with h | h
    · exact gr_lt _ d h
    · simp at h; omega
  have hownL := own_of_block_full (base := w.heap.size) (n := n + 1) hg4' (by rw [u64s_length]; exact hLl) (by unfold maxLen; omega) hsz1
  have hgl4 : w1.heap.size < w4.heap.size := (Array.getElem?_eq_some_iff.1 hg4').1
  generalize gr (x * s) ++ List.replicate (n + 1 - k3) 0 = L0 at *
  have HLl := hide hLl
  have HLo := hide hLo
  have HLd := hide hLd
  have HownL := hide hownL
  generalize w1.heap.size = gl at *
  clear hrow hg4 hg4' hLl hLo hLd hownL Hblk Hpos hb03 hxs9
  refine (timesPlus_z y s _ _ (own_below (unhide Hy) hb4) (by rw [unhide Hm]; exact hsy) hs9).mono ?_
  rintro e w5 ⟨⟨v5, rfl, hv5⟩, hb5⟩
  have hl5 := (unhide Hsc).1
  obtain ⟨gb, cb, hv5s, hcb, hgb4, hgb5⟩ := own_some hv5 (by omega)
  subst hv5s
  rw [hl5] at hcb
  have hownL5 := own_below (unhide HownL) hb5
  have hb05 := hb4.trans (hb5.mono hb4.size)
  have hys9 := gr_lt (y * s)
  have hyso := gr_ofd (y * s)
  have hytop := (dg_can (b := 1000000000) (by omega) (y * s)).2
  rw [show dg 1000000000 (y * s) = gr (y * s) from rfl] at hytop
  have hYl := (unhide Hsc).2
  unfold isNatB at hv5
  have hpos0 : 0 < y * s := Nat.mul_pos hy0 hs0
  have hstart := fun L hL hLl => @over_start x y s n m L (unhide Hn) (unhide Hm) hml hL hLl hs0
  have Hstart := hide (hstart L0 (unhide HLo) (unhide HLl))
  obtain ⟨Y, hY⟩ : ∃ Y, y * s = Y := ⟨_, rfl⟩
  rw [hY] at hl5 hv5 hys9 hyso hYl hpos0 Hstart
  rw [hY] at hytop
  rw [show (gr (y * s)).length = m + 1 from (unhide Hsc).1]
  generalize gr Y = ys at *
  have HY := hide hY
  have Hys9 := hide hys9
  have Hytop := hide hytop
  have Hyso := hide hyso
  have HYl := hide hYl
  have Hl5 := hide hl5
  clear hys9 hyso hytop hYl hY hstart hb4 hb5 HownL hsc hl5
  go_wp2_with (refine wpList_make_full _ rfl (.tmp 44) (.tmp 44) 178 rfl w.heap.size 173 i0 (.int .u64 0) 1 Tryz.underlying178 hi hz0 hz1 .i64 .i64 K K K rfl rfl rfl rfl (by rw [hz2]; omega) (by unfold maxLen; omega) hb05.size ?_; intro w6 hown6 hg6)
  have hownO0 : w6.ownsRow w.heap.size 173 1 (.slice (some ⟨w5.heap.size, 0, none⟩) K K) K (u64s (List.replicate K 0)) := by
    simpa [Value.cells, toList_madeCells_one, u64s_zero] using hown6
  have hb56 : Below w5.heap.size w5 w6 := (Below.refl _ _).grown hg6 (Nat.le_refl _) (fun _ h => by cases h)
  have hownL6 := own_below hownL5 hb56
  have hownB6 := own_base (own_below hv5 hb56) (Nat.zero_le _)
  rw [unhide Hl5] at hownB6
  have hb06 := hb05.trans (hb56.mono hb05.size)
  have hob : w.heap.size ≤ w5.heap.size := hb05.size
  generalize w5.heap.size = bo at *
  have hglb : gl ≠ gb := by omega
  have hgbo : gb ≠ bo := by omega
  have hglo : gl ≠ bo := by omega
  have hK0 : 0 < K := by omega
  have hnK : n = m + K := by omega
  have HnK := hide hnK
  clear hown6 hg6 hv5 hownL5 hb56 hb05 hnK
  go_loopw [10] (fun i wr => ∃ (k : Nat) (L O : List Nat), k ≤ K ∧ i = .int .i64 ((k : Int) - 1) ∧ L.length = n + 1 ∧ O.length = K ∧
      wr.ownsRow w.heap.size 173 1 (.slice (some ⟨gl, 0, none⟩) (n + 1) (n + 1)) (n + 1) (u64s L) ∧ wr.ownsRow w.heap.size 173 1 (.slice (some ⟨bo, 0, none⟩) K K) K (u64s O) ∧
      wr.ownsRow 0 173 1 (.slice (some ⟨gb, 0, none⟩) (m + 1) cb) (m + 1) (u64s ys) ∧ Below w.heap.size w wr ∧ Hid (∀ d ∈ L, d < 1000000000) ∧ Hid (∀ d ∈ O, d < 1000000000) ∧
      Hid (x * s = ofd 1000000000 (L.take k) + 1000000000 ^ k * (Y * ofd 1000000000 (O.drop k) + ofd 1000000000 (L.drop k))) ∧ Hid (ofd 1000000000 (L.drop k) < Y))
    (fun i _ => ((intOf i) + 1).toNat)
  case atStart =>
    refine ⟨K, L0, List.replicate K 0, Nat.le_refl _, rfl, unhide HLl, by simp, hownL6, hownO0, hownB6, hb06, HLd, hide (by intro d hd; simp at hd; omega), ?_, ?_⟩
    · show _ = _
      rw [List.drop_of_length_le (by simp), ofd, Nat.mul_zero, Nat.zero_add, ← ofd_take_drop 1000000000 L0 K (by rw [unhide HLl]; have := unhide HnK; omega), unhide HLo]
    · show _ < _
      have := unhide Hstart
      rwa [show n - m = K from by have := unhide HnK; omega] at this
  case round =>
    clear hownL6 hownO0 hownB6 hb06
    obtain ⟨k, L, O, hk, rfl, hLl, hOl, hownL, hownO, hownB, hb, hLd, hOd, hinv, hR⟩ := hrel
    cases k with
    | zero =>
      rw [show (((0 : Nat) : Int) - 1) = -1 from rfl]
      have hinv0 : x * s = Y * ofd 1000000000 O + ofd 1000000000 L := by have := unhide hinv; simpa [ofd] using this
      have hR0 : ofd 1000000000 L < Y := by have := unhide hR; simpa using this
      have hend := over_end (x := x) (y := y) (s := s) (Q := ofd 1000000000 O) (R := ofd 1000000000 L) (by rw [unhide HY]; exact hinv0) (by rw [unhide HY]; exact hR0) hs0
      have Hend := hide hend
      have HO := hide hownO
      have hLlen := gr_len_le (Nat.le_of_lt hR0)
      have hYlen : (gr Y).length ≤ 1000000 := by rw [← unhide HY, (unhide Hsc).1]; omega
      clear hinv0 hR0 hend hinv hR hownO hownB
      go_wp2_with fail
      refine (trimmed_n L w.heap.size _ _ (by omega) (unhide hLd) (by rw [hLl]; exact hownL)).mono ?_
      rintro e w7 ⟨⟨v7, rfl, hv7⟩, rfl⟩
      have hv7n := hv7.nat
      clear hv7
      go_wp2_with fail
      refine (overWord_c (ofd 1000000000 L) s v7 _ hv7n (by omega) hs0 hs9).mono ?_
      rintro e w8 ⟨⟨v8, rfl, hv8⟩, hb8⟩
      have hO8 := own_below (unhide HO) hb8
      have hbZ := hb.trans (hb8.mono hb.size)
      rw [(unhide Hend).2] at hv8
      clear hownL hv7n
      go_wp2_with fail
      refine (trimmed_n O w.heap.size _ _ (by omega) (unhide hOd) (by rw [hOl]; exact hO8)).mono ?_
      rintro e w9 ⟨⟨v9, rfl, hv9⟩, rfl⟩
      have hv9n := hv9.nat
      rw [← (unhide Hend).1] at hv9n
      clear hv9 hO8
      go_wp2
      go_ret2
      exact ⟨⟨_, _, rfl, hv9n, hv8⟩, hbZ⟩
    | succ i =>
      rw [show (((i + 1 : Nat) : Int) - 1) = (i : Int) from by omega]
      have hin : i + (m + 1) < L.length := by have := unhide HnK; omega
      have hcT1 := hownL.cellAt (i + (m + 1)) (by omega)
      rw [u64s_get _ _ hin] at hcT1
      have hcT0 := hownL.cellAt (i + m) (by omega)
      rw [u64s_get _ _ (by omega)] at hcT0
      have hcY := hownB.cellAt m (by omega)
      rw [u64s_get _ _ (by have := unhide Hl5; omega)] at hcY
      obtain ⟨v0, hv0⟩ := own_cell_some hownO i (by omega)
      have hfO := hownO.frozenAt i
      have hiI : (i : Int) + (m + 1) < n + 1 := by have := unhide HnK; omega
      have hiK : (i : Int) < K := by omega
      have hT1 : L[i + (m + 1)]'hin < 1000000000 := unhide hLd _ (List.getElem_mem _)
      have hT0 : L[i + m]'(by omega) < 1000000000 := unhide hLd _ (List.getElem_mem _)
      have hwt := win_top (unhide hLd) i m hin
      have htl := top_le (unhide Hl5)
      have hyl0 : 0 < ys[m]'(by have := unhide Hl5; omega) := by
        have hl5 := unhide Hl5
        have := unhide Hytop (ys[m]'(by omega)) (by
          rw [List.getLast?_eq_getElem?, show ys.length - 1 = m from by omega]
          exact List.getElem?_eq_getElem _)
        omega
      have hyl9 : ys[m]'(by have := unhide Hl5; omega) < 1000000000 := unhide Hys9 _ (List.getElem_mem _)
      generalize L[i + (m + 1)]'hin = ta at *
      generalize L[i + m]'(by omega) = tb at *
      generalize ys[m]'(by have := unhide Hl5; omega) = yl at *
      have Hwt := hide hwt
      have Htl := hide htl
      clear hwt htl
      obtain ⟨q0, hq0⟩ : ∃ q : Nat, ((ta : Int) * 1000000000 + tb) / yl = q := ⟨(ta * 1000000000 + tb) / yl, rfl⟩
      have Hq0 : Hid ((ta * 1000000000 + tb) / yl = q0) := by
        show _ = _
        have : (((ta * 1000000000 + tb) / yl : Nat) : Int) = (q0 : Int) := by rw [← hq0]; rfl
        omega
      have hq0d : ((ta : Int) * 1000000000 + tb).tdiv yl = q0 := by rw [Int.tdiv_eq_ediv_of_nonneg (by omega)]; exact hq0
      have hq0le : q0 ≤ ta * 1000000000 + tb := by rw [← unhide Hq0]; exact Nat.div_le_self _ _
      have e1 := wi64 ((m : Int) + 1) (by omega) (by omega)
      have e2 : ((m : Int) + 1).toNat = m + 1 := by omega
      have e3 := wu64 ((ta : Int) * 1000000000) (by omega) (by omega)
      have e4 := wu64 ((ta : Int) * 1000000000 + tb) (by omega) (by omega)
      have e5 : i + (m + 1) + 1 - i = m + 1 + 1 := by omega
      have e6 := wu64 (q0 : Int) (by omega) (by omega)
      have hyl0I : (0 : Int) < yl := by omega
      have hyl0N : ¬ (yl : Int) = 0 := by omega
      go_wp2_with fail
      go_region
      have hV := over_V (m := m + 1) (by omega) (unhide hLd) (unhide hR) (unhide HYl)
      have hVq : win L i (m + 1 + 1) / Y ≤ 999999999 := by
        have := (Nat.div_lt_iff_lt_mul hpos0).2 hV.2.2
        omega
      have hVg : win L i (m + 1 + 1) / Y ≤ q0 := by
        have h1 := guess_ge (Y := Y) (unhide Hwt) (by rw [← unhide Hyso]; exact unhide Htl) hyl0
        rw [unhide Hq0] at h1; exact h1
      have HVq := hide hVq
      have HVg := hide hVg
      clear hV hVq hVg
      go_wp2_with fail
      ·
        obtain ⟨q1, hq1⟩ : ∃ q1 : Nat, 999999999 = q1 := ⟨_, rfl⟩
        rw [show (999999999 : Int) = (q1 : Int) from by rw [← hq1]; rfl]
        have HV1 : Hid (win L i (m + 1 + 1) / Y ≤ q1) := by rw [← hq1]; exact HVq
        have hq9 : q1 < 1000000000 := by omega
        clear hq1
        have hO1 := (hownO.stored i (.int .u64 (q1 : Int))).1
        rw [u64s_set _ _ q1 _ rfl] at hO1
        have hbW := (hb.setCell (p := ⟨bo, i, none⟩) hob (.int .u64 (q1 : Int))).drew
        have hL1 := ownsRow_setCell_other hownL (a := ⟨bo, i, none⟩) (by simp [Value.ownBlock]; omega) (.int .u64 (q1 : Int))
        have hB1 := ownsRow_setCell_other hownB (a := ⟨bo, i, none⟩) (by simp [Value.ownBlock]; omega) (.int .u64 (q1 : Int))
        refine (takeOff_c L ys gl gb i (m + 1) (n + 1) (n + 1 - i) cb q1 w.heap.size _ (unhide Hl5) hLl (by omega) (by omega) (by omega) (own_drew hL1) (own_drew hB1) (by omega) (unhide hLd) (unhide Hys9) hq9).mono ?_
        rintro e w7 ⟨neg, L1, rfl, hL7, hg7, hso7, hw7⟩
        have hO7 := (own_drew hO1).kept hg7 (.inr (by simp [Value.ownBlock]; omega))
        have hB7 := (own_drew hB1).kept hg7 (.inr (by simp [Value.ownBlock]; omega))
        have hb7 := hbW.grown hg7 hbW.size (fun k hk => by cases hk; omega)
        rw [unhide Hyso] at hw7
        have Hso7 := hide hso7
        have Hw7 := hide hw7
        clear hO1 hL1 hB1 hbW hg7 hso7 hw7
        go_wp2_with fail
        go_loopw [12] (fun bl wr => ∃ (q : Nat) (neg : Bool) (L2 : List Nat), bl = .bool neg ∧ q < 1000000000 ∧ wr.ownsRow w.heap.size 173 1 (.slice (some ⟨gl, 0, none⟩) (n + 1) (n + 1)) (n + 1) (u64s L2) ∧ wr.ownsRow w.heap.size 173 1 (.slice (some ⟨bo, 0, none⟩) K K) K (u64s (O.set i q)) ∧
            wr.ownsRow 0 173 1 (.slice (some ⟨gb, 0, none⟩) (m + 1) cb) (m + 1) (u64s ys) ∧ Below w.heap.size w wr ∧ Hid (sameOut L L2 i (m + 1 + 1)) ∧
            Hid (win L2 i (m + 1 + 1) + q * Y = win L i (m + 1 + 1) + if neg then 1000000000 ^ (m + 1 + 1) else 0) ∧ Hid (win L i (m + 1 + 1) / Y ≤ q))
          (fun _ wr => cellN wr bo i)
        case atStart => exact ⟨q1, neg, L1, rfl, hq9, hL7, hO7, hB7, hb7, Hso7, Hw7, HV1⟩
        case round =>
          clear hL7 hO7 hB7 hb7 Hso7 Hw7 HV1 hownL hownO hownB hb
          obtain ⟨q, ng, L2, rfl, hq, hL2, hO2, hB2, hb2, hso2, hw2, hV2⟩ := hrel
          cases ng with
          | false =>
            go_wp2_with fail
            go_roundw
            case rel =>
              have hw3 : win L2 i (m + 1 + 1) + q * Y = win L i (m + 1 + 1) := by have := unhide hw2; simpa using this
              have hlt3 := over_exact hw3 (unhide hV2) hpos0
              have hst := over_step (m := m + 1) (by omega) (by omega) (unhide hLd) (unhide HYl) (unhide hinv) (unhide hR) (unhide hso2) hw3 hlt3
              exact ⟨i, L2, O.set i q, by omega, rfl, (unhide hso2).1.trans hLl, by simpa using hOl, hL2, hO2, hB2, hb2, hide (unhide hso2).2.1, hide (set_all (unhide hOd) hq), hide hst.1, hide hst.2⟩
            case measure => simp [intOf]
          | true =>
            have hcO := hO2.cellAt i (by omega)
            rw [u64s_get _ _ (by simp; omega), List.getElem_set_self] at hcO
            have hfO2 := hO2.frozenAt i
            have hmore := over_more (unhide hw2) (win_lt (unhide hso2).2.1 i (m + 1 + 1) (by have := (unhide hso2).1; omega))
            have hq0' : 0 < q := Nat.lt_of_le_of_lt (Nat.zero_le _) hmore
            obtain ⟨q', rfl⟩ : ∃ q', q = q' + 1 := ⟨q - 1, by omega⟩
            have HV3 : Hid (win L i (m + 1 + 1) / Y ≤ q') := Nat.le_of_lt_succ hmore
            clear hmore
            have hO3 := (hO2.stored i (.int .u64 (q' : Int))).1
            rw [u64s_set _ _ q' _ rfl, List.set_set] at hO3
            have hbW := hb2.setCell (p := ⟨bo, i, none⟩) hob (.int .u64 (q' : Int))
            have hL3 := ownsRow_setCell_other hL2 (a := ⟨bo, i, none⟩) (by simp [Value.ownBlock]; omega) (.int .u64 (q' : Int))
            have hB3 := ownsRow_setCell_other hB2 (a := ⟨bo, i, none⟩) (by simp [Value.ownBlock]; omega) (.int .u64 (q' : Int))
            have hcq : cellN wr bo i = q' + 1 := cellN_of hcO
            have Hcq := hide hcq
            have hL2l := (unhide hso2).1.trans hLl
            have HO3 := hide hO3
            clear hL2 hO2 hB2 hb2 hcq hO3
            go_wp2_with fail
            refine (putBack_c L2 ys gl gb i (m + 1) (n + 1) (n + 1 - i) cb w.heap.size _ (unhide Hl5) hL2l (by omega) (by omega) (by omega) hL3 hB3 (by omega) (unhide hso2).2.1 (unhide Hys9)).mono ?_
            rintro e w8 ⟨up, L3, rfl, hL8, hg8, hso8, hw8⟩
            have hO8 := (unhide HO3).kept hg8 (.inr (by simp [Value.ownBlock]; omega))
            have hB8 := hB3.kept hg8 (.inr (by simp [Value.ownBlock]; omega))
            have hb8 := hbW.grown hg8 hbW.size (fun k hk => by cases hk; omega)
            have hc8 := hO8.cellAt i (by omega)
            rw [u64s_get _ _ (by simp; omega), List.getElem_set_self] at hc8
            have Hc8 := hide (cellN_of hc8)
            have Hso8 : Hid (sameOut L L3 i (m + 1 + 1)) := sameOut_trans (unhide hso2) hso8
            have Hw8 : Hid (win L3 i (m + 1 + 1) + q' * Y = win L i (m + 1 + 1) + if (!up) then 1000000000 ^ (m + 1 + 1) else 0) := by
              rw [unhide Hyso] at hw8
              exact putback_close (unhide hw2) hw8
            clear hc8 hL3 hB3 hbW hg8 hso8 hw8 hso2 hw2
            have hnot : ∀ (x : Bool) (w : World), (Op.unary .not (.bool x)).run Tryz.prog w = .ok (.bool (!x)) w := fun _ _ => rfl
            go_wp2_with fail
            go_roundw
            case rel => exact ⟨q', !up, L3, rfl, by omega, hL8, hO8, hB8, hb8, Hso8, Hw8, HV3⟩
            case measure => rw [unhide Hc8, unhide Hcq]; omega
      ·
        obtain ⟨q1, hq1⟩ : ∃ q1 : Nat, q0 = q1 := ⟨_, rfl⟩
        have hq9 : q1 < 1000000000 := by omega
        rw [hq1]
        have HV1 : Hid (win L i (m + 1 + 1) / Y ≤ q1) := by rw [← hq1]; exact HVg
        clear hq1
        have hO1 := (hownO.stored i (.int .u64 (q1 : Int))).1
        rw [u64s_set _ _ q1 _ rfl] at hO1
        have hbW := (hb.setCell (p := ⟨bo, i, none⟩) hob (.int .u64 (q1 : Int))).drew
        have hL1 := ownsRow_setCell_other hownL (a := ⟨bo, i, none⟩) (by simp [Value.ownBlock]; omega) (.int .u64 (q1 : Int))
        have hB1 := ownsRow_setCell_other hownB (a := ⟨bo, i, none⟩) (by simp [Value.ownBlock]; omega) (.int .u64 (q1 : Int))
        refine (takeOff_c L ys gl gb i (m + 1) (n + 1) (n + 1 - i) cb q1 w.heap.size _ (unhide Hl5) hLl (by omega) (by omega) (by omega) (own_drew hL1) (own_drew hB1) (by omega) (unhide hLd) (unhide Hys9) hq9).mono ?_
        rintro e w7 ⟨neg, L1, rfl, hL7, hg7, hso7, hw7⟩
        have hO7 := (own_drew hO1).kept hg7 (.inr (by simp [Value.ownBlock]; omega))
        have hB7 := (own_drew hB1).kept hg7 (.inr (by simp [Value.ownBlock]; omega))
        have hb7 := hbW.grown hg7 hbW.size (fun k hk => by cases hk; omega)
        rw [unhide Hyso] at hw7
        have Hso7 := hide hso7
        have Hw7 := hide hw7
        clear hO1 hL1 hB1 hbW hg7 hso7 hw7
        go_wp2_with fail
        go_loopw [12] (fun bl wr => ∃ (q : Nat) (neg : Bool) (L2 : List Nat), bl = .bool neg ∧ q < 1000000000 ∧ wr.ownsRow w.heap.size 173 1 (.slice (some ⟨gl, 0, none⟩) (n + 1) (n + 1)) (n + 1) (u64s L2) ∧ wr.ownsRow w.heap.size 173 1 (.slice (some ⟨bo, 0, none⟩) K K) K (u64s (O.set i q)) ∧
            wr.ownsRow 0 173 1 (.slice (some ⟨gb, 0, none⟩) (m + 1) cb) (m + 1) (u64s ys) ∧ Below w.heap.size w wr ∧ Hid (sameOut L L2 i (m + 1 + 1)) ∧
            Hid (win L2 i (m + 1 + 1) + q * Y = win L i (m + 1 + 1) + if neg then 1000000000 ^ (m + 1 + 1) else 0) ∧ Hid (win L i (m + 1 + 1) / Y ≤ q))
          (fun _ wr => cellN wr bo i)
        case atStart => exact ⟨q1, neg, L1, rfl, hq9, hL7, hO7, hB7, hb7, Hso7, Hw7, HV1⟩
        case round =>
          clear hL7 hO7 hB7 hb7 Hso7 Hw7 HV1 hownL hownO hownB hb
          obtain ⟨q, ng, L2, rfl, hq, hL2, hO2, hB2, hb2, hso2, hw2, hV2⟩ := hrel
          cases ng with
          | false =>
            go_wp2_with fail
            go_roundw
            case rel =>
              have hw3 : win L2 i (m + 1 + 1) + q * Y = win L i (m + 1 + 1) := by have := unhide hw2; simpa using this
              have hlt3 := over_exact hw3 (unhide hV2) hpos0
              have hst := over_step (m := m + 1) (by omega) (by omega) (unhide hLd) (unhide HYl) (unhide hinv) (unhide hR) (unhide hso2) hw3 hlt3
              exact ⟨i, L2, O.set i q, by omega, rfl, (unhide hso2).1.trans hLl, by simpa using hOl, hL2, hO2, hB2, hb2, hide (unhide hso2).2.1, hide (set_all (unhide hOd) hq), hide hst.1, hide hst.2⟩
            case measure => simp [intOf]
          | true =>
            have hcO := hO2.cellAt i (by omega)
            rw [u64s_get _ _ (by simp; omega), List.getElem_set_self] at hcO
            have hfO2 := hO2.frozenAt i
            have hmore := over_more (unhide hw2) (win_lt (unhide hso2).2.1 i (m + 1 + 1) (by have := (unhide hso2).1; omega))
            have hq0' : 0 < q := Nat.lt_of_le_of_lt (Nat.zero_le _) hmore
            obtain ⟨q', rfl⟩ : ∃ q', q = q' + 1 := ⟨q - 1, by omega⟩
            have HV3 : Hid (win L i (m + 1 + 1) / Y ≤ q') := Nat.le_of_lt_succ hmore
            clear hmore
            have hO3 := (hO2.stored i (.int .u64 (q' : Int))).1
            rw [u64s_set _ _ q' _ rfl, List.set_set] at hO3
            have hbW := hb2.setCell (p := ⟨bo, i, none⟩) hob (.int .u64 (q' : Int))
            have hL3 := ownsRow_setCell_other hL2 (a := ⟨bo, i, none⟩) (by simp [Value.ownBlock]; omega) (.int .u64 (q' : Int))
            have hB3 := ownsRow_setCell_other hB2 (a := ⟨bo, i, none⟩) (by simp [Value.ownBlock]; omega) (.int .u64 (q' : Int))
            have hcq : cellN wr bo i = q' + 1 := cellN_of hcO
            have Hcq := hide hcq
            have hL2l := (unhide hso2).1.trans hLl
            have HO3 := hide hO3
            clear hL2 hO2 hB2 hb2 hcq hO3
            go_wp2_with fail
            refine (putBack_c L2 ys gl gb i (m + 1) (n + 1) (n + 1 - i) cb w.heap.size _ (unhide Hl5) hL2l (by omega) (by omega) (by omega) hL3 hB3 (by omega) (unhide hso2).2.1 (unhide Hys9)).mono ?_
            rintro e w8 ⟨up, L3, rfl, hL8, hg8, hso8, hw8⟩
            have hO8 := (unhide HO3).kept hg8 (.inr (by simp [Value.ownBlock]; omega))
            have hB8 := hB3.kept hg8 (.inr (by simp [Value.ownBlock]; omega))
            have hb8 := hbW.grown hg8 hbW.size (fun k hk => by cases hk; omega)
            have hc8 := hO8.cellAt i (by omega)
            rw [u64s_get _ _ (by simp; omega), List.getElem_set_self] at hc8
            have Hc8 := hide (cellN_of hc8)
            have Hso8 : Hid (sameOut L L3 i (m + 1 + 1)) := sameOut_trans (unhide hso2) hso8
            have Hw8 : Hid (win L3 i (m + 1 + 1) + q' * Y = win L i (m + 1 + 1) + if (!up) then 1000000000 ^ (m + 1 + 1) else 0) := by
              rw [unhide Hyso] at hw8
              exact putback_close (unhide hw2) hw8
            clear hc8 hL3 hB3 hbW hg8 hso8 hw8 hso2 hw2
            have hnot : ∀ (x : Bool) (w : World), (Op.unary .not (.bool x)).run Tryz.prog w = .ok (.bool (!x)) w := fun _ _ => rfl
            go_wp2_with fail
            go_roundw
            case rel => exact ⟨q', !up, L3, rfl, by omega, hL8, hO8, hB8, hb8, Hso8, Hw8, HV3⟩
            case measure => rw [unhide Hc8, unhide Hcq]; omega
end Go.Proofs.YtpbnmhnbkfnaeaaGreatDoor
namespace Go.Proofs.YtpbnmhnbkfnaeaaGreatDoor
open Go.RowKit Nt

theorem over_c (x y : Nat) (v u : Value) (w : World) (hx : isNat w v x) (hy : isNat w u y) (hsx : (gr x).length ≤ 1000000) (hsy : (gr y).length ≤ 1000000) (hy0 : 0 < y) :
    Calls Tryz.prog 183 #[v, u] w fun e w' => (∃ v1 v2, e = .returned (.tuple #[v1, v2]) ∧ isNat w' v1 (x / y) ∧ isNat w' v2 (x % y)) ∧ Below w.heap.size w w' := by
  rcases Nat.lt_or_ge x y with h | h
  · exact over_small x y v u w hx hy hsx hsy h
  · exact over_great x y v u w hx hy hsx hsy h hy0

/-- the number that a value's cells are: a measure alone -/
def valU (w : World) : Value → Nat
  | .slice (some a) n _ => ofd 1000000000 ((List.range n).map fun j => cellN w a.block j)
  | _ => 0

theorem valU_of {w : World} {v : Value} {x : Nat} (h : isNat w v x) : valU w v = x := by
  have ho := gr_ofd x
  unfold isNat at h
  generalize gr x = xs at *
  rcases own_shape h with ⟨rfl, hn, _⟩ | ⟨g, cap, rfl, _⟩
  · have : xs = [] := List.eq_nil_of_length_eq_zero hn
    subst this
    simp [valU]; simpa [ofd] using ho
  · show ofd 1000000000 ((List.range xs.length).map fun j => cellN w g j) = x
    rw [← ho]
    congr 1
    apply List.ext_getElem
    · simp
    · intro j h1 h2
      simp only [List.getElem_map, List.getElem_range]
      apply cellN_of
      rw [h.cellAt j (by omega), u64s_get _ _ h2]

set_option maxRecDepth 100000 in
set_option maxHeartbeats 4000000 in
theorem gcd_c (x y : Nat) (v u : Value) (w : World) (hx : isNat w v x) (hy : isNat w u y) (hsx : (gr x).length ≤ 1000000) (hsy : (gr y).length ≤ 1000000) :
    Calls Tryz.prog 182 #[v, u] w fun e w' => (∃ v', e = .returned v' ∧ isNat w' v' (Nat.gcd x y)) ∧ Below w.heap.size w w' := by
  go_enter Tryz.func182, Tryz.ntmps182
  go_wp2
  go_loopw [0, 1] (fun a b wr => ∃ (x' y' : Nat), isNat wr a x' ∧ isNat wr b y' ∧ (gr x').length ≤ 1000000 ∧ (gr y').length ≤ 1000000 ∧ Below w.heap.size w wr ∧ Hid (Nat.gcd x' y' = Nat.gcd x y))
    (fun _ b wr => valU wr b)
  case atStart => exact ⟨x, y, hx, hy, hsx, hsy, Below.refl _ _, hide rfl⟩
  case round =>
    obtain ⟨x', y', hx', hy', hsx', hsy', hb, hg⟩ := hrel
    obtain ⟨p, cap, hv⟩ := own_slice hy'
    by_cases hz : y' = 0
    · subst hz
      rw [gr_zero] at hv
      subst hv
      go_wp2
      go_ret
      refine ⟨⟨_, rfl, ?_⟩, hb⟩
      rw [← unhide hg, Nat.gcd_zero_right]
      exact hx'
    · have hn0 : 0 < (gr y').length := by
        rcases Nat.eq_zero_or_pos (gr y').length with h | h
        · exact absurd (gr_nil.1 (List.eq_nil_of_length_eq_zero h)) hz
        · exact h
      have hnI : ¬ ((gr y').length : Int) ≤ 0 := by omega
      have Hy := hide hy'
      have Hx := hide hx'
      subst hv
      clear hx' hy'
      go_wp2_with fail
      refine (over_c x' y' _ _ _ (unhide Hx) (unhide Hy) hsx' hsy' (by omega)).mono ?_
      rintro e w1 ⟨⟨v1, v2, rfl, hv1, hv2⟩, hb1⟩
      have hy1 := own_below (unhide Hy) hb1
      have hlt := Nat.mod_lt x' (show 0 < y' by omega)
      have hlen := gr_len_le (Nat.le_of_lt hlt)
      have hm1 := valU_of (unhide Hy)
      have hm2 := valU_of hv2
      have Hm1 := hide hm1
      have Hm2 := hide hm2
      have HV2 := hide hv2
      have HY1 := hide hy1
      clear hm1 hm2 hv2 hv1 hy1
      go_wp2_with fail
      go_roundw
      case rel =>
        refine ⟨y', x' % y', unhide HY1, unhide HV2, hsy', by omega, hb.trans (hb1.mono hb.size), hide ?_⟩
        rw [Nat.gcd_comm y', ← Nat.gcd_rec y' x', Nat.gcd_comm, unhide hg]
      case measure =>
        rw [unhide Hm2, unhide Hm1]; exact hlt
end Go.Proofs.YtpbnmhnbkfnaeaaGreatDoor
namespace Go.Proofs.YtpbnmhnbkfnaeaaGreatDoor
open Go.RowKit Nt

/-- what stands behind k exchanges -/
def revTo (l l' : List UInt8) (k : Nat) : Prop :=
  l'.length = l.length ∧ ∀ t (h : t < l.length) (h' : t < l'.length), l'[t] = if t < k ∨ l.length - k ≤ t then l[l.length - 1 - t]'(by omega) else l[t]

theorem revTo_zero (l : List UInt8) : revTo l l 0 := ⟨rfl, fun t h h' => by rw [if_neg (by omega)]⟩
theorem revTo_end {l l' : List UInt8} {k : Nat} (h : revTo l l' k) (hk : l.length ≤ 2 * k + 1) : l' = l.reverse := by
  apply List.ext_getElem
  · simp [h.1]
  · intro t h1 h2
    rw [List.getElem_reverse, h.2 t (by simpa using h2) h1]
    by_cases ht : t < k ∨ l.length - k ≤ t
    · rw [if_pos ht]
    · rw [if_neg ht]
      congr 1
      have : t < l.length := by simpa using h2
      omega
theorem revTo_step {l l' : List UInt8} {k : Nat} (h : revTo l l' k) (hk : 2 * k + 1 < l.length) {a b : UInt8} (ha : l'[k]? = some a) (hb : l'[l.length - 1 - k]? = some b) :
    revTo l ((l'.set k b).set (l.length - 1 - k) a) (k + 1) := by
  have hl := h.1
  have ha' : l[k]'(by omega) = a := by
    rw [List.getElem?_eq_getElem (by omega)] at ha
    have := h.2 k (by omega) (by omega)
    rw [if_neg (by omega)] at this
    rw [← this]; simpa using ha
  have hb' : l[l.length - 1 - k]'(by omega) = b := by
    rw [List.getElem?_eq_getElem (by omega)] at hb
    have := h.2 (l.length - 1 - k) (by omega) (by omega)
    rw [if_neg (by omega)] at this
    rw [← this]; simpa using hb
  refine ⟨by simpa using hl, ?_⟩
  intro t h1 h2
  by_cases h3 : t = l.length - 1 - k
  · subst h3
    rw [List.getElem_set_self, if_pos (by omega), ← ha']
    congr 1; omega
  · rw [List.getElem_set_ne (by omega)]
    by_cases h4 : t = k
    · subst h4
      rw [List.getElem_set_self, if_pos (by omega), ← hb']
    · rw [List.getElem_set_ne (by omega), h.2 t h1 (by omega)]
      by_cases h5 : t < k ∨ l.length - k ≤ t
      · rw [if_pos h5, if_pos (by omega)]
      · rw [if_neg h5, if_neg (by omega)]

theorem u8v_cell (l : List UInt8) (j : Nat) (h : j < l.length) : (l.map u8v)[j]? = some (.int .u8 (l[j]).toNat) := by simp [u8v, h]
theorem u8v_set (l : List UInt8) (j : Nat) (c : UInt8) : (l.map u8v).set j (.int .u8 c.toNat) = (l.set j c).map u8v := by simp [u8v, List.map_set]

set_option maxRecDepth 100000 in
set_option maxHeartbeats 4000000 in
theorem reverse_c (l : List UInt8) (g cap base : Nat) (w : World) (hs : l.length ≤ 1000000000) (h : w.ownsRow base 5 1 (.slice (some ⟨g, 0, none⟩) l.length cap) l.length (l.map u8v)) :
    Calls Tryz.prog 207 #[.slice (some ⟨g, 0, none⟩) l.length cap] w fun e w' => e = .returned (.tuple #[]) ∧ w'.ownsRow base 5 1 (.slice (some ⟨g, 0, none⟩) l.length cap) l.length (l.reverse.map u8v) ∧ w.grownBy w' (some g) := by
  go_enter Tryz.func207, Tryz.ntmps207
  go_wp2
  go_loopw [2, 3] (fun i j wr => ∃ (k : Nat) (l' : List UInt8), 2 * k ≤ l.length + 1 ∧ i = .int .i64 k ∧ j = .int .i64 ((l.length : Int) - 1 - k) ∧ wr.ownsRow base 5 1 (.slice (some ⟨g, 0, none⟩) l.length cap) l.length (l'.map u8v) ∧ w.grownBy wr (some g) ∧ Hid (revTo l l' k))
    (fun i _ _ => l.length - (intOf i).toNat)
  case atStart => exact ⟨0, l, by omega, rfl, by go_num, h, World.grownBy.refl _ _, hide (revTo_zero l)⟩
  case round =>
    obtain ⟨k, l', hk, rfl, rfl, hown, hg, hrev⟩ := hrel
    by_cases hlt : 2 * k + 1 < l.length
    · have hll := (unhide hrev).1
      have hlI : (k : Int) < (l.length : Int) - 1 - k := by omega
      have hc0 := hown.cellAt k (by omega)
      rw [u8v_cell _ _ (by omega)] at hc0
      have hc1 := hown.cellAt (l.length - 1 - k) (by omega)
      rw [u8v_cell _ _ (by omega)] at hc1
      have hf0 := hown.frozenAt k
      have hf1 := hown.frozenAt (l.length - 1 - k)
      have hga : l'[k]? = some (l'[k]'(by omega)) := List.getElem?_eq_getElem _
      have hgb : l'[l.length - 1 - k]? = some (l'[l.length - 1 - k]'(by omega)) := List.getElem?_eq_getElem _
      have hstep := fun a b ha hb => @revTo_step l l' k (unhide hrev) hlt a b ha hb
      have hst1 := hstep _ _ hga hgb
      generalize l'[k]'(by omega) = a at *
      generalize l'[l.length - 1 - k]'(by omega) = b at *
      have hs1 := hown.stored k (.int .u8 b.toNat)
      rw [u8v_set] at hs1
      have hs2 := hs1.1.stored (l.length - 1 - k) (.int .u8 a.toNat)
      rw [u8v_set] at hs2
      have Hown := hide hs2.1
      have Hg := hide (grownBy_trans (grownBy_trans hg hs1.2) hs2.2)
      have Hst := hide hst1
      have e1 : ((l.length : Int) - 1 - k).toNat = l.length - 1 - k := by omega
      have hkl : (k : Int) < l.length := by omega
      have hjl : (l.length : Int) - 1 - k < l.length := by omega
      have hj0 : 0 ≤ (l.length : Int) - 1 - k := by omega
      have hne : ¬ k = l.length - 1 - k := by omega
      clear hs1 hs2 hst1 hstep hga hgb hll
      go_wp2
      go_region
      all_goals
        go_wp2
        go_roundw
        case rel => exact ⟨k + 1, (l'.set k b).set (l.length - 1 - k) a, by omega, by go_num, by go_num, unhide Hown, ⟨(unhide Hg).os, (unhide Hg).tape, (unhide Hg).output, (unhide Hg).size, (unhide Hg).block⟩, Hst⟩
        case measure => simp [intOf]; omega
    · go_wp2
      go_end0
      have := revTo_end (unhide hrev) (by omega)
      rw [this] at hown
      exact ⟨rfl, hown, hg⟩
end Go.Proofs.YtpbnmhnbkfnaeaaGreatDoor
namespace Go.Proofs.YtpbnmhnbkfnaeaaGreatDoor
open Go.RowKit Nt

def plain (l : List UInt8) : Bool := isDec l && decide (l.length ≤ 60)

theorem plain_long {l : List UInt8} (h : 60 < l.length) : plain l = false := by
  unfold plain; rw [decide_eq_false (by omega)]; simp
theorem plain_of {l : List UInt8} (h : isDec l = false) : plain l = false := by unfold plain; rw [h]; simp

/-- the rune at a place is a digit's just if the byte is -/
theorem rune_dig (l : List UInt8) (pos : Nat) (h : pos < l.length) :
    (48 ≤ (l[pos]).toNat ∧ (l[pos]).toNat ≤ 57 ∧ Utf8.decode (B l) pos = ((l[pos]).toNat, 1)) ∨ (¬ (48 ≤ (l[pos]).toNat ∧ (l[pos]).toNat ≤ 57) ∧ ((Utf8.decode (B l) pos).1 < 48 ∨ 57 < (Utf8.decode (B l) pos).1)) := by
  have h2 : pos < (B l).size := by rw [B_size]; exact h
  have hg : ((B l)[pos]'h2) = l[pos]'h := B_get l pos h2
  by_cases ha : (l[pos]).toNat < 128
  · have := decode_ascii (B l) pos h2 (by rw [hg]; exact ha)
    rw [hg] at this
    by_cases hd : 48 ≤ (l[pos]).toNat ∧ (l[pos]).toNat ≤ 57
    · exact .inl ⟨hd.1, hd.2, this⟩
    · refine .inr ⟨hd, ?_⟩
      rw [this]
      show (l[pos]).toNat < 48 ∨ 57 < (l[pos]).toNat
      omega
  · have := (decode_high (B l) pos h2 (by rw [hg]; omega)).1
    exact .inr ⟨by omega, .inr (by omega)⟩


set_option maxRecDepth 100000 in
set_option maxHeartbeats 4000000 in
theorem numPlain_c (l : List UInt8) (w : World) (hs : l.length ≤ 1000000000) :
    Calls Tryz.prog 185 #[.string (B l)] w fun e w' => e = .returned (.bool (plain l)) ∧ Below w.heap.size w w' := by
  have hI : ((B l).size : Int) = (l.length : Int) := by rw [B_size]
  by_cases hz : l.length = 0
  · have : l = [] := List.eq_nil_of_length_eq_zero hz
    subst this
    have hI0 : (((B []).size : Int) == 0) = true := by rw [hI]; rfl
    clear hI hz hs
    go_enter Tryz.func185, Tryz.ntmps185
    go_wp2
    go_ret
    exact ⟨rfl, Below.refl _ _⟩
  · have h0 : 0 < l.length := by omega
    have h0I : (((B l).size : Int) == 0) = false := by rw [beq_eq_false_iff_ne]; omega
    by_cases h60 : 60 < l.length
    · have h60I : (60 : Int) < ((B l).size : Int) := by omega
      rw [plain_long h60]
      clear hI hz h60
      go_enter Tryz.func185, Tryz.ntmps185
      go_wp2
      go_ret
      exact ⟨rfl, Below.refl _ _⟩
    · have h60I : ¬ (60 : Int) < ((B l).size : Int) := by omega
      by_cases h1 : 1 < l.length
      · have h1I : (1 : Int) < ((B l).size : Int) := by omega
        have hg0 : 0 < (B l).size := by omega
        have hg : ((B l)[0]'hg0).toNat = (l[0]'h0).toNat := by rw [B_get]
        by_cases hc : l[0]'h0 = 48
        · have hq : ((((B l)[0]'hg0).toNat : Int) == 48) = true := by rw [hg, hc]; rfl
          have hf : plain l = false := by
            apply plain_of
            cases hd : isDec l with
            | false => rfl
            | true =>
              unfold isDec at hd
              simp only [bne_iff_ne, Bool.and_eq_true, Bool.or_eq_true, decide_eq_true_eq] at hd
              rcases hd.2 with h2 | h2
              · omega
              · exact absurd (by rw [List.head?_eq_getElem?, List.getElem?_eq_getElem h0, hc]) h2
          rw [hf]
          clear hI hc hg hf hz
          go_enter Tryz.func185, Tryz.ntmps185
          go_wp2
          go_ret
          exact ⟨rfl, Below.refl _ _⟩
        · have hq : ((((B l)[0]'hg0).toNat : Int) == 48) = false := by
            rw [hg, beq_eq_false_iff_ne]
            intro hh
            apply hc
            apply UInt8.toNat_inj.1
            simp only [UInt8.toNat_ofNat]; omega
          have hl0 : Hid (l.length ≤ 1 ∨ l.head? ≠ some 48) := .inr (by
            rw [List.head?_eq_getElem?, List.getElem?_eq_getElem h0]
            intro hh; exact hc (by simpa using hh))
          clear hI hc hg hz
          go_enter Tryz.func185, Tryz.ntmps185
          go_wp2
          go_loopw [4] (fun _ wr => ∃ pos : Nat, pos ≤ l.length ∧ wr.heap[w.heap.size]? = some (.stringIter (B l) pos) ∧ Below w.heap.size w wr ∧ Hid (∀ j (hj : j < l.length), j < pos → 48 ≤ (l[j]).toNat ∧ (l[j]).toNat ≤ 57))
            (fun _ wr => l.length - wr.iterPos w.heap.size)
          case atStart => exact ⟨0, Nat.zero_le _, World.iter_heap _ _ _, (Below.refl _ _).alloc (Nat.le_refl _) _, hide (fun j _ h => by omega)⟩
          case round =>
            obtain ⟨pos, hpl, hit, hb, hv⟩ := hrel
            have hpos0 := iterPos_of hit
            by_cases hlt : pos < l.length
            · have hlt2 : pos < (B l).size := by rw [B_size]; exact hlt
              have hnx := fun ty => Lib.run_next_any_at (P := Tryz.prog) wr w.heap.size (B l) pos ty hit hlt2
              rcases rune_dig l pos hlt with ⟨h1, h2, h3⟩ | ⟨h1, h2⟩
              · rw [h3] at hnx
                have hit2 := Lib.iterAt_heap wr w.heap.size (B l) pos (pos + 1) hit
                have hb2 := Lib.below_iterAt hb (k := w.heap.size) (Nat.le_refl _) (B l) (pos + 1)
                have hpos2 := iterPos_of hit2
                have hv2 : Hid (∀ j (hj : j < l.length), j < pos + 1 → 48 ≤ (l[j]).toNat ∧ (l[j]).toNat ≤ 57) := by
                  intro j hj hjk
                  by_cases hjk2 : j < pos
                  · exact unhide hv j hj hjk2
                  · have : j = pos := by omega
                    subst this; exact ⟨h1, h2⟩
                have h1I : (48 : Int) ≤ ((l[pos]'hlt).toNat : Int) := by omega
                have h2I : ((l[pos]'hlt).toNat : Int) ≤ 57 := by omega
                have Hit2 := hide hit2
                have Hp0 := hide hpos0
                have Hp2 := hide hpos2
                clear h3 hit hit2 hpos0 hpos2
                go_wp2
                go_roundw
                case rel => exact ⟨pos + 1, by omega, unhide Hit2, hb2, hv2⟩
                case measure => rw [unhide Hp0, unhide Hp2]; omega
              · have hb2 := Lib.below_iterAt hb (k := w.heap.size) (Nat.le_refl _) (B l) (pos + (Utf8.decode (B l) pos).2)
                have hf := plain_of (isDec_bad pos hlt h1)
                have Hf := hide hf
                generalize Utf8.decode (B l) pos = rw_ at *
                clear hf h1 hit hpos0
                rcases h2 with h2 | h2
                · have h2I : (rw_.1 : Int) < 48 := by omega
                  clear h2
                  go_wp2
                  go_ret
                  exact ⟨ret_bool (unhide Hf).symm, hb2⟩
                · have h2I : (57 : Int) < rw_.1 := by omega
                  have h3I : ¬ (rw_.1 : Int) < 48 := by omega
                  clear h2
                  go_wp2
                  go_ret
                  exact ⟨ret_bool (unhide Hf).symm, hb2⟩
            · have hlt2 : ¬ pos < (B l).size := by rw [B_size]; exact hlt
              have hnx := fun ty => Lib.run_next_end_at (P := Tryz.prog) wr w.heap.size (B l) pos ty hit hlt2
              have hf : plain l = true := by
                unfold plain
                rw [isDec_good h0 (unhide hl0) (fun j hj => unhide hv j hj (by omega)), decide_eq_true (by omega)]; rfl
              have Hf := hide hf
              clear hf hit hpos0
              go_wp2
              go_ret
              exact ⟨ret_bool (unhide Hf).symm, hb⟩
      · have h1I : ¬ (1 : Int) < ((B l).size : Int) := by omega
        have hl0 : Hid (l.length ≤ 1 ∨ l.head? ≠ some 48) := .inl (by omega)
        clear hI hz
        go_enter Tryz.func185, Tryz.ntmps185
        go_wp2
        go_loopw [4] (fun _ wr => ∃ pos : Nat, pos ≤ l.length ∧ wr.heap[w.heap.size]? = some (.stringIter (B l) pos) ∧ Below w.heap.size w wr ∧ Hid (∀ j (hj : j < l.length), j < pos → 48 ≤ (l[j]).toNat ∧ (l[j]).toNat ≤ 57))
          (fun _ wr => l.length - wr.iterPos w.heap.size)
        case atStart => exact ⟨0, Nat.zero_le _, World.iter_heap _ _ _, (Below.refl _ _).alloc (Nat.le_refl _) _, hide (fun j _ h => by omega)⟩
        case round =>
          obtain ⟨pos, hpl, hit, hb, hv⟩ := hrel
          have hpos0 := iterPos_of hit
          by_cases hlt : pos < l.length
          · have hlt2 : pos < (B l).size := by rw [B_size]; exact hlt
            have hnx := fun ty => Lib.run_next_any_at (P := Tryz.prog) wr w.heap.size (B l) pos ty hit hlt2
            rcases rune_dig l pos hlt with ⟨h1, h2, h3⟩ | ⟨h1, h2⟩
            · rw [h3] at hnx
              have hit2 := Lib.iterAt_heap wr w.heap.size (B l) pos (pos + 1) hit
              have hb2 := Lib.below_iterAt hb (k := w.heap.size) (Nat.le_refl _) (B l) (pos + 1)
              have hpos2 := iterPos_of hit2
              have hv2 : Hid (∀ j (hj : j < l.length), j < pos + 1 → 48 ≤ (l[j]).toNat ∧ (l[j]).toNat ≤ 57) := by
                intro j hj hjk
                by_cases hjk2 : j < pos
                · exact unhide hv j hj hjk2
                · have : j = pos := by omega
                  subst this; exact ⟨h1, h2⟩
              have h1I : (48 : Int) ≤ ((l[pos]'hlt).toNat : Int) := by omega
              have h2I : ((l[pos]'hlt).toNat : Int) ≤ 57 := by omega
              have Hit2 := hide hit2
              have Hp0 := hide hpos0
              have Hp2 := hide hpos2
              clear h3 hit hit2 hpos0 hpos2
              go_wp2
              go_roundw
              case rel => exact ⟨pos + 1, by omega, unhide Hit2, hb2, hv2⟩
              case measure => rw [unhide Hp0, unhide Hp2]; omega
            · have hb2 := Lib.below_iterAt hb (k := w.heap.size) (Nat.le_refl _) (B l) (pos + (Utf8.decode (B l) pos).2)
              have hf := plain_of (isDec_bad pos hlt h1)
              have Hf := hide hf
              generalize Utf8.decode (B l) pos = rw_ at *
              clear hf h1 hit hpos0
              rcases h2 with h2 | h2
              · have h2I : (rw_.1 : Int) < 48 := by omega
                clear h2
                go_wp2
                go_ret
                exact ⟨ret_bool (unhide Hf).symm, hb2⟩
              · have h2I : (57 : Int) < rw_.1 := by omega
                have h3I : ¬ (rw_.1 : Int) < 48 := by omega
                clear h2
                go_wp2
                go_ret
                exact ⟨ret_bool (unhide Hf).symm, hb2⟩
          · have hlt2 : ¬ pos < (B l).size := by rw [B_size]; exact hlt
            have hnx := fun ty => Lib.run_next_end_at (P := Tryz.prog) wr w.heap.size (B l) pos ty hit hlt2
            have hf : plain l = true := by
              unfold plain
              rw [isDec_good h0 (unhide hl0) (fun j hj => unhide hv j hj (by omega)), decide_eq_true (by omega)]; rfl
            have Hf := hide hf
            clear hf hit hpos0
            go_wp2
            go_ret
            exact ⟨ret_bool (unhide Hf).symm, hb⟩
end Go.Proofs.YtpbnmhnbkfnaeaaGreatDoor
namespace Go.Proofs.YtpbnmhnbkfnaeaaGreatDoor
open Go.RowKit Nt

theorem ints_length (l : List Nat) : (ints l).length = l.length := by simp [ints]
theorem ints_get (l : List Nat) (j : Nat) (h : j < l.length) : (ints l)[j]? = some (.int .i64 (l[j] : Nat)) := by simp [ints, h]
theorem ints_set (l : List Nat) (j d : Nat) : (ints l).set j (.int .i64 (d : Int)) = ints (l.set j d) := by simp [ints, List.map_set]
theorem ints_zero (n : Nat) : List.replicate n (Value.int .i64 0) = ints (List.replicate n 0) := by simp [ints]

theorem ints_set' (l : List Nat) (j d : Nat) (v : Int) (h : v = (d : Int)) : (ints l).set j (.int .i64 v) = ints (l.set j d) := by rw [h, ints_set]

/-- what is left when the carries are laid: each a digit -/
theorem mul_norm {xs : List Nat} {L j X : Nat} (hl : xs.length = L) (hj : j + 1 = L) (h : ∀ t (ht : t < xs.length), t < j → xs[t] < 10) (hX : ofd 10 xs = X) (hlt : X < 10 ^ L) : ∀ d ∈ xs, d < 10 := by
  intro d hd
  obtain ⟨t, ht, rfl⟩ := List.getElem_of_mem hd
  by_cases htj : t < j
  · exact h t ht htj
  · have htj2 : t = j := by omega
    subst htj2
    have h1 := ofd_ge 10 xs t ht
    rw [hX] at h1
    rw [← hj, Nat.pow_succ] at hlt
    have h2 : 10 ^ t * xs[t] < 10 ^ t * 10 := by omega
    exact Nat.lt_of_mul_lt_mul_left h2

theorem mul_lt_pow {a b i la lb L : Nat} (hla : (dec a).size = la) (hlb : (dec b).size = lb) (hL : la + lb = L) : a % 10 ^ (i + 1) * b < 10 ^ L := by
  have h1 := dec_lt a
  have h2 := dec_lt b
  rw [hla] at h1
  rw [hlb] at h2
  rw [← hL, Nat.pow_add 10 la lb]
  exact Nat.mul_lt_mul'' (Nat.lt_of_le_of_lt (Nat.mod_le _ _) h1) h2

theorem norm_step {xs : List Nat} {j x y q r X : Nat} (hj : j + 1 < xs.length) (hx : xs[j]'(by omega) = x) (hy : xs[j + 1] = y) (hq : x / 10 = q) (hr : x % 10 = r) (hX : ofd 10 xs = X) :
    ofd 10 ((xs.set (j + 1) (y + q)).set j r) = X := by
  have h1 := ofd_set 10 xs (j + 1) (y + q) hj
  have h2 := ofd_set 10 (xs.set (j + 1) (y + q)) j r (by rw [List.length_set]; omega)
  rw [List.getElem_set_ne (by omega), hx] at h2
  rw [hy, hX, ← hq] at h1
  rw [← hr, ← hq] at h2
  have := carry_step h1 h2
  rw [← hq, ← hr]; exact this

/-- the row that is written: of L integers -/
abbrev rowOf (w : World) (L : Nat) : Value := .slice (some ⟨w.heap.size, 0, none⟩) L L

set_option maxRecDepth 100000 in
set_option maxHeartbeats 4000000 in
theorem l1Mul_c (a b : Nat) (w : World) (hsa : (dec a).size ≤ 100000) (hsb : (dec b).size ≤ 100000) :
    Calls Tryz.prog 133 #[.string (dec a), .string (dec b)] w fun e w' => e = .returned (.string (dec (a * b))) ∧ Below w.heap.size w w' := by
  obtain ⟨i0, hi, hz0, hz1, hz2⟩ := info_parts Tryz.infoInt
  obtain ⟨la, hla⟩ : ∃ la, (dec a).size = la := ⟨_, rfl⟩
  obtain ⟨lb, hlb⟩ : ∃ lb, (dec b).size = lb := ⟨_, rfl⟩
  have Hla := hide hla
  have Hlb := hide hlb
  obtain ⟨L, hL⟩ : ∃ L, la + lb = L := ⟨_, rfl⟩
  have hLI : (la : Int) + lb = L := by omega
  have HL := hide hL
  have hlaI : ((dec a).size : Int) = la := by omega
  have hlbI : ((dec b).size : Int) = lb := by omega
  rw [hla] at hsa
  rw [hlb] at hsb
  have hLs : L ≤ 200000 := by omega
  have hlaL : la ≤ L := by omega
  clear hL
  go_enter Tryz.func133, Tryz.ntmps133
  go_wp2_with (refine wpList_make_full _ rfl (.tmp 13) (.tmp 13) 24 rfl w.heap.size 3 i0 (.int .i64 0) 1 Tryz.underlying24 hi hz0 hz1 .i64 .i64 L L L rfl rfl rfl rfl (by rw [hz2]; omega) (by unfold maxLen; omega) (Nat.le_refl _) ?_; intro w1 hown1 hg1)
  go_loopw [6, 7, 8] (fun i k j wr => ∃ (i' : Nat) (xs : List Nat), i' ≤ la ∧ i = .int .i64 i' ∧ xs.length = L ∧ wr.ownsRow w.heap.size 3 1 (rowOf w L) L (ints xs) ∧ Below w.heap.size w wr ∧
      Hid (∀ d ∈ xs, d < 10) ∧ Hid (ofd 10 xs = a % 10 ^ i' * b))
    (fun i _ _ _ => la - (intOf i).toNat)
  case atStart =>
    refine ⟨0, List.replicate L 0, Nat.zero_le _, rfl, by simp, ?_, (Below.refl _ _).grown hg1 (Nat.le_refl _) (fun _ h => by cases h), ?_, ?_⟩
    · simpa [Value.cells, toList_madeCells_one, ints_zero] using hown1
    · intro d hd; simp at hd; omega
    · show _ = _; rw [ofd_replicate_zero]; simp [Nat.mod_one]
  case round =>
    clear hown1 hg1
    obtain ⟨i', xs, hi', rfl, hxl, hown, hb, hdg, hval⟩ := hrel
    by_cases hlt : i' < la
    · have hai : a / 10 ^ i' % 10 < 10 := Nat.mod_lt _ (by omega)
      generalize hga : a / 10 ^ i' % 10 = ai at *
      have Ha := hide hga
      clear hga
      go_wp2
      go_loopw [7] (fun k wr => ∃ (k' : Nat) (xs : List Nat), k' ≤ lb ∧ k = .int .i64 k' ∧ xs.length = L ∧ wr.ownsRow w.heap.size 3 1 (rowOf w L) L (ints xs) ∧ Below w.heap.size w wr ∧
          Hid (∀ d ∈ xs, d ≤ 90) ∧ Hid (∀ j (h : j < xs.length), i' + k' ≤ j → xs[j] < 10) ∧ Hid (ofd 10 xs = a % 10 ^ i' * b + 10 ^ i' * (ai * (b % 10 ^ k'))))
        (fun k _ => lb - (intOf k).toNat)
      case atStart =>
        exact ⟨0, xs, Nat.zero_le _, rfl, hxl, hown, hb, hide (fun d hd => by have := unhide hdg d hd; omega), hide (fun j h _ => unhide hdg _ (List.getElem_mem h)), hide (by rw [unhide hval]; simp [Nat.mod_one])⟩
      case round =>
        clear hown hb hdg hval hxl
        clear xs
        obtain ⟨k', xs, hk', rfl, hxl, hown, hb, hdg, hup, hval⟩ := hrel
        by_cases hlt2 : k' < lb
        · have hbk : b / 10 ^ k' % 10 < 10 := Nat.mod_lt _ (by omega)
          generalize hgb : b / 10 ^ k' % 10 = bk at *
          have Hb := hide hgb
          clear hgb
          have hjL : i' + k' < L := by omega
          have hx10 : xs[i' + k']'(by omega) < 10 := unhide hup _ (by omega) (Nat.le_refl _)
          have hcell := hown.cellAt (i' + k') (by omega)
          rw [ints_get _ _ (by omega)] at hcell
          have hfr := hown.frozenAt (i' + k')
          generalize hx : xs[i' + k']'(by omega) = x at *
          have Hx := hide hx
          have hmul : ai * bk ≤ 9 * 9 := Nat.mul_le_mul (by omega) (by omega)
          generalize hpp : ai * bk = pp at *
          have hppI : (ai : Int) * bk = pp := by rw [← hpp]; simp
          have Hpp := hide hpp
          clear hx hpp
          have hst := hown.stored (i' + k') (.int .i64 ((x : Int) + pp))
          rw [ints_set' _ _ (x + pp) _ (by simp)] at hst
          have Hst := hide hst
          clear hst
          have e1 := wi64 ((i' : Int) + k') (by omega) (by omega)
          have e2 := wi64 (pp : Int) (by omega) (by omega)
          have e3 := wi64 ((x : Int) + pp) (by omega) (by omega)
          have e4 : ((i' : Int) + k').toNat = i' + k' := by omega
          have hix : (i' : Int) + k' < L := by omega
          go_wp2
          go_region_with (first | (go_at_call_of 163 (dec a); refine (l1At_d a i' ai _ (unhide Ha) (by omega) (by omega)).mono ?_; rintro e w1 ⟨rfl, rfl⟩) | (go_at_call_of 163 (dec b); refine (l1At_d b k' bk _ (unhide Hb) (by omega) (by omega)).mono ?_; rintro e w1 ⟨rfl, rfl⟩))
          all_goals
            go_wp2
            go_roundw
            case rel =>
              refine ⟨k' + 1, xs.set (i' + k') (x + pp), by omega, by go_num, by simpa using hxl, (unhide Hst).1, ?_, hide (set_all (unhide hdg) (by omega)), ?_, ?_⟩
              · first
                | exact (hb.setCell (by simp) _).drew
                | exact hb.setCell (by simp) _
              · intro j hj hij
                rw [List.getElem_set_ne (by omega)]
                exact unhide hup j (by simpa using hj) (by omega)
              · have hs := ofd_set 10 xs (i' + k') (x + pp) (by omega)
                rw [unhide Hx, ← unhide Hpp] at hs
                have := mul_step (unhide Ha) (unhide Hb) (unhide hval) hs
                rw [unhide Hpp] at this
                exact this
            case measure => simp [intOf]; omega
        · have hkl : k' = lb := by omega
          subst hkl
          have hlen := Nat.lt_of_le_of_lt (Nat.zero_le _) hlt
          go_wp2
          go_loopw [8] (fun j wr => ∃ (j' : Nat) (xs : List Nat), j' + 1 ≤ L ∧ j = .int .i64 j' ∧ xs.length = L ∧ wr.ownsRow w.heap.size 3 1 (rowOf w L) L (ints xs) ∧ Below w.heap.size w wr ∧
              Hid (∀ d ∈ xs, d ≤ 99) ∧ Hid (∀ t (h : t < xs.length), t < j' → xs[t] < 10) ∧ Hid (∀ t (h : t < xs.length), j' < t → xs[t] ≤ 90) ∧ Hid (ofd 10 xs = a % 10 ^ (i' + 1) * b))
            (fun j _ => L - (intOf j).toNat)
          case atStart =>
            refine ⟨0, xs, by omega, rfl, hxl, hown, hb, hide (fun d hd => by have := unhide hdg d hd; omega), hide (fun j h _ => by omega), hide (fun t ht _ => unhide hdg _ (List.getElem_mem ht)), ?_⟩
            show _ = _
            rw [unhide hval, ← mul_row (unhide Ha)]
            have hbl := dec_lt b
            rw [unhide Hlb] at hbl
            rw [Nat.mod_eq_of_lt hbl]
          case round =>
            clear hown hb hdg hval hxl hup
            clear xs
            obtain ⟨j', xs, hj', rfl, hxl, hown, hb, hdg, hlow, hhi, hval⟩ := hrel
            by_cases hlt3 : j' + 1 < L
            · have hc0 := hown.cellAt j' (by omega)
              rw [ints_get _ _ (by omega)] at hc0
              have hc1 := hown.cellAt (j' + 1) (by omega)
              rw [ints_get _ _ (by omega)] at hc1
              have hf0 := hown.frozenAt j'
              have hf1 := hown.frozenAt (j' + 1)
              have hx99 : xs[j']'(by omega) ≤ 99 := unhide hdg _ (List.getElem_mem _)
              have hy90 : xs[j' + 1]'(by omega) ≤ 90 := unhide hhi _ (by omega) (by omega)
              generalize hx : xs[j']'(by omega) = x at *
              generalize hy : xs[j' + 1]'(by omega) = y at *
              have Hx := hide hx
              have Hy := hide hy
              clear hx hy
              obtain ⟨q, hq⟩ : ∃ q : Nat, (x : Int) / 10 = q := ⟨x / 10, by omega⟩
              obtain ⟨r, hr⟩ : ∃ r : Nat, (x : Int) % 10 = r := ⟨x % 10, by omega⟩
              have hqN : x / 10 = q := by omega
              have hrN : x % 10 = r := by omega
              have HqN := hide hqN
              have HrN := hide hrN
              clear hqN hrN
              have hq9 : q ≤ 9 := by omega
              have hr9 : r ≤ 9 := by omega
              have hq' : (x : Int).tdiv 10 = q := by rw [Int.tdiv_eq_ediv_of_nonneg (by omega)]; exact hq
              have hr' : (x : Int).tmod 10 = r := by rw [Int.tmod_eq_emod_of_nonneg (by omega)]; exact hr
              have hst := hown.stored (j' + 1) (.int .i64 ((y : Int) + q))
              rw [ints_set' _ _ (y + q) _ (by simp)] at hst
              have hst2 := hst.1.stored j' (.int .i64 (r : Int))
              rw [ints_set] at hst2
              have Hst := hide hst2
              have e1 := wi64 ((j' : Int) + 1) (by omega) (by omega)
              have e2 := wi64 ((y : Int) + q) (by omega) (by omega)
              have e3 := wi64 (q : Int) (by omega) (by omega)
              have e4 : ((j' : Int) + 1).toNat = j' + 1 := by omega
              have hix : (j' : Int) + 1 < L := by omega
              clear hst hst2
              go_wp2
              go_region
              all_goals
                go_wp2
                go_roundw
                case rel =>
                  refine ⟨j' + 1, (xs.set (j' + 1) (y + q)).set j' r, by omega, by go_num, by simpa using hxl, (unhide Hst).1, ((hb.setCell (by simp) _).setCell (by simp) _).drew, hide (set_all (set_all (unhide hdg) (by omega)) (by omega)), ?_, ?_, hide (norm_step (by omega) (unhide Hx) (unhide Hy) (unhide HqN) (unhide HrN) (unhide hval))⟩
                  · intro t ht htj
                    by_cases hh : t = j'
                    · subst hh; rw [List.getElem_set_self]; omega
                    · rw [List.getElem_set_ne (by omega), List.getElem_set_ne (by omega)]
                      exact unhide hlow t (by simpa using ht) (by omega)
                  · intro t ht htj
                    rw [List.getElem_set_ne (by omega), List.getElem_set_ne (by omega)]
                    exact unhide hhi t (by simpa using ht) (by omega)
                case measure => simp [intOf]; omega
            · go_wp2
              go_roundw
              case rel =>
                have hjl : j' + 1 = L := by omega
                exact ⟨i' + 1, xs, by omega, by go_num, hxl, hown, hb, hide (mul_norm hxl hjl (unhide hlow) (unhide hval) (mul_lt_pow (unhide Hla) (unhide Hlb) (unhide HL))), hval⟩
              case measure => simp [intOf]; omega
    · have hil : i' = la := by omega
      subst hil
      go_wp2_with fail
      refine (l1Text_c xs _ _ (unhide hdg) (by omega) (by rw [hxl]; exact own_base hown (Nat.zero_le _))).mono ?_
      rintro e w1 ⟨rfl, hb1⟩
      go_wp2
      go_ret
      have hal := dec_lt a
      rw [unhide Hla] at hal
      have hv := unhide hval
      rw [Nat.mod_eq_of_lt hal] at hv
      exact ⟨ret_str (by rw [hv]), hb.trans (hb1.mono hb.size)⟩
end Go.Proofs.YtpbnmhnbkfnaeaaGreatDoor
namespace Go.Proofs.YtpbnmhnbkfnaeaaGreatDoor
open Go.RowKit Nt

theorem l1Trim_t (l : List UInt8) (n : Nat) (w : World) (hs : l.length ≤ 1000000000) (h : trim l = txl 10 n) :
    Calls Tryz.prog 125 #[.string (B l)] w fun e w' => e = .returned (.string (dec n)) ∧ w' = w := by
  have := l1Trim_c l w hs
  rw [h] at this
  exact this

theorem trim_push (R c : Nat) (hc : c < 10) : trim (txl 10 R ++ [sg c]) = txl 10 (10 * R + c) := by
  by_cases h : R = 0
  · subst h
    rw [txl_zero, Nat.mul_zero, Nat.zero_add, txl_one 10 (by omega) c hc]
    simp [trim]
  · have := txl_step 10 (by omega) (10 * R + c) (by omega)
    rw [show (10 * R + c) / 10 = R from by omega, show (10 * R + c) % 10 = c from by omega] at this
    rw [← this, trim_txl]

/-- the digits that are read so far -/
def pref (a i : Nat) : Nat := a / 10 ^ ((dec a).size - i)

theorem pref_zero (a : Nat) : pref a 0 = 0 := Nat.div_eq_of_lt (dec_lt a)
theorem pref_all (a : Nat) : pref a (dec a).size = a := by simp [pref]
theorem pref_succ (a i : Nat) (h : i < (dec a).size) : pref a (i + 1) = 10 * pref a i + a / 10 ^ ((dec a).size - 1 - i) % 10 := by
  unfold pref
  rw [show (dec a).size - i = ((dec a).size - 1 - i) + 1 from by omega, show (dec a).size - (i + 1) = (dec a).size - 1 - i from by omega, Nat.pow_succ, ← Nat.div_div_eq_div_mul]
  omega

theorem dec_cut (a i : Nat) (h : i < (dec a).size) : (dec a).extract i (i + 1) = B [sg (a / 10 ^ ((dec a).size - 1 - i) % 10)] := by
  have h1 : i < (txl 10 a).length := by rw [← dec_len]; exact h
  have e := dec_at a ((txl 10 a).length - 1 - i) (by omega)
  rw [List.getElem_reverse] at e
  have e2 : (txl 10 a).length - 1 - ((txl 10 a).length - 1 - i) = i := by omega
  simp only [e2] at e
  rw [dec_len, ← e]
  unfold dec txt
  rw [B_extract, List.take_succ_eq_append_getElem h1, List.drop_append_of_le_length (by simp; omega)]
  simp

theorem div_push {A b q R c m : Nat} (hq : A / b = q) (hR : A % b = R) (hm : (10 * R + c) / b = m) (hb : 0 < b) : (10 * A + c) / b = m + 10 * q ∧ (10 * A + c) % b = (10 * R + c) % b := by
  have hA := Nat.div_add_mod A b
  rw [hq, hR] at hA
  have e : 10 * A + c = 10 * R + c + b * (10 * q) := by
    rw [← hA, Nat.mul_add, Nat.mul_left_comm]; omega
  rw [e, Nat.add_mul_div_left _ _ hb, Nat.add_mul_mod_self_left, hm]
  exact ⟨rfl, rfl⟩

theorem div_stop {ρ m b X : Nat} (h : ρ + m * b = X) (hlt : ρ < b) : X / b = m ∧ X % b = ρ := by
  have hb : 0 < b := by omega
  rw [← h, Nat.mul_comm m b, Nat.add_mul_div_left _ _ hb, Nat.add_mul_mod_self_left, Nat.div_eq_of_lt hlt, Nat.mod_eq_of_lt hlt]
  exact ⟨by omega, rfl⟩

theorem mul_lt_ten {m b X ρ : Nat} (h : ρ + m * b = X) (hX : X < 10 * b) (hge : b ≤ ρ) : m + 1 ≤ 9 := by
  have h1 : (m + 1) * b < 10 * b := by rw [Nat.add_mul]; omega
  have := Nat.lt_of_mul_lt_mul_right h1
  omega

theorem dec_size_le {m n : Nat} (h : m ≤ n) : (dec m).size ≤ (dec n).size := by
  have := txl_len_le (b := 10) (by omega) (dec_size_pos n) (Nat.lt_of_le_of_lt h (dec_lt n))
  rw [dec_len m]; exact this

theorem dec_size_ten {ρ b : Nat} (h : ρ < 10 * b) : (dec ρ).size ≤ (dec b).size + 1 := by
  rw [dec_len ρ]
  apply txl_len_le (by omega) (by omega)
  have := dec_lt b
  rw [Nat.pow_succ]; omega

theorem cmp_ge {a b : Nat} (h : b ≤ a) : 0 ≤ cmpN a b := by unfold cmpN; rw [if_neg (by omega)]; split <;> omega
theorem cmp_lt {a b : Nat} (h : a < b) : cmpN a b < 0 := by unfold cmpN; rw [if_pos h]; omega

set_option maxRecDepth 100000 in
set_option maxHeartbeats 4000000 in
theorem l1Div_c (a b : Nat) (w : World) (hb0 : 0 < b) (hsa : (dec a).size ≤ 50000) (hsb : (dec b).size ≤ 50000) :
    Calls Tryz.prog 123 #[.string (dec a), .string (dec b)] w fun e w' => e = .returned (.tuple #[.string (dec (a / b)), .string (dec (a % b))]) ∧ Below w.heap.size w w' := by
  obtain ⟨i0, hi, hz0, hz1, hz2⟩ := info_parts Tryz.infoByte
  go_enter Tryz.func123, Tryz.ntmps123
  go_wp2
  go_loopw [6, 7, 8, 9] (fun q r i _ wr => ∃ (i' R : Nat) (Q : List Nat), i' ≤ (dec a).size ∧ i = .int .i64 i' ∧ r = .string (dec R) ∧ R < b ∧ Q.length = i' ∧ wr.ownsRow w.heap.size 5 1 q i' ((Q.map sg).map u8v) ∧ Below w.heap.size w wr ∧
      Hid (∀ d ∈ Q, d < 10) ∧ Hid (pref a i' / b = ofd 10 Q.reverse) ∧ Hid (pref a i' % b = R))
    (fun _ _ i _ _ => (dec a).size - (intOf i).toNat)
  case atStart =>
    refine ⟨0, 0, [], Nat.zero_le _, rfl, rfl, hb0, rfl, World.ownsRow_made w #[] 0 (Nat.le_refl _) (by decide) (by simp), (Below.refl _ _).alloc (Nat.le_refl _) _, hide (by simp), ?_, ?_⟩
    · show _ = _; rw [pref_zero]; simp [ofd]
    · show _ = _; rw [pref_zero]; simp
  case round =>
    obtain ⟨i', R, Q, hi', rfl, rfl, hR, hQl, hown, hb, hdg, hqv, hrv⟩ := hrel
    by_cases hlt : i' < (dec a).size
    · have hc : a / 10 ^ ((dec a).size - 1 - i') % 10 < 10 := Nat.mod_lt _ (by omega)
      have hcut := dec_cut a i' hlt
      have hps := pref_succ a i' hlt
      generalize a / 10 ^ ((dec a).size - 1 - i') % 10 = c at *
      have Hps := hide hps
      clear hps
      have hRs : (dec R).size ≤ (dec b).size := dec_size_le (by omega)
      have hcs : (B [sg c]).size ≤ 1 := by rw [B_size]; simp
      have hcat : dec R ++ B [sg c] = B (txl 10 R ++ [sg c]) := by unfold dec txt; rw [B_append]
      have hlen : (txl 10 R ++ [sg c]).length ≤ 1000000000 := by rw [List.length_append, ← dec_len]; simp; omega
      have hns : ¬ 9223372036854775807 < (dec R).size + (B [sg c]).size := by omega
      have Htp := hide (trim_push R c hc)
      go_wp2_with fail
      refine (l1Trim_t _ (10 * R + c) _ hlen (unhide Htp)).mono ?_
      rintro e w1 ⟨rfl, rfl⟩
      go_wp2_with fail
      have hX : 10 * R + c < 10 * b := by omega
      generalize hXd : 10 * R + c = X at *
      have HXd := hide hXd
      clear hXd hcut hcat hns Htp hlen
      go_loopw [7, 9] (fun r n wr => ∃ (ρ m : Nat), r = .string (dec ρ) ∧ n = .int .u8 (48 + (m : Int)) ∧ m ≤ 9 ∧ ρ < 10 * b ∧ wr.ownsRow w.heap.size 5 1 u6 i' ((Q.map sg).map u8v) ∧ Below w.heap.size w wr ∧ Hid (ρ + m * b = X))
        (fun _ n _ => 60 - (intOf n).toNat)
      case atStart => exact ⟨X, 0, rfl, rfl, by omega, hX, hown, hb, hide (by simp)⟩
      case round =>
        clear hown hb
        obtain ⟨ρ, m, rfl, rfl, hm9, hρ, hown, hb, hinv⟩ := hrel
        have hρs := dec_size_ten hρ
        by_cases hge : b ≤ ρ
        · have hcg := cmp_ge hge
          have hm1 := mul_lt_ten (unhide hinv) hX hge
          go_wp2_with fail
          refine (l1Cmp_c ρ b _ (by omega) (by omega)).mono ?_
          rintro e w1 ⟨rfl, rfl⟩
          go_wp2_with fail
          refine (l1Sub_c ρ b _ hge (by omega)).mono ?_
          rintro e w2 ⟨rfl, hb2⟩
          go_wp2_with fail
          go_roundw
          case rel =>
            exact ⟨ρ - b, m + 1, rfl, by go_num, by omega, by omega, own_below hown hb2, hb.trans (hb2.mono hb.size), hide (by have := unhide hinv; rw [Nat.add_mul]; omega)⟩
          case measure => simp [intOf]; omega
        · have hρb : ρ < b := by omega
          have hcl := cmp_lt hρb
          go_wp2_with fail
          refine (l1Cmp_c ρ b _ (by omega) (by omega)).mono ?_
          rintro e w1 ⟨rfl, rfl⟩
          have hw := hb.size
          go_wp2_with (at_builtin; refine wpList_append_own _ rfl (.tmp 34) (.tmp 36) 22 rfl w.heap.size 5 i0 (.int .u8 0) 1 1 Tryz.underlying22 hi hz0 hz1 hz2 rfl (by decide) _ _ _ rfl (hown.alloc _) ⟨w1.heap.size, 0, none⟩ 1 1 [.int .u8 (48 + (m : Int))] rfl rfl (cell_one_new _ _ _) (by intro u hu; simp at hu; subst hu; rfl) (by unfold maxLen; omega) (by omega) (by simp; omega) ?_; intro v2 w2 hown2 hg2 _)
          have hbX := below_grown (hb.alloc hw _) (hown.alloc _) hg2 (by simp <;> omega)
          have hds := div_stop (unhide hinv) hρb
          have hpush := div_push (c := c) (m := m) (unhide hqv) (unhide hrv) (by rw [unhide HXd]; exact hds.1) hb0
          go_roundw
          case rel =>
            refine ⟨i' + 1, ρ, Q ++ [m], by omega, by go_num, rfl, hρb, by simp [hQl], ?_, hbX, dig_snoc hdg (by omega), ?_, ?_⟩
            · rw [List.map_append, List.map_append]
              simp only [List.map_cons, List.map_nil, u8v_sg (show m < 10 by omega)]
              exact hown2
            · show _ = _
              rw [unhide Hps, hpush.1, List.reverse_append]; simp [ofd]
            · show _ = _
              rw [unhide Hps, hpush.2, unhide HXd]; exact hds.2
          case measure => simp [intOf]; omega
    · have hil : i' = (dec a).size := by omega
      subst hil
      have hQ0 : Q ≠ [] := fun h => by have := dec_size_pos a; rw [h] at hQl; simp at hQl; omega
      have hconv := run_conv_bytes (dst := 9) Tryz.underlying22 Tryz.underlying5 Tryz.underlying9 hown
      have htr : trim (Q.map sg) = txl 10 (a / b) := by
        have h1 := trim_rev Q.reverse (fun d hd => unhide hdg d (by simpa using hd)) (by simpa using hQ0)
        rw [List.map_reverse, List.reverse_reverse] at h1
        rw [h1, ← unhide hqv, pref_all]
      have Htr := hide htr
      have hrv2 := unhide hrv
      rw [pref_all] at hrv2
      have Hrv2 := hide hrv2
      clear hrv2 htr
      go_wp2_with fail
      refine (l1Trim_t _ (a / b) _ (by simp; omega) (unhide Htr)).mono ?_
      rintro e w1 ⟨rfl, rfl⟩
      go_wp2
      go_ret2
      exact ⟨by rw [unhide Hrv2]; rfl, hb⟩

theorem valDec_txl (n : Nat) : valDec (txl 10 n) = n := by
  have := isDec_val (isDec_txl n)
  exact (txl_inj (by omega) (by omega) this).symm

set_option maxRecDepth 100000 in
set_option maxHeartbeats 4000000 in
theorem l1Gcd_c (a b : Nat) (w : World) (hsa : (dec a).size ≤ 50000) (hsb : (dec b).size ≤ 50000) :
    Calls Tryz.prog 122 #[.string (dec a), .string (dec b)] w fun e w' => e = .returned (.string (dec (Nat.gcd a b))) ∧ Below w.heap.size w w' := by
  go_enter Tryz.func122, Tryz.ntmps122
  go_wp2
  go_loopw [0, 1] (fun x y wr => ∃ (a' b' : Nat), x = .string (dec a') ∧ y = .string (dec b') ∧ (dec a').size ≤ 50000 ∧ (dec b').size ≤ 50000 ∧ Below w.heap.size w wr ∧ Hid (Nat.gcd a' b' = Nat.gcd a b))
    (fun _ y _ => valDec (match y with | .string s => s.data.toList | _ => []))
  case atStart => exact ⟨a, b, rfl, rfl, hsa, hsb, Below.refl _ _, hide rfl⟩
  case round =>
    obtain ⟨a', b', rfl, rfl, ha', hb', hb, hg⟩ := hrel
    by_cases hz : b' = 0
    · subst hz
      have h0 : ((dec 0).toList == [48]) = true := by unfold dec txt; rw [B_tl, txl_zero]; rfl
      go_wp2
      go_ret
      have := unhide hg
      rw [Nat.gcd_zero_right] at this
      exact ⟨ret_str (by rw [this]), hb⟩
    · have h0 : ((dec b').toList == [48]) = false := by
        have := dec_beq b' 0
        rw [decide_eq_false hz] at this
        rw [show (dec 0).toList = [48] from by unfold dec txt; rw [B_tl, txl_zero]] at this
        exact this
      go_wp2_with fail
      refine (l1Div_c a' b' _ (by omega) ha' hb').mono ?_
      rintro e w1 ⟨rfl, hb1⟩
      go_wp2_with fail
      go_roundw
      case rel =>
        refine ⟨b', a' % b', rfl, rfl, hb', ?_, hb.trans (hb1.mono hb.size), hide ?_⟩
        · have := dec_size_le (Nat.le_of_lt (Nat.mod_lt a' (show 0 < b' by omega))); omega
        · rw [Nat.gcd_comm b', ← Nat.gcd_rec b' a', Nat.gcd_comm, unhide hg]
      case measure =>
        show valDec (txl 10 (a' % b')) < valDec (txl 10 b')
        rw [valDec_txl, valDec_txl]
        exact Nat.mod_lt _ (by omega)
end Go.Proofs.YtpbnmhnbkfnaeaaGreatDoor
namespace Go.Proofs.YtpbnmhnbkfnaeaaGreatDoor
open Go.RowKit Nt

/-- the number that digits in a radix are; whether they are such -/
def rdN (b : Nat) (l : List UInt8) : Nat := l.foldl (fun n c => n * b + digN c) 0
def okN (b : Nat) (l : List UInt8) : Bool := !l.isEmpty && l.all (fun c => digN c < b)

theorem rdN_snoc (b : Nat) (l : List UInt8) (c : UInt8) : rdN b (l ++ [c]) = rdN b l * b + digN c := by simp [rdN]
theorem rdN_lt (b : Nat) (l : List UInt8) (h : ∀ c ∈ l, digN c < b) : rdN b l < b ^ l.length := by
  have key : ∀ (n : Nat) (l : List UInt8), l.length = n → (∀ c ∈ l, digN c < b) → rdN b l < b ^ n := by
    intro n
    induction n with
    | zero => intro l hl _; have : l = [] := List.eq_nil_of_length_eq_zero hl
              subst this; simp [rdN]
    | succ n ih =>
      intro l hl hc
      have hne : l ≠ [] := fun hh => by rw [hh] at hl; simp at hl
      have e := List.dropLast_concat_getLast hne
      rw [← e, rdN_snoc]
      have h1 := ih l.dropLast (by simp [hl]) (fun c hc' => hc c (List.dropLast_subset l hc'))
      have h2 := hc (l.getLast hne) (List.getLast_mem hne)
      rw [Nat.pow_succ]
      have h3 : (rdN b l.dropLast + 1) * b ≤ b ^ n * b := Nat.mul_le_mul_right b h1
      rw [Nat.add_mul] at h3
      omega
  exact key l.length l rfl h

theorem dec_size_pow {n b k : Nat} (hb : b ≤ 16) (h : n < b ^ k) : (dec n).size ≤ 2 * k + 1 := by
  rw [dec_len]
  apply txl_len_le (by omega) (by omega)
  have h1 : b ^ k ≤ 100 ^ k := Nat.pow_le_pow_left (by omega) k
  have h2 : (100 : Nat) ^ k = 10 ^ (2 * k) := by rw [Nat.pow_mul]
  have h3 : (10 : Nat) ^ (2 * k) ≤ 10 ^ (2 * k + 1) := Nat.pow_le_pow_right (by omega) (by omega)
  omega

theorem dec_small {n : Nat} (h : n < 1000) : (dec n).size ≤ 3 := by rw [dec_len]; exact txl_len_le (by omega) (by omega) (by omega)

theorem take_snoc' (l : List UInt8) (k : Nat) (h : k < l.length) : l.take (k + 1) = l.take k ++ [l[k]] := List.take_succ_eq_append_getElem h

theorem okN_bad {b : Nat} {l : List UInt8} (k : Nat) (h : k < l.length) (hb : b ≤ digN l[k]) : okN b l = false := by
  cases hh : okN b l with
  | false => rfl
  | true =>
    unfold okN at hh
    simp only [Bool.and_eq_true] at hh
    have := List.all_eq_true.1 hh.2 l[k] (List.getElem_mem h)
    simp at this; omega

theorem okN_good {b : Nat} {l : List UInt8} (h0 : 0 < l.length) (h : ∀ c ∈ l, digN c < b) : okN b l = true := by
  unfold okN
  simp only [Bool.and_eq_true]
  refine ⟨?_, List.all_eq_true.2 (fun c hc => by simpa using h c hc)⟩
  cases l with
  | nil => simp at h0
  | cons _ _ => rfl

def natV (b : Nat) (l : List UInt8) : Nat := if okN b l then rdN b l else 0
def natAns (b : Nat) (l : List UInt8) : Value := .tuple #[.string (dec (natV b l)), .bool (okN b l)]

set_option maxRecDepth 100000 in
set_option maxHeartbeats 4000000 in
theorem l2Nat_c (l : List UInt8) (b : Nat) (w : World) (hb2 : 2 ≤ b) (hb16 : b ≤ 16) (hs : l.length ≤ 10000) :
    Calls Tryz.prog 107 #[.string (B l), .int .i64 b] w fun e w' => e = .returned (natAns b l) ∧ Below w.heap.size w w' := by
  have hsz : (B l).size ≤ 10000 := by rw [B_size]; exact hs
  have hd0 : dec 0 = ⟨#[48]⟩ := by unfold dec txt; rw [txl_zero]; rfl
  have Hd0 := hide hd0
  clear hd0
  by_cases hz : l.length = 0
  · have : l = [] := List.eq_nil_of_length_eq_zero hz
    subst this
    clear hs hsz hz
    have h0 : ((B []).toList == []) = true := by rw [B_tl]; rfl
    have h1 : (B []).toList.isEmpty = true := by rw [B_tl]; rfl
    go_enter Tryz.func107, Tryz.ntmps107
    go_wp2
    go_ret2
    refine ⟨?_, Below.refl _ _⟩
    unfold natAns natV
    simp [okN, unhide Hd0]
  · have hne : l ≠ [] := fun hh => by rw [hh] at hz; simp at hz
    have h1 : (B l).toList.isEmpty = false := by rw [B_tl]; simpa using hne
    go_enter Tryz.func107, Tryz.ntmps107
    go_wp2
    go_loopw [6, 7] (fun n i wr => ∃ k : Nat, k ≤ l.length ∧ i = .int .i64 k ∧ n = .string (dec (rdN b (l.take k))) ∧ Below w.heap.size w wr ∧ Hid (∀ c ∈ l.take k, digN c < b))
      (fun _ i _ => l.length - (intOf i).toNat)
    case atStart =>
      exact ⟨0, Nat.zero_le _, rfl, by rw [List.take_zero]; simp [rdN, unhide Hd0], Below.refl _ _, hide (by simp)⟩
    case round =>
      obtain ⟨k, hk, rfl, rfl, hb, hdg⟩ := hrel
      by_cases hlt : k < l.length
      · have hlt2 : k < (B l).size := by rw [B_size]; exact hlt
        have hgk : ((B l)[k]'hlt2).toNat = (l[k]'hlt).toNat := by rw [B_get]
        have hbad := @okN_bad b l k hlt
        have hsn := take_snoc' l k hlt
        have hlk := rdN_lt b (l.take k) (unhide hdg)
        rw [List.length_take, Nat.min_eq_left hk] at hlk
        have hsk := dec_size_pow hb16 hlk
        generalize hn : rdN b (l.take k) = n at *
        have Hn := hide hn
        generalize hcc : l[k]'hlt = c at *
        have Hbad := hide hbad
        have Hsn := hide hsn
        clear hbad hsn hlk hn hcc
        go_wp2_with fail
        refine (l2Digit_c c _).mono ?_
        rintro e w1 ⟨rfl, rfl⟩
        have hdc : digN c < 100 := by unfold digN; split <;> (try split) <;> omega
        by_cases hge : b ≤ digN c
        · go_wp2
          go_ret2
          refine ⟨?_, hb⟩
          unfold natAns natV
          rw [unhide Hbad hge]
          simp [unhide Hd0]
        · go_wp2_with fail
          refine (l1Small_c b (by omega) _).mono ?_
          rintro e w2 ⟨rfl, hb2'⟩
          go_wp2_with fail
          have hbs := dec_small (n := b) (by omega)
          have hds := dec_small (n := digN c) (by omega)
          refine (l1Mul_c n b _ (by omega) (by omega)).mono ?_
          rintro e w3 ⟨rfl, hb3⟩
          go_wp2_with fail
          refine (l1Small_c (digN c) (by omega) _).mono ?_
          rintro e w4 ⟨rfl, hb4⟩
          have hsm : (dec (n * b)).size ≤ 100000 := by
            have h1 : n * b < 10 ^ ((dec n).size + (dec b).size) := by
              rw [Nat.pow_add]; exact Nat.mul_lt_mul'' (dec_lt n) (dec_lt b)
            have := dec_size_pos n
            have := txl_len_le (b := 10) (by omega) (by omega) h1
            rw [dec_len]; omega
          go_wp2_with fail
          refine (l1Add_c (n * b) (digN c) _ hsm (by omega)).mono ?_
          rintro e w5 ⟨rfl, hb5⟩
          go_wp2_with fail
          have hbX := (((hb.trans (hb2'.mono hb.size)).trans (hb3.mono (by have := hb.size; have := hb2'.size; omega))).trans (hb4.mono (by have := hb.size; have := hb2'.size; have := hb3.size; omega))).trans (hb5.mono (by have := hb.size; have := hb2'.size; have := hb3.size; have := hb4.size; omega))
          go_roundw
          case rel =>
            refine ⟨k + 1, by omega, by go_num, ?_, hbX, ?_⟩
            · rw [unhide Hsn, rdN_snoc, unhide Hn]
            · show ∀ x ∈ _, _
              rw [unhide Hsn]
              intro x hx
              rcases List.mem_append.1 hx with h | h
              · exact unhide hdg x h
              · simp at h; subst h; omega
          case measure => simp [intOf]; omega
      · have hkl : k = l.length := by omega
        subst hkl
        have hlt2 : ¬ l.length < (B l).size := by rw [B_size]; omega
        have htk : l.take l.length = l := List.take_length
        have hok := okN_good (show 0 < l.length by omega) (by have := unhide hdg; rwa [htk] at this)
        have Hok := hide hok
        have Htk := hide htk
        clear hok htk
        go_wp2
        go_ret2
        refine ⟨?_, hb⟩
        unfold natAns natV
        rw [unhide Hok]
        simp [List.take_length]
end Go.Proofs.YtpbnmhnbkfnaeaaGreatDoor
namespace Go.Proofs.YtpbnmhnbkfnaeaaGreatDoor
open Go.RowKit Nt

def isRadix (r : Int) : Bool := r == 2 || r == 8 || r == 10 || r == 16

set_option maxRecDepth 100000 in
set_option maxHeartbeats 4000000 in
theorem l2Radix_c (r : Int) (w : World) :
    Calls Tryz.prog 93 #[.int .i64 r] w fun e w' => e = .returned (.bool (isRadix r)) ∧ w' = w := by
  unfold isRadix
  by_cases h2 : (r == 2) = true
  · go_enter Tryz.func93, Tryz.ntmps93
    go_wp2
    go_ret
    exact ⟨ret_bool (by simp [h2]), rfl⟩
  · have h2' : (r == 2) = false := by simpa using h2
    clear h2
    by_cases h8 : (r == 8) = true
    · go_enter Tryz.func93, Tryz.ntmps93
      go_wp2
      go_ret
      exact ⟨ret_bool (by simp [h8, h2']), rfl⟩
    · have h8' : (r == 8) = false := by simpa using h8
      clear h8
      by_cases h10 : (r == 10) = true
      · go_enter Tryz.func93, Tryz.ntmps93
        go_wp2
        go_ret
        exact ⟨ret_bool (by simp [h8', h2', h10]), rfl⟩
      · have h10' : (r == 10) = false := by simpa using h10
        clear h10
        by_cases h16 : (r == 16) = true
        · go_enter Tryz.func93, Tryz.ntmps93
          go_wp2
          go_ret
          exact ⟨ret_bool (by simp [h8', h2', h10', h16]), rfl⟩
        · have h16' : (r == 16) = false := by simpa using h16
          clear h16
          go_enter Tryz.func93, Tryz.ntmps93
          go_wp2
          go_ret
          exact ⟨ret_bool (by simp [h8', h2', h10', h16']), rfl⟩

/-- the first place of a byte, -1 if it is not there -/
def findB (c : UInt8) : List UInt8 → Option Nat
  | [] => none
  | d :: r => if d = c then some 0 else (findB c r).map (· + 1)
def findI (c : UInt8) (l : List UInt8) : Int := match findB c l with | some k => (k : Int) | none => -1

theorem findB_some {c : UInt8} : ∀ {l : List UInt8} {k : Nat}, (h : k < l.length) → l[k] = c → (∀ j (hj : j < l.length), j < k → l[j] ≠ c) → findB c l = some k := by
  intro l
  induction l with
  | nil => intro k h; simp at h
  | cons d r ih =>
    intro k h hk hlt
    cases k with
    | zero => simp only [List.getElem_cons_zero] at hk; simp [findB, hk]
    | succ k =>
      have hd : d ≠ c := hlt 0 (by simp) (by omega)
      have := ih (k := k) (by simpa using h) (by simpa using hk) (fun j hj hjk => by have := hlt (j + 1) (by simpa using hj) (by omega); simpa using this)
      simp [findB, hd, this]

theorem findB_none {c : UInt8} : ∀ {l : List UInt8}, (∀ j (hj : j < l.length), l[j] ≠ c) → findB c l = none := by
  intro l
  induction l with
  | nil => intro _; rfl
  | cons d r ih =>
    intro h
    have hd : d ≠ c := h 0 (by simp)
    have := ih (fun j hj => by have := h (j + 1) (by simpa using hj); simpa using this)
    simp [findB, hd, this]

set_option maxRecDepth 100000 in
set_option maxHeartbeats 4000000 in
theorem l2Find_c (l : List UInt8) (c : UInt8) (w : World) (hs : l.length ≤ 1000000000) :
    Calls Tryz.prog 104 #[.string (B l), .int .u8 c.toNat] w fun e w' => e = .returned (.int .i64 (findI c l)) ∧ w' = w := by
  have hsz : (B l).size ≤ 1000000000 := by rw [B_size]; exact hs
  go_enter Tryz.func104, Tryz.ntmps104
  go_wp2
  go_loop [5] (fun i => ∃ k : Nat, k ≤ l.length ∧ i = .int .i64 k ∧ Hid (∀ j (hj : j < l.length), j < k → l[j] ≠ c)) (fun i => l.length - (intOf i).toNat)
  case atStart => exact ⟨0, Nat.zero_le _, rfl, hide (fun j _ h => by omega)⟩
  case round =>
    obtain ⟨k, hk, rfl, hv⟩ := hrel
    by_cases hlt : k < l.length
    · have hlt2 : k < (B l).size := by rw [B_size]; exact hlt
      have hgk : ((B l)[k]'hlt2).toNat = (l[k]'hlt).toNat := by rw [B_get]
      by_cases heq : l[k]'hlt = c
      · have hf : findI c l = (k : Int) := by unfold findI; rw [findB_some hlt heq (unhide hv)]
        have Hf := hide hf
        have ht : (((l[k]'hlt).toNat : Int) == (c.toNat : Int)) = true := by rw [heq]; simp
        clear hf heq
        go_wp2
        go_ret
        exact ⟨ret_int (unhide Hf).symm, rfl⟩
      · have ht : (((l[k]'hlt).toNat : Int) == (c.toNat : Int)) = false := by
          rw [beq_eq_false_iff_ne]; intro hh; exact heq (UInt8.toNat_inj.1 (by omega))
        have hv2 : Hid (∀ j (hj : j < l.length), j < k + 1 → l[j] ≠ c) := by
          intro j hj hjk
          by_cases hjk2 : j < k
          · exact unhide hv j hj hjk2
          · have : j = k := by omega
            subst this; exact heq
        clear heq
        go_wp2
        go_round
        case rel => exact ⟨k + 1, by omega, by go_num, hv2⟩
        case measure => simp [intOf]; omega
    · have hlt2 : ¬ k < (B l).size := by rw [B_size]; exact hlt
      have hf : findI c l = -1 := by unfold findI; rw [findB_none (fun j hj => unhide hv j hj (by omega))]
      have Hf := hide hf
      clear hf
      go_wp2
      go_ret
      exact ⟨ret_int (unhide Hf).symm, rfl⟩

/-- a number as a value; what is told of one -/
def numV (neg : Bool) (u d : ByteArray) : Value := .agg #[.bool neg, .string u, .string d]
def noNum : Value := numV false ⟨#[]⟩ ⟨#[]⟩
def lowest (neg : Bool) (u d : Nat) : Option (Bool × Nat × Nat) :=
  if d = 0 ∨ 60 < (dec (u / Nat.gcd u d)).size ∨ 60 < (dec (d / Nat.gcd u d)).size then none else some (neg && u / Nat.gcd u d != 0, u / Nat.gcd u d, d / Nat.gcd u d)
def numO : Option (Bool × Nat × Nat) → Value
  | none => noNum
  | some (n, u, d) => numV n (dec u) (dec d)
def numAns (o : Option (Bool × Nat × Nat)) : Value := .tuple #[numO o, .bool o.isSome]

theorem dec_zero : dec 0 = ⟨#[48]⟩ := by unfold dec txt; rw [txl_zero]; rfl
theorem dec_is0 (n : Nat) : ((dec n).toList == [48]) = decide (n = 0) := by
  have := dec_beq n 0
  rwa [show (dec 0).toList = [48] from by unfold dec txt; rw [B_tl, txl_zero]] at this

set_option maxRecDepth 100000 in
set_option maxHeartbeats 4000000 in
theorem l2Make_c (neg : Bool) (u d : Nat) (w : World) (hsu : (dec u).size ≤ 50000) (hsd : (dec d).size ≤ 50000) :
    Calls Tryz.prog 96 #[.bool neg, .string (dec u), .string (dec d)] w fun e w' => e = .returned (numAns (lowest neg u d)) ∧ Below w.heap.size w w' := by
  have hd0 := dec_is0 d
  by_cases hz : d = 0
  · rw [decide_eq_true hz] at hd0
    have hl : lowest neg u d = none := by simp [lowest, hz]
    rw [hl]
    clear hl hz
    go_enter Tryz.func96, Tryz.ntmps96
    go_wp2
    refine bodyPost_ret (v := numAns none) (by simp [results, Tryz.results96, go_sem, numAns, numO, noNum, numV]) rfl ⟨rfl, (Below.refl _ _).alloc (Nat.le_refl _) _⟩
  · rw [decide_eq_false hz] at hd0
    have hg : 0 < Nat.gcd u d := Nat.gcd_pos_of_pos_right _ (by omega)
    have hg1 : (dec (Nat.gcd u d)).size ≤ 50000 := by have := dec_size_le (Nat.gcd_le_right u (show 0 < d by omega)); omega
    go_enter Tryz.func96, Tryz.ntmps96
    go_wp2_with fail
    refine (l1Gcd_c u d _ hsu hsd).mono ?_
    rintro e w1 ⟨rfl, hb1⟩
    go_wp2_with fail
    refine (l1Div_c u _ _ hg hsu hg1).mono ?_
    rintro e w2 ⟨rfl, hb2⟩
    go_wp2_with fail
    refine (l1Div_c d _ _ hg hsd hg1).mono ?_
    rintro e w3 ⟨rfl, hb3⟩
    have hb0 := below_alloc_size hb1
    have h2 := below_next hb0 (by have := hb1.size; simpa using this) hb2
    have h3 := below_next h2.1 h2.2 hb3
    have c0 := newcell h3.1 0
    have c1 := newcell h3.1 1
    have c2 := newcell h3.1 2
    have f0 := newfree h3.1 0
    have f1 := newfree h3.1 1
    have f2 := newfree h3.1 2
    have hbX := below_new h3.1
    simp at c0 c1 c2
    have hqz := dec_is0 (u / Nat.gcd u d)
    generalize hqu : u / Nat.gcd u d = qu at *
    generalize hqd : d / Nat.gcd u d = qd at *
    have Hlow : Hid (lowest neg u d = if 60 < (dec qu).size ∨ 60 < (dec qd).size then none else some (neg && qu != 0, qu, qd)) := by
      show _ = _
      unfold lowest; rw [hqu, hqd]
      by_cases h : 60 < (dec qu).size ∨ 60 < (dec qd).size
      · rw [if_pos (by rcases h with h | h <;> simp [h]), if_pos h]
      · rw [if_neg (by rintro (h1 | h1); exact hz h1; exact h h1), if_neg h]
    clear hb1 hb2 hb3 h2 h3 hb0 hqu hqd
    by_cases h1 : 60 < (dec qu).size
    · rw [if_pos (.inl h1)] at Hlow
      go_wp2
      refine bodyPost_ret (v := numAns none) (by simp [results, Tryz.results96, go_sem, numAns, numO, noNum, numV, c0, c1, c2]) rfl ⟨by rw [unhide Hlow], ?_⟩
      exact ((hbX.setCell (by simp) _).setCell (by simp) _).setCell (by simp) _
    · by_cases h2 : 60 < (dec qd).size
      · rw [if_pos (.inr h2)] at Hlow
        go_wp2
        refine bodyPost_ret (v := numAns none) (by simp [results, Tryz.results96, go_sem, numAns, numO, noNum, numV, c0, c1, c2]) rfl ⟨by rw [unhide Hlow], ?_⟩
        exact ((hbX.setCell (by simp) _).setCell (by simp) _).setCell (by simp) _
      · rw [if_neg (by rintro (h | h); exact h1 h; exact h2 h)] at Hlow
        by_cases hq0 : qu = 0
        · rw [decide_eq_true hq0] at hqz
          have Hq0 := hide hq0
          clear hq0
          cases neg
          case false =>
            go_wp2
            refine bodyPost_ret (v := numAns (some (false, qu, qd))) (by simp [results, Tryz.results96, go_sem, numAns, numO, numV, c0, c1, c2]) rfl ⟨by rw [unhide Hlow]; rfl, ?_⟩
            exact ((hbX.setCell (by simp) _).setCell (by simp) _).setCell (by simp) _
          case true =>
            go_wp2
            refine bodyPost_ret (v := numAns (some (false, qu, qd))) (by simp [results, Tryz.results96, go_sem, numAns, numO, numV, c0, c1, c2]) rfl ⟨by rw [unhide Hlow, unhide Hq0]; rfl, ?_⟩
            exact ((hbX.setCell (by simp) _).setCell (by simp) _).setCell (by simp) _
        · rw [decide_eq_false hq0] at hqz
          have Hq0 := hide hq0
          clear hq0
          cases neg
          case false =>
            go_wp2
            refine bodyPost_ret (v := numAns (some (false, qu, qd))) (by simp [results, Tryz.results96, go_sem, numAns, numO, numV, c0, c1, c2]) rfl ⟨by rw [unhide Hlow]; rfl, ?_⟩
            exact ((hbX.setCell (by simp) _).setCell (by simp) _).setCell (by simp) _
          case true =>
            go_wp2
            refine bodyPost_ret (v := numAns (some (true, qu, qd))) (by simp [results, Tryz.results96, go_sem, numAns, numO, numV, c0, c1, c2]) rfl ⟨by rw [unhide Hlow, bne_iff_ne.2 (unhide Hq0)]; rfl, ?_⟩
            exact ((hbX.setCell (by simp) _).setCell (by simp) _).setCell (by simp) _
end Go.Proofs.YtpbnmhnbkfnaeaaGreatDoor
namespace Go.Proofs.YtpbnmhnbkfnaeaaGreatDoor
open Go.RowKit Nt

theorem run_conv_byte {P : Program} {src dst e : TypeId} (hs : P.underlying src = some (.slice e)) (he : P.underlying e = some (.int .u8)) (hd : P.underlying dst = some .string) (W w1 : World) (c : UInt8)
    (hb : Below (W.heap.size + 1) (W.alloc (.cells #[.int .u8 c.toNat] e)) w1) :
    (convert src dst (.slice (some ⟨W.heap.size, 0, none⟩) 1 1)).run P w1 = .ok (.string (B [c])) w1 := by
  have h0 := World.ownsRow_lit (base := 0) (e := e) (size := 1) W #[.int .u8 c.toNat] 1 (Nat.zero_le _) (by decide) (by simp)
  have h1 := own_below h0 (by simpa using hb)
  have e1 : (#[Value.int .u8 c.toNat] : Array Value).toList = [c].map u8v := by simp [u8v]
  rw [e1] at h1
  exact run_conv_bytes hs he hd h1

theorem dec_byte (n k : Nat) (h : k < (dec n).size) : ((dec n)[k]'h).toNat = 48 + n / 10 ^ ((dec n).size - 1 - k) % 10 := by
  have h1 : k < (txl 10 n).length := by rw [← dec_len]; exact h
  have e := dec_at n ((txl 10 n).length - 1 - k) (by omega)
  rw [List.getElem_reverse] at e
  have e2 : (txl 10 n).length - 1 - ((txl 10 n).length - 1 - k) = k := by omega
  simp only [e2] at e
  have hm : n / 10 ^ ((txl 10 n).length - 1 - k) % 10 < 10 := Nat.mod_lt _ (by omega)
  rw [dec_len]
  have e3 : ((dec n)[k]'h) = (txl 10 n)[k]'h1 := by simp only [dec, txt, B_get]
  rw [e3, e, sg_toNat (by omega), if_pos hm]

def digitSigns : ByteArray := ⟨#[48, 49, 50, 51, 52, 53, 54, 55, 56, 57, 97, 98, 99, 100, 101, 102]⟩
theorem digitSigns_at (d : Nat) (h : d < 16) (h' : d < digitSigns.size) : (digitSigns[d]'h').toNat = (sg d).toNat := by
  have : ∀ d : Fin 16, (digitSigns[d.val]'d.isLt).toNat = (sg d.val).toNat := by decide
  exact this ⟨d, h⟩

set_option maxRecDepth 100000 in
set_option maxHeartbeats 4000000 in
theorem l2Out_c (N b : Nat) (w : World) (hb2 : 2 ≤ b) (hb16 : b ≤ 16) (hs : (dec N).size ≤ 5000) (ht : (txl b N).length ≤ 50000) :
    Calls Tryz.prog 94 #[.string (dec N), .int .i64 b] w fun e w' => e = .returned (.string (txt b N)) ∧ Below w.heap.size w w' := by
  have hbs := dec_small (n := b) (by omega)
  go_enter Tryz.func94, Tryz.ntmps94
  go_wp2
  go_loopw [0, 5] (fun n o wr => ∃ (m : Nat) (t : List UInt8), n = .string (dec m) ∧ o = .string (B t) ∧ m ≤ N ∧ t.length ≤ 50000 ∧ Below w.heap.size w wr ∧ Hid (txl b m ++ t = txl b N))
    (fun n _ _ => valDec (match n with | .string s => s.data.toList | _ => []))
  case atStart => exact ⟨N, [], rfl, rfl, Nat.le_refl _, by simp, Below.refl _ _, hide (by simp)⟩
  case round =>
    obtain ⟨m, t, rfl, rfl, hmN, htl, hb, htx⟩ := hrel
    have hms := dec_size_le hmN
    have hmod : m % b < b := Nat.mod_lt _ (by omega)
    go_wp2_with fail
    refine (l1Small_c b (by omega) _).mono ?_
    rintro e w1 ⟨rfl, hb1⟩
    go_wp2_with fail
    refine (l1Div_c m b _ (by omega) (by omega) (by omega)).mono ?_
    rintro e w2 ⟨rfl, hb2'⟩
    have hbA := below_next hb hb.size hb1
    have hbB := below_next hbA.1 hbA.2 hb2'
    clear hbA hb1 hb2'
    obtain ⟨q, hq⟩ : ∃ q, m / b = q := ⟨_, rfl⟩
    obtain ⟨r, hr⟩ : ∃ r, m % b = r := ⟨_, rfl⟩
    rw [hr] at hmod
    have hrs := dec_small (n := r) (by omega)
    have Hq := hide hq
    have Hr := hide hr
    rw [hq, hr]
    clear hq hr
    go_wp2_with fail
    go_loopw [8, 9] (fun d i wr => ∃ k : Nat, k ≤ (dec r).size ∧ i = .int .i64 k ∧ d = .int .i64 (pref r k : Nat) ∧ Below w.heap.size w wr) (fun _ i _ => (dec r).size - (intOf i).toNat)
    case atStart => exact ⟨0, Nat.zero_le _, rfl, by rw [pref_zero]; rfl, hbB.1⟩
    case round =>
      obtain ⟨k, hk, rfl, rfl, hbC⟩ := hrel
      by_cases hlt : k < (dec r).size
      · have hby := dec_byte r k hlt
        have hm10 : r / 10 ^ ((dec r).size - 1 - k) % 10 < 10 := Nat.mod_lt _ (by omega)
        have hps := pref_succ r k hlt
        have hpl : pref r k ≤ r := Nat.div_le_self _ _
        generalize r / 10 ^ ((dec r).size - 1 - k) % 10 = c at *
        generalize pref r k = p at *
        have Hps := hide hps
        clear hps
        go_wp2
        go_roundw
        case rel => exact ⟨k + 1, by omega, by go_num, by rw [unhide Hps]; go_num, hbC⟩
        case measure => simp [intOf]; omega
      · have hkl : k = (dec r).size := by omega
        subst hkl
        have hpa := pref_all r
        have hd16 : r < 16 := by omega
        have hg := digitSigns_at r hd16 hd16
        unfold digitSigns at hg
        have hconv := run_conv_byte (P := Tryz.prog) (src := 22) (dst := 9) Tryz.underlying22 Tryz.underlying5 Tryz.underlying9 wr _ (sg r) (Below.refl _ _)
        have hcat : B [sg r] ++ B t = B (sg r :: t) := by rw [B_append]; rfl
        have hs1 : (B [sg r]).size ≤ 1 := by rw [B_size]; simp
        have hs2 : (B t).size ≤ 50000 := by rw [B_size]; exact htl
        have hns : ¬ 9223372036854775807 < (B [sg r]).size + (B t).size := by omega
        have hbD := hbC.alloc (by have := hbC.size; exact this) (.cells #[.int .u8 (sg r).toNat] 5)
        have hq0 := dec_is0 q
        by_cases hz : q = 0
        · rw [decide_eq_true hz] at hq0
          have hmb : m < b := by
            have := unhide Hq; rw [hz] at this
            rcases Nat.div_eq_zero_iff.1 this with h | h
            · omega
            · exact h
          have hfin : B (sg r :: t) = txt b N := by
            unfold txt
            rw [← unhide htx, txl_one b hb2 m hmb, ← unhide Hr, Nat.mod_eq_of_lt hmb]; rfl
          have Hfin := hide hfin
          clear hfin hz
          go_wp2
          go_ret
          exact ⟨ret_str (unhide Hfin), hbD⟩
        · rw [decide_eq_false hz] at hq0
          have hmb : b ≤ m := by
            apply Nat.le_of_not_lt
            intro h; apply hz; rw [← unhide Hq]; exact Nat.div_eq_of_lt h
          have htx2 : txl b q ++ (sg r :: t) = txl b N := by
            rw [← unhide htx, txl_step b hb2 m hmb, unhide Hq, unhide Hr]; simp
          have Htx2 := hide htx2
          have hl2 : (sg r :: t).length ≤ 50000 := by
            have := congrArg List.length htx2
            rw [List.length_append] at this; omega
          have hqm : q < m := by rw [← unhide Hq]; exact Nat.div_lt_self (by omega) (by omega)
          clear htx2
          go_wp2
          go_roundw
          case rel => exact ⟨q, sg r :: t, rfl, rfl, by omega, hl2, hbD, Htx2⟩
          case measure =>
            show valDec (txl 10 q) < valDec (txl 10 m)
            rw [valDec_txl, valDec_txl]; exact hqm
end Go.Proofs.YtpbnmhnbkfnaeaaGreatDoor
namespace Go.Proofs.YtpbnmhnbkfnaeaaGreatDoor
open Go.RowKit Nt

/-- the table of powers of ten reads as it is written -/
def Tens (w : World) : Prop := ∀ j, j < 9 → w.cell? ⟨3, j, none⟩ = some (.int .u64 ((10 ^ j : Nat) : Int))

theorem Tens.below {w w' : World} (h : Tens w) (hb : Below w.heap.size w w') : Tens w' := by
  intro j hj
  have h1 := h j hj
  rw [hb.cell (p := ⟨3, j, none⟩) (World.block_lt_of_cell? w _ h1)]
  exact h1
theorem Tens.lt {w : World} (h : Tens w) : 3 < w.heap.size := World.block_lt_of_cell? w _ (h 0 (by omega))
theorem Tens.belowB {w w' : World} {b : Nat} (h : Tens w) (hb : Below b w w') (hlt : 3 < b) : Tens w' := by
  intro j hj
  rw [hb.cell (p := ⟨3, j, none⟩) hlt]
  exact h j hj

theorem own_iterAt {w : World} {base : Nat} {e : TypeId} {size : Nat} {v : Value} {n : Nat} {xs : List Value} (h : w.ownsRow base e size v n xs) {k : Nat} (hk : v.ownBlock ≠ some k) (s : ByteArray) (p : Nat) : (w.iterAt k s p).ownsRow base e size v n xs := by
  obtain ⟨h1, h2⟩ := h
  refine ⟨h1, ?_⟩
  rcases h2 with h2 | ⟨g, cap, cur, rfl, hb, hg, rest⟩
  · exact .inl h2
  · refine .inr ⟨g, cap, cur, rfl, hb, ?_, rest⟩
    rw [Lib.iterAt_other _ _ _ _ _ (by intro hh; apply hk; simp [Value.ownBlock, hh])]
    exact hg

/-- digits that are laid from the upper end: what each group is a multiple of -/
def laidTo (xs : List Nat) (k : Nat) : Prop := ∀ g (h : g < xs.length), xs[g] < 1000000000 ∧ 10 ^ (min 9 (k - 9 * g)) ∣ xs[g]

theorem laid_room {a c r : Nat} (ha : a < 10 ^ 9) (hr : r < 9) (hd : 10 ^ (r + 1) ∣ a) (hc : c ≤ 9) : a + c * 10 ^ r < 10 ^ 9 := by
  obtain ⟨t, rfl⟩ := hd
  have e : (10 : Nat) ^ 9 = 10 ^ (r + 1) * 10 ^ (8 - r) := by rw [← Nat.pow_add]; congr 1; omega
  rw [e] at ha ⊢
  have h1 : t < 10 ^ (8 - r) := Nat.lt_of_mul_lt_mul_left ha
  have h2 : 10 ^ (r + 1) * (t + 1) ≤ 10 ^ (r + 1) * 10 ^ (8 - r) := Nat.mul_le_mul_left _ h1
  rw [Nat.mul_add, Nat.mul_one] at h2
  have h3 : c * 10 ^ r < 10 ^ (r + 1) := by
    rw [Nat.pow_succ, Nat.mul_comm]
    exact Nat.mul_lt_mul_of_pos_left (by omega) (Nat.pow_pos (by omega))
  omega

theorem laid_step {xs : List Nat} {p c : Nat} (h : laidTo xs (p + 1)) (hg : p / 9 < xs.length) (hc : c ≤ 9) :
    xs[p / 9] + c * 10 ^ (p % 9) < 1000000000 ∧ laidTo (xs.set (p / 9) (xs[p / 9] + c * 10 ^ (p % 9))) p := by
  have hr : p % 9 < 9 := Nat.mod_lt _ (by omega)
  have h0 := h (p / 9) hg
  have hmin : min 9 (p + 1 - 9 * (p / 9)) = p % 9 + 1 := by omega
  rw [hmin] at h0
  have hroom := laid_room (a := xs[p / 9]) h0.1 hr h0.2 hc
  refine ⟨hroom, ?_⟩
  intro g hgl
  by_cases hgg : g = p / 9
  · subst hgg
    rw [List.getElem_set_self]
    refine ⟨hroom, ?_⟩
    rw [show min 9 (p - 9 * (p / 9)) = p % 9 from by omega]
    exact Nat.dvd_add (Nat.dvd_trans (Nat.pow_dvd_pow 10 (by omega)) h0.2) (Nat.dvd_mul_left _ _)
  · rw [List.getElem_set_ne (by omega)]
    have h1 := h g (by simpa using hgl)
    exact ⟨h1.1, Nat.dvd_trans (Nat.pow_dvd_pow 10 (by omega)) h1.2⟩

theorem pow_group (p : Nat) : 1000000000 ^ (p / 9) * 10 ^ (p % 9) = 10 ^ p := by
  have e : (1000000000 : Nat) = 10 ^ 9 := by decide
  rw [e, ← Nat.pow_mul, ← Nat.pow_add]
  congr 1; omega

theorem laid_ofd {xs : List Nat} {p c V : Nat} (hg : p / 9 < xs.length) (hV : ofd 1000000000 xs = V) : ofd 1000000000 (xs.set (p / 9) (xs[p / 9] + c * 10 ^ (p % 9))) = V + c * 10 ^ p := by
  have h := ofd_set 1000000000 xs (p / 9) (xs[p / 9] + c * 10 ^ (p % 9)) hg
  rw [hV, Nat.mul_add, Nat.mul_left_comm, pow_group] at h
  omega

set_option maxRecDepth 100000 in
set_option maxHeartbeats 4000000 in
theorem natReadB_c (x : Nat) (w : World) (hs : (dec x).size ≤ 100000) (hT : Tens w) :
    Calls Tryz.prog 186 #[.string (dec x)] w fun e w' => (∃ v', e = .returned v' ∧ isNatB w' w.heap.size v' x) ∧ Below w.heap.size w w' := by
  obtain ⟨i0, hi, hz0, hz1, hz2⟩ := info_parts Tryz.infoU64
  obtain ⟨n, hn⟩ : ∃ n, (dec x).size = n := ⟨_, rfl⟩
  obtain ⟨G, hG⟩ : ∃ G : Nat, (n : Int) / 9 + 1 = G := ⟨n / 9 + 1, by omega⟩
  have hnI : ((dec x).size : Int) = n := by omega
  have hn0 : 0 < n := by have := dec_size_pos x; omega
  rw [hn] at hs
  have Hn := hide hn
  have HT := hide hT
  clear hn hT
  go_enter Tryz.func186, Tryz.ntmps186
  go_wp2_with (refine wpList_make_full _ rfl (.tmp 10) (.tmp 10) 178 rfl w.heap.size 173 i0 (.int .u64 0) 1 Tryz.underlying178 hi hz0 hz1 .i64 .i64 G G G rfl rfl rfl rfl (by rw [hz2]; omega) (by unfold maxLen; omega) (Nat.le_refl _) ?_; intro w1 hown1 hg1)
  have hown0 : w1.ownsRow w.heap.size 173 1 (.slice (some ⟨w.heap.size, 0, none⟩) G G) G (u64s (List.replicate G 0)) := by
    simpa [Value.cells, toList_madeCells_one, u64s_zero] using hown1
  have hb1 : Below w.heap.size w w1 := (Below.refl _ _).grown hg1 (Nat.le_refl _) (fun _ h => by cases h)
  have hlt1 : w.heap.size < w1.heap.size := (hown0.lt _ rfl).2
  clear hown1 hg1
  go_loopw [4] (fun _ wr => ∃ (pos : Nat) (xs : List Nat), pos ≤ n ∧ wr.heap[w1.heap.size]? = some (.stringIter (dec x) pos) ∧ xs.length = G ∧ wr.ownsRow w.heap.size 173 1 (.slice (some ⟨w.heap.size, 0, none⟩) G G) G (u64s xs) ∧ Below w.heap.size w wr ∧
      Hid (laidTo xs (n - pos)) ∧ Hid (ofd 1000000000 xs = pref x pos * 10 ^ (n - pos)))
    (fun _ wr => n - wr.iterPos w1.heap.size)
  case atStart =>
    refine ⟨0, List.replicate G 0, Nat.zero_le _, World.iter_heap _ _ _, by simp, hown0.alloc _, hb1.alloc hb1.size _, ?_, ?_⟩
    · intro g hg
      simp
    · show _ = _
      rw [ofd_replicate_zero, pref_zero]; simp
  case round =>
    clear hown0 hb1
    obtain ⟨pos, xs, hpl, hit, hxl, hown, hb, hlaid, hval⟩ := hrel
    have hpos0 := iterPos_of hit
    by_cases hlt : pos < n
    · have hlt2 : pos < (dec x).size := by rw [unhide Hn]; exact hlt
      obtain ⟨p, hp⟩ : ∃ p : Nat, (n : Int) - 1 - pos = p := ⟨n - 1 - pos, by omega⟩
      have hpN : n - 1 - pos = p := by omega
      have hby := dec_byte x pos hlt2
      have hps := pref_succ x pos hlt2
      rw [unhide Hn, hpN] at hby hps
      have hc9 : x / 10 ^ p % 10 < 10 := Nat.mod_lt _ (by omega)
      generalize x / 10 ^ p % 10 = c at *
      have hnx := fun ty => Lib.run_next_ascii_at (P := Tryz.prog) wr w1.heap.size (dec x) pos ty hit hlt2 (by omega)
      obtain ⟨b, hbb⟩ : ∃ b, ((dec x)[pos]'hlt2).toNat = b := ⟨_, rfl⟩
      rw [hbb] at hnx hby
      have hb48 : (b : Int) - 48 = c := by omega
      have hit2 := Lib.iterAt_heap wr w1.heap.size (dec x) pos (pos + 1) hit
      have hb2 := Lib.below_iterAt hb (k := w1.heap.size) (by omega) (dec x) (pos + 1)
      have hown2 := own_iterAt hown (k := w1.heap.size) (by simp [Value.ownBlock]; omega) (dec x) (pos + 1)
      obtain ⟨W1, hW1⟩ : ∃ W1, W1 = wr.iterAt w1.heap.size (dec x) (pos + 1) := ⟨_, rfl⟩
      rw [← hW1] at hnx hit2 hb2 hown2
      have hgp : p / 9 < xs.length := by omega
      have hT2 := ((unhide HT).belowB hb2 (unhide HT).lt) (p % 9) (Nat.mod_lt _ (by omega))
      have hlaid' : laidTo xs (p + 1) := by have := unhide hlaid; rwa [show n - pos = p + 1 from by omega] at this
      have hst := laid_step (c := c) hlaid' hgp (by omega)
      have hval' : ofd 1000000000 xs = pref x pos * 10 ^ (p + 1) := by have := unhide hval; rwa [show n - pos = p + 1 from by omega] at this
      have hof := laid_ofd (c := c) hgp hval'
      have hcx := hown2.cellAt (p / 9) (by omega)
      rw [u64s_get _ _ hgp] at hcx
      have hfr := hown2.frozenAt (p / 9)
      have hpow : 10 ^ (p % 9) ≤ 100000000 := by
        have : (10 : Nat) ^ (p % 9) ≤ 10 ^ 8 := Nat.pow_le_pow_right (by omega) (by omega)
        exact this
      generalize xs[p / 9]'hgp = a at *
      obtain ⟨t, ht⟩ : ∃ t, 10 ^ (p % 9) = t := ⟨_, rfl⟩
      rw [ht] at hT2 hst hof hpow
      obtain ⟨q, hq⟩ : ∃ q, p / 9 = q := ⟨_, rfl⟩
      obtain ⟨r, hr⟩ : ∃ r, p % 9 = r := ⟨_, rfl⟩
      rw [hq] at hgp hst hof hcx hfr
      rw [hr] at hT2
      obtain ⟨pp, hpp⟩ : ∃ pp, c * t = pp := ⟨_, rfl⟩
      have hppI : (c : Int) * t = pp := by rw [← hpp]; simp
      rw [hpp] at hst hof
      have hst2 := hown2.stored q (.int .u64 ((a : Int) + pp))
      rw [u64s_set _ _ (a + pp) _ (by simp)] at hst2
      have e1 : (p : Int).tdiv 9 = q := by rw [Int.tdiv_eq_ediv_of_nonneg (by omega)]; omega
      have e2 : (p : Int).tmod 9 = r := by rw [Int.tmod_eq_emod_of_nonneg (by omega)]; omega
      have e3 := wi64 (q : Int) (by omega) (by omega)
      have e4 := wi32 (c : Int) (by omega) (by omega)
      have e5 := wu64 (c : Int) (by omega) (by omega)
      have hrm : c * t ≤ 9 * 100000000 := Nat.mul_le_mul (by omega) hpow
      have e6 := wu64 (pp : Int) (by omega) (by omega)
      have e7 := wu64 ((a : Int) + pp) (by omega) (by omega)
      have hqG : (q : Int) < G := by omega
      have hr9 : (r : Int) < 9 := by omega
      have hqn : q < G := by omega
      have hrn : r < 9 := by omega
      have Hst := hide hst
      have Hof := hide hof
      have Hst2 := hide hst2
      have Hit2 := hide hit2
      have Hps := hide hps
      have Hp0 := hide hpos0
      clear hst hof hst2 hit hit2 hps hpos0 hown hb hval hval' hlaid hlaid' hW1 hby hbb ht hq hr hpp hpN
      go_wp2
      go_region
      all_goals
        go_wp2
        go_roundw
        case rel =>
          refine ⟨pos + 1, xs.set q (a + pp), by omega, ?_, by simpa using hxl, (unhide Hst2).1, (hb2.setCell (by simp) _).drew, ?_, ?_⟩
          · have h1 := unhide Hit2
            show (W1.setCell ⟨w.heap.size, q, none⟩ _).heap[w1.heap.size]? = _
            rw [Below.heap_setCell _ _ _ _ (by show w1.heap.size ≠ w.heap.size; omega)]
            exact h1
          · rw [show n - (pos + 1) = p from by omega]; exact (unhide Hst).2
          · show _ = _
            rw [unhide Hof, unhide Hps, show n - (pos + 1) = p from by omega, Nat.add_mul, Nat.pow_succ, Nat.mul_comm (10 ^ p) 10, ← Nat.mul_assoc, Nat.mul_comm 10 (pref x pos)]
        case measure =>
          have h1 := unhide Hit2
          rw [unhide Hp0]
          have h2 : ((W1.setCell ⟨w.heap.size, q, none⟩ (.int .u64 ((a : Int) + pp))).drew).iterPos w1.heap.size = pos + 1 := by
            apply iterPos_of (s := dec x)
            show (W1.setCell ⟨w.heap.size, q, none⟩ _).heap[w1.heap.size]? = _
            rw [Below.heap_setCell _ _ _ _ (by show w1.heap.size ≠ w.heap.size; omega)]
            exact h1
          rw [h2]; omega
    · have hpn : pos = n := by omega
      subst hpn
      have hlt2 : ¬ pos < (dec x).size := by rw [unhide Hn]; omega
      have hnx := fun ty => Lib.run_next_end_at (P := Tryz.prog) wr w1.heap.size (dec x) pos ty hit hlt2
      have hfin : ofd 1000000000 xs = x := by
        have h1 := unhide hval
        have h2 := pref_all x
        rw [unhide Hn] at h2
        rw [h1, h2]; simp
      have hall : ∀ d ∈ xs, d < 1000000000 := by
        intro d hd
        obtain ⟨g, hg, rfl⟩ := List.getElem_of_mem hd
        exact (unhide hlaid g hg).1
      have Hfin := hide hfin
      have Hall := hide hall
      clear hfin hall hval hlaid hpos0 hit
      go_wp2_with fail
      refine (trimmed_n xs w.heap.size _ _ (by omega) (unhide Hall) (by rw [hxl]; exact hown)).mono ?_
      rintro e w2 ⟨⟨v', rfl, hv'⟩, rfl⟩
      rw [unhide Hfin] at hv'
      go_wp2
      go_ret
      exact ⟨⟨v', rfl, hv'⟩, hb⟩

theorem natRead_c (x : Nat) (w : World) (hs : (dec x).size ≤ 100000) (hT : Tens w) :
    Calls Tryz.prog 186 #[.string (dec x)] w fun e w' => (∃ v', e = .returned v' ∧ isNat w' v' x) ∧ Below w.heap.size w w' :=
  (natReadB_c x w hs hT).mono fun _ _ h => ⟨⟨h.1.choose, h.1.choose_spec.1, h.1.choose_spec.2.nat⟩, h.2⟩
end Go.Proofs.YtpbnmhnbkfnaeaaGreatDoor
