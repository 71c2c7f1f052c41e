/- A part of the proof, put together out of smaller texts. -/
import Derived.Test.YtnenoaenjaghhaaDoorM1
import Derived.Lib.DecodeN
import Derived.Lib.ValidLaws
import Derived.Lib.RuneCount
import Derived.Lib.Bytealg
import Derived.Deep.RegionWith
set_option linter.all false
set_option maxRecDepth 100000
set_option maxHeartbeats 16000000
namespace Go.Proofs.YtnenoaenjaghhaaDoor
open Go.RowKit Nt
theorem j6 {ns : List Nd} {gs : List Int} {f : Nat} {ks : List Int} {j : Nat} {k : Int} {o : List Int} (h : ks[j]? = some k) : (ks.take (j + 1)).foldl (fun o k => walkM ns gs f k o) o = walkM ns gs f k ((ks.take j).foldl (fun o k => walkM ns gs f k o) o) := by
 rw [List.take_add_one, h, List.foldl_append]; rfl
theorem xg (W1 : World) (nv gv : Value) (ns : List Nd) (gs : List Int) (hn : NodesAt W1 nv ns) (hg : IntsAt W1 gv gs) (hgl : gs.length = ns.length) (hk : KidsR ns) (hgo : GsOk ns.length gs) (hs : ns.length ≤ 1048576) :
  ∀ (f : Nat) (at' : Int) (o : List Int) (ov : Value) (W : World), 0 ≤ at' → at' < ns.length → InR ns.length o → ns.length < o.length + f → Below W1.heap.size W1 W → W.ownsRow W1.heap.size 3 1 ov o.length (iv o) →
  Calls Tryd.prog 49 #[nv, gv, .int .i64 at', ov] W fun e w' => (∃ ov', e = .returned ov' ∧ w'.ownsRow W1.heap.size 3 1 ov' (walkM ns gs f at' o).length (iv (walkM ns gs f at' o))) ∧ Below W1.heap.size W1 w' := by
 obtain ⟨i0, hi, hz0, hz1, hz2⟩ := info_parts Tryd.infoInt
 by_cases hn0 : 0 < ns.length
 case neg => intro f at' o ov W h0 h1; omega
 obtain ⟨bn, on, cn, rfl, hn1, hn2, hbn⟩ := hn.form hn0
 obtain ⟨ag, cg, rfl, hcg1, hcg2⟩ := hg.form
 obtain ⟨x0, hx0⟩ : ∃ x, gs[0]? = some x := ⟨_, List.getElem?_eq_getElem (by omega)⟩
 obtain ⟨bg, og, rfl, hbg, _⟩ := hg.cell hx0
 unfold maxLen at hn2 hcg2
 have HN := hide hn
 have HG := hide hg
 have HK := hide hk
 have HGO := hide hgo
 clear hn hg hk hgo hx0
 rw [hgl] at HG hcg1 ⊢
 intro f
 induction f with
 | zero => intro at' o ov W _ _ h hf _ _; have := h.len; omega
 | succ f ih =>
  intro at' o ov W h0 h1 hin hf hB hown
  obtain ⟨k, rfl⟩ := Int.eq_ofNat_of_zero_le h0
  have hga := (za HGO) k h0 h1
  have hgk : gs[k]? = some (gAt gs (k : Int)) := by
   have := qC (g := gs) (x := (k : Int)) h0 (by omega)
   simpa using this
  obtain ⟨gn, hgn⟩ := Int.eq_ofNat_of_zero_le hga.1
  have hgnl : gn < ns.length := by omega
  obtain ⟨nd, hnd⟩ : ∃ nd, ns[gn]? = some nd := ⟨_, List.getElem?_eq_getElem hgnl⟩
  have hwm : walkM ns gs (f + 1) k o = if (gn : Int) ∈ o then o else nd.2.2.foldl (fun o k => walkM ns gs f k o) (o ++ [(gn : Int)]) := by
   show (if gAt gs k ∈ o then o else (ndAt ns (gAt gs k).toNat).2.2.foldl _ (o ++ [gAt gs k])) = _
   rw [hgn, Int.toNat_natCast, qr hnd]
  rw [hgn] at hgk
  have HWM := hide hwm
  have HIH := hide ih
  have hlen := hin.len
  have HIN := hide hin
  have HB := hide hB
  have HOWN := hide hown
  have HND := hide hnd
  obtain ⟨bg', og', e', _, hgc⟩ := ((za HG).below hB).cell hgk
  injection e' with e'
  injection e' with e1 e2
  subst e1 e2
  obtain ⟨oa, oc, rfl, ho1, ho2⟩ := (zz hown).form
  unfold maxLen at ho2
  have hks := (za HK) nd (List.mem_of_getElem? hnd)
  have HKS := hide hks
  clear hga hgn hwm ih hin hB hown hnd hgk hks
  go_enter Tryd.func49, Tryd.ntmps49
  go_wp2
  go_loopw [10] (fun i wr => ∃ j : Nat, j ≤ o.length ∧ i = .int .i64 j ∧ Hid (∀ i, i < j → o[i]? ≠ some (gn : Int)) ∧ wr = W)
   (fun i _ => o.length - (intOf i).toNat)
  case atStart => exact ⟨0, by omega, rfl, hide (fun _ h => absurd h (by omega)), by first | rfl | trivial⟩
  case round =>
   obtain ⟨j, hj, rfl, hno, rfl⟩ := hrel
   by_cases hlt : j < o.length
   ·obtain ⟨x, hx⟩ : ∃ x, o[j]? = some x := ⟨_, List.getElem?_eq_getElem hlt⟩
    obtain ⟨b, off, rfl, hb, hc⟩ := (zz (za HOWN)).cell hx
    by_cases hxg : x = (gn : Int)
    ·subst hxg
     have hw2 : walkM ns gs (f + 1) k o = o := by rw [za HWM, if_pos (List.mem_of_getElem? hx)]
     have HW2 := hide hw2
     clear hw2 hx hno
     go_wp2
     go_ret
     rw [za HW2]
     exact ⟨⟨_, rfl, za HOWN⟩, za HB⟩
    ·have hno2 := hide (fun (i : Nat) (hi : i < j + 1) => (by
      rcases Nat.lt_succ_iff_lt_or_eq.1 hi with h3 | h3
      ·exact za hno i h3
      ·subst h3; rw [hx]; intro e; injection e with e; exact hxg e : o[i]? ≠ some (gn : Int)))
     clear hno hx
     go_wp2
     go_roundw
     case rel => exact ⟨j + 1, by omega, by go_num, hno2, by first | rfl | trivial⟩
     case measure => simp [intOf]; omega
   ·have hnin : (gn : Int) ∉ o := by
     intro hm
     obtain ⟨i, hi⟩ := List.getElem?_of_mem hm
     exact za hno i (by have := (List.getElem?_eq_some_iff.1 hi).1; omega) hi
    have hw2 : walkM ns gs (f + 1) k o = nd.2.2.foldl (fun o k => walkM ns gs f k o) (o ++ [(gn : Int)]) := by rw [za HWM, if_neg hnin]
    have HW2 := hide hw2
    have HIN2 := hide ((za HIN).snoc (g := (gn : Int)) (by omega) hnin)
    have hsz := (za HB).size
    clear hw2 hno hnin hgc
    go_wp2_with (at_builtin; refine wpList_append_own _ rfl (.tmp 29) (.tmp 31) 59 rfl W1.heap.size 3 i0 (.int .i64 0) 1 8 Tryd.underlying59 hi hz0 hz1 hz2 rfl (by decide) _ _ _ rfl ((za HOWN).alloc _) ⟨wr.heap.size, 0, none⟩ 1 1 [.int .i64 (gn : Int)] rfl rfl (cell_one_new _ _ _) (by intro u hu; simp at hu; subst hu; rfl) (by unfold maxLen; omega) (by omega) (by simp; omega) ?_; intro v2 w2 hown2 hg2 hxx; clear hxx)
    have hown2' : w2.ownsRow W1.heap.size 3 1 v2 (o ++ [(gn : Int)]).length (iv (o ++ [(gn : Int)])) := by
     simpa [iv] using hown2
    have hb2 := zy ((za HB).alloc hsz (.cells #[.int .i64 (gn : Int)] 3)) ((za HOWN).alloc _) hg2 (by simp; omega)
    have HO2 := hide hown2'
    have HB2 := hide hb2
    clear hown2 hg2 hown2' hb2
    go_loopw [3, 11] (fun sv jv wr => ∃ (j : Nat) (o' : List Int), j ≤ nd.2.2.length ∧ jv = .int .i64 j ∧ Hid (o' = (nd.2.2.take j).foldl (fun o k => walkM ns gs f k o) (o ++ [(gn : Int)])) ∧ Hid (wr.ownsRow W1.heap.size 3 1 sv o'.length (iv o')) ∧ Hid (Below W1.heap.size W1 wr) ∧ Hid (InR ns.length o') ∧ o.length + 1 ≤ o'.length)
     (fun _ jv _ => nd.2.2.length - (intOf jv).toNat)
    case atStart => exact ⟨0, o ++ [(gn : Int)], by omega, rfl, hide rfl, HO2, HB2, HIN2, by simp⟩
    case round =>
     clear HO2 HB2 HIN2
     obtain ⟨j2, o2, hj2, rfl, ho2, hown2, hb2, hin2, hl2⟩ := hrel
     obtain ⟨kv, c0, c1, c2, _, hkv⟩ := ((za HN).below (za hb2)).node (za HND)
     obtain ⟨ka, kc, rfl, hkc1, hkc2⟩ := hkv.form
     unfold maxLen at hkc2
     by_cases hlt2 : j2 < nd.2.2.length
     ·obtain ⟨x, hx⟩ : ∃ x, nd.2.2[j2]? = some x := ⟨_, List.getElem?_eq_getElem hlt2⟩
      obtain ⟨b, off, rfl, hb, hc⟩ := hkv.cell hx
      have hxr := (za HKS) x (List.mem_of_getElem? hx)
      have hst := j6 (ns := ns) (gs := gs) (f := f) (o := o ++ [(gn : Int)]) hx
      rw [← za ho2] at hst
      have hok := ja (za HK) (za HGO) f x o2 hxr.1 hxr.2 (za hin2)
      have HST := hide hst
      have HOK := hide hok
      have HXR := hide hxr
      clear hst hok hxr hx hkv ho2
      go_wp2_with fail
      have h := (za HIH) x o2 _ wr (za HXR).1 (za HXR).2 (za hin2) (by omega) (za hb2) (za hown2)
      refine h.mono ?_
      clear h
      rintro e w3 ⟨⟨ov3, rfl, hown3⟩, hb3⟩
      have HO3 := hide hown3
      have HB3 := hide hb3
      have hl3 := (za HOK).2.1
      clear hown3 hb3 hown2 hb2 hin2
      go_wp2
      go_roundw
      case rel => exact ⟨j2 + 1, _, by omega, by go_num, hide (za HST).symm, HO3, HB3, hide (za HOK).1, by omega⟩
      case measure => simp [intOf]; omega
     ·have hfin := za ho2
      rw [List.take_of_length_le (by omega)] at hfin
      have HFIN := hide hfin
      clear hfin hkv ho2
      go_wp2
      go_ret
      rw [za HW2, ← za HFIN]
      exact ⟨⟨_, rfl, za hown2⟩, za hb2⟩
def ordM (ns : List Nd) (gs : List Int) (rs : List Int) : List Int := rs.foldl (fun o r => walkM ns gs (ns.length + 1) r o) []
def minNd (ns : List Nd) (gs o : List Int) (g : Int) : Nd := ((ndAt ns g.toNat).1, (ndAt ns g.toNat).2.1, (ndAt ns g.toNat).2.2.map fun k => zq o (gAt gs k))
def minOk (d : Dt) : Bool := d.1.all (zA · d.1.length) && d.2.all (inR · d.1.length)
def minM (d : Dt) : Dt :=
 if minOk d then
  ((ordM d.1 (grpM d.1) d.2).map (minNd d.1 (grpM d.1) (ordM d.1 (grpM d.1) d.2)), d.2.map fun r => zq (ordM d.1 (grpM d.1) d.2) (gAt (grpM d.1) r))
 else ([], [])
theorem jW {k : Int} {n : Nat} : inR k n = true ↔ 0 ≤ k ∧ k < n := by unfold inR; simp
theorem yH {ns : List Nd} (h : ns.all (zA · ns.length) = true) : KidsR ns := by
 intro nd hm x hx
 have := List.all_eq_true.1 h nd hm
 unfold zA at this
 rw [Bool.and_eq_true] at this
 exact jW.1 (List.all_eq_true.1 this.2 x hx)
theorem ZM {P : Nat → Bool} {i n m : Nat} (h : i < n) : seek P i m < n := Nat.lt_of_le_of_lt (ZL P i m) h
theorem xd (ns : List Nd) (k : Nat) : ∀ x ∈ itG ns k, 0 ≤ x ∧ x < ns.length := by
 intro x hx
 cases k with
 | zero =>
  simp [itG] at hx
  have : 0 < ns.length := by
   rcases Nat.eq_zero_or_pos ns.length with h | h
   ·exact absurd (List.length_eq_zero_iff.1 h) hx.1
   ·exact h
  omega
 | succ k =>
  simp only [itG, stepG, List.mem_map, List.mem_range] at hx
  obtain ⟨i, hi, rfl⟩ := hx
  have := ZM (P := pG ns (itG ns k) i) (m := i) hi
  omega
theorem qQ (ns : List Nd) : (grpM ns).length = ns.length := qR _ _
theorem yh (ns : List Nd) : GsOk ns.length (grpM ns) := by
 intro k h0 h1
 have := qC (g := grpM ns) h0 (by rw [qQ]; exact h1)
 exact xd ns _ _ (List.mem_of_getElem? this)
theorem ZK {ns : List Nd} (hk : KidsR ns) (rs : List Int) (hr : ∀ r ∈ rs, 0 ≤ r ∧ r < ns.length) : ∀ o, InR ns.length o → InR ns.length (rs.foldl (fun o r => walkM ns (grpM ns) (ns.length + 1) r o) o) := by
 induction rs with
 | nil => intro o h; exact h
 | cons r t ih =>
  intro o h
  have h0 := hr r (by simp)
  exact ih (fun x hx => hr x (by simp [hx])) _ (ja hk (yh ns) (ns.length + 1) r o h0.1 h0.2 h).1
theorem jo (n : Nat) : InR n [] := ⟨List.nodup_nil, fun x hx => by simp at hx⟩
end Go.Proofs.YtnenoaenjaghhaaDoor
namespace Go.Proofs.YtnenoaenjaghhaaDoor
open Nt
theorem qP (s : ByteArray) (k : Nat) (h : k < s.size) : s.get! k = s[k]'h := by
 cases s with
 | mk d => exact getElem!_pos d k h
theorem vR (s : ByteArray) (h : 0 < s.size) : 1 ≤ (Utf8.decode s 0).2 ∧ (Utf8.decode s 0).2 ≤ s.size ∧
  ((Utf8.decode s 0).1 = 10 → (Utf8.decode s 0).2 = 1 ∧ (s.get! 0).toNat = 10) ∧ ((Utf8.decode s 0).1 ≠ 10 → ∀ i, i < (Utf8.decode s 0).2 → (s.get! i).toNat ≠ 10) := by
 rw [Lib.decode_at]
 simp only [Nat.sub_zero, Nat.zero_add]
 have l0 := (s.get! 0).toNat_lt
 have l1 := (s.get! 1).toNat_lt
 have l2 := (s.get! 2).toNat_lt
 have l3 := (s.get! 3).toNat_lt
 have key : ∀ (n b0 b1 b2 b3 : Nat), 0 < n → b0 < 256 → b1 < 256 → b2 < 256 → b3 < 256 → ∀ d, d = Lib.decodeN n b0 b1 b2 b3 → 1 ≤ d.2 ∧ d.2 ≤ n ∧ d.2 ≤ 4 ∧ (d.1 = 10 → d.2 = 1 ∧ b0 = 10) ∧ (d.1 ≠ 10 → b0 ≠ 10 ∧ (1 < d.2 → b1 ≠ 10) ∧ (2 < d.2 → b2 ≠ 10) ∧ (3 < d.2 → b3 ≠ 10)) := by
  intro n b0 b1 b2 b3 hn h0 h1 h2 h3 d hd
  subst hd
  unfold Lib.decodeN
  repeat' split
  all_goals (refine ⟨?_, ?_, ?_, fun h => ?_, fun h => ⟨?_, fun _ => ?_, fun _ => ?_, fun _ => ?_⟩⟩ <;> dsimp only at * <;> first | omega | exact h)
 obtain ⟨a1, a2, a3, a4, a5⟩ := key _ _ _ _ _ h l0 l1 l2 l3 _ rfl
 refine ⟨a1, a2, a4, fun hne i hi => ?_⟩
 obtain ⟨c0, c1, c2, c3⟩ := a5 hne
 match i, hi with
 | 0, _ => exact c0
 | 1, hi => exact c1 hi
 | 2, hi => exact c2 hi
 | 3, hi => exact c3 hi
 | i + 4, hi => omega
abbrev badC (s : ByteArray) : Prop := s.size < 3 ∨ s.extract 0 3 ≠ ⟨#[239, 191, 189]⟩
def sizeM (s : ByteArray) : Nat :=
 if s.size = 0 ∨ (Utf8.decode s 0).1 = 65533 ∧ badC s then 0 else (Utf8.encode ((Utf8.decode s 0).1 : Nat)).size
theorem jI (c : Nat) : (Utf8.encode (c : Int)).size = if c < 128 then 1 else if c < 2048 then 2 else if 65536 ≤ c ∧ c ≤ 1114111 then 4 else 3 := by
 unfold Utf8.encode Utf8.valid Utf8.runeError
 simp only [Bool.or_eq_true, Bool.and_eq_true, decide_eq_true_eq, Int.toNat_natCast]
 repeat' split
 all_goals first | rfl | (exfalso; omega)
theorem xP (s : ByteArray) (h : 3 ≤ s.size) : s.extract 0 3 = ⟨#[s.get! 0, s.get! 1, s.get! 2]⟩ := by
 apply ByteArray.ext_getElem
 ·rw [ByteArray.size_extract]; show _ = 3; omega
 ·intro i h1 h2
  have hi : i < 3 := h2
  rw [ByteArray.getElem_extract, ← qP]
  match i, hi with
  | 0, _ => rfl
  | 1, _ => rfl
  | 2, _ => rfl
theorem vw (s : ByteArray) (h : 0 < s.size) : (if sizeM s = 0 then 1 else sizeM s) = (Utf8.decode s 0).2 := by
 have he : ∀ a b c : UInt8, ((⟨#[a, b, c]⟩ : ByteArray) = ⟨#[239, 191, 189]⟩) ↔ a.toNat = 239 ∧ b.toNat = 191 ∧ c.toNat = 189 := by
  intro a b c
  simp only [ByteArray.mk.injEq, Array.mk.injEq, List.cons.injEq, and_true, ← UInt8.toNat_inj]
  rfl
 have hx : badC s ↔ ¬ (3 ≤ s.size ∧ (s.get! 0).toNat = 239 ∧ (s.get! 1).toNat = 191 ∧ (s.get! 2).toNat = 189) := by
  unfold badC
  by_cases h3 : 3 ≤ s.size
  ·rw [xP s h3, Ne, he]
   constructor
   ·rintro (h | h)
    ·omega
    ·exact fun k => h k.2
   ·exact fun k => .inr fun m => k ⟨h3, m⟩
  ·constructor
   ·exact fun _ k => h3 k.1
   ·exact fun _ => .inl (by omega)
 unfold sizeM
 simp only [hx, jI]
 have l0 := (s.get! 0).toNat_lt
 have l1 := (s.get! 1).toNat_lt
 have l2 := (s.get! 2).toNat_lt
 have l3 := (s.get! 3).toNat_lt
 have key : ∀ (n b0 b1 b2 b3 : Nat), 0 < n → b0 < 256 → b1 < 256 → b2 < 256 → b3 < 256 → ∀ d, d = Lib.decodeN n b0 b1 b2 b3 →
   (if (if n = 0 ∨ d.1 = 65533 ∧ ¬ (3 ≤ n ∧ b0 = 239 ∧ b1 = 191 ∧ b2 = 189) then 0 else (if d.1 < 128 then 1 else if d.1 < 2048 then 2 else if 65536 ≤ d.1 ∧ d.1 ≤ 1114111 then 4 else 3)) = 0 then 1
    else (if n = 0 ∨ d.1 = 65533 ∧ ¬ (3 ≤ n ∧ b0 = 239 ∧ b1 = 191 ∧ b2 = 189) then 0 else (if d.1 < 128 then 1 else if d.1 < 2048 then 2 else if 65536 ≤ d.1 ∧ d.1 ≤ 1114111 then 4 else 3))) = d.2 := by
  intro n b0 b1 b2 b3 hn h0 h1 h2 h3 d hd
  have hd' : d = (d.1, d.2) := rfl
  generalize hu : d.1 = u at hd' ⊢
  generalize hv : d.2 = v at hd' ⊢
  rw [hd'] at hd
  clear hu hv hd'
  unfold Lib.decodeN at hd
  repeat' split at hd
  all_goals (simp only [Prod.mk.injEq] at hd; obtain ⟨e1, e2⟩ := hd; repeat' split)
  all_goals omega
 exact key _ _ _ _ _ h l0 l1 l2 l3 _ (by rw [Lib.decode_at]; simp only [Nat.sub_zero, Nat.zero_add])
structure IsLine (t : ByteArray) (p j : Nat) : Prop where
 lo : p ≤ j
 hi : j ≤ t.size
 no : ∀ i, p ≤ i → i < j → (t.get! i).toNat ≠ 10
 nl : j < t.size → (t.get! j).toNat = 10
theorem IsLine.one {t : ByteArray} {p j k : Nat} (h : IsLine t p j) (m : IsLine t p k) : j = k := by
 rcases Nat.lt_trichotomy j k with c | c | c
 ·exact absurd (h.nl (by have := m.hi; omega)) (m.no j h.lo c)
 ·exact c
 ·exact absurd (m.nl (by have := h.hi; omega)) (h.no k m.lo c)
theorem jC (t : ByteArray) : ∀ (n p : Nat), p ≤ t.size → t.size - p = n → ∃ j, IsLine t p j
 | 0, p, h, e => ⟨p, Nat.le_refl _, h, fun i h1 h2 => by omega, fun h => by omega⟩
 | n + 1, p, h, e => by
  by_cases h10 : (t.get! p).toNat = 10
  ·exact ⟨p, Nat.le_refl _, h, fun i h1 h2 => by omega, fun _ => h10⟩
  ·obtain ⟨j, h1, h2, h3, h4⟩ := jC t n (p + 1) (by omega) (by omega)
   refine ⟨j, by omega, h2, fun i a b => ?_, h4⟩
   by_cases hi : i = p
   ·subst hi; exact h10
   ·exact h3 i (by omega) b
theorem jU (t : ByteArray) (p i : Nat) (h : p + i < t.size) : (t.extract p t.size).get! i = t.get! (p + i) := by
 have hs : (t.extract p t.size).size = t.size - p := by simp
 rw [qP _ i (by rw [hs]; omega), qP _ (p + i) h]
 exact ByteArray.getElem_extract ..
theorem IsLine.lift {t : ByteArray} {p k : Nat} (hp : p ≤ t.size) (h : IsLine (t.extract p t.size) 0 k) : IsLine t p (p + k) := by
 have hs : (t.extract p t.size).size = t.size - p := by simp
 have hk := h.hi
 rw [hs] at hk
 refine ⟨by omega, by omega, fun i h1 h2 => ?_, fun h1 => ?_⟩
 ·have := h.no (i - p) (by omega) (by omega)
  rwa [jU t p (i - p) (by omega), show p + (i - p) = i by omega] at this
 ·have := h.nl (by rw [hs]; omega)
  rwa [jU t p k (by omega)] at this
theorem kI (t : ByteArray) (p k : Nat) (h : p + k ≤ t.size) : (t.extract p t.size).extract 0 k = t.extract p (p + k) := by
 rw [ByteArray.extract_extract]
 congr 1
 omega
end Go.Proofs.YtnenoaenjaghhaaDoor
namespace Go.Proofs.YtnenoaenjaghhaaDoor
open Nt
theorem Zp (s : ByteArray) (k : Nat) (h : k < s.size) : 1 ≤ (Utf8.decode s k).2 ∧ k + (Utf8.decode s k).2 ≤ s.size ∧
  ((Utf8.decode s k).1 < 128 → (Utf8.decode s k).2 = 1 ∧ (s.get! k).toNat = (Utf8.decode s k).1) ∧ (128 ≤ (Utf8.decode s k).1 → ∀ i, k ≤ i → i < k + (Utf8.decode s k).2 → 128 ≤ (s.get! i).toNat) := by
 rw [Lib.decode_at]
 have l0 := (s.get! k).toNat_lt
 have l1 := (s.get! (k + 1)).toNat_lt
 have l2 := (s.get! (k + 2)).toNat_lt
 have l3 := (s.get! (k + 3)).toNat_lt
 have key : ∀ (n b0 b1 b2 b3 : Nat), 0 < n → b0 < 256 → b1 < 256 → b2 < 256 → b3 < 256 → ∀ d, d = Lib.decodeN n b0 b1 b2 b3 → 1 ≤ d.2 ∧ d.2 ≤ n ∧ d.2 ≤ 4 ∧ (d.1 < 128 → d.2 = 1 ∧ b0 = d.1) ∧ (128 ≤ d.1 → 128 ≤ b0 ∧ (1 < d.2 → 128 ≤ b1) ∧ (2 < d.2 → 128 ≤ b2) ∧ (3 < d.2 → 128 ≤ b3)) := by
  intro n b0 b1 b2 b3 hn h0 h1 h2 h3 d hd
  subst hd
  unfold Lib.decodeN
  repeat' split
  all_goals (refine ⟨?_, ?_, ?_, fun h => ?_, fun h => ⟨?_, fun _ => ?_, fun _ => ?_, fun _ => ?_⟩⟩ <;> dsimp only at * <;> omega)
 obtain ⟨a1, a2, a3, a4, a5⟩ := key _ _ _ _ _ (by omega : 0 < s.size - k) l0 l1 l2 l3 _ rfl
 refine ⟨a1, by omega, a4, fun hge i h1 h2 => ?_⟩
 obtain ⟨c0, c1, c2, c3⟩ := a5 hge
 obtain rfl | rfl | rfl | rfl : i = k ∨ i = k + 1 ∨ i = k + 2 ∨ i = k + 3 := by omega
 ·exact c0
 ·exact c1 (by omega)
 ·exact c2 (by omega)
 ·exact c3 (by omega)
theorem ke (c : Nat) (h : c = 65533) : (Utf8.encode ((c : Nat) : Int)).size = 3 := by subst h; rfl
theorem vA (s : ByteArray) (h : 0 < s.size) : sizeM s = 0 ↔ ((Utf8.decode s 0).1 = 65533 ∧ (Utf8.decode s 0).2 = 1) := by
 have e := vw s h
 constructor
 ·intro h0
  rw [if_pos h0] at e
  refine ⟨?_, e.symm⟩
  unfold sizeM at h0
  split at h0
  ·rename_i hh
   rcases hh with hh | hh
   ·omega
   ·exact hh.1
  ·rw [jI] at h0
   repeat' split at h0
   all_goals omega
 ·rintro ⟨e1, e2⟩
  refine Decidable.byContradiction fun h0 => ?_
  rw [if_neg h0] at e
  unfold sizeM at e h0
  split at e
  ·rename_i hh
   rw [if_pos hh] at h0
   exact h0 rfl
  ·rw [ke _ e1] at e
   omega
theorem vz (s : ByteArray) (h : 0 < s.size) (h0 : sizeM s ≠ 0) : sizeM s = (Utf8.decode s 0).2 := by
 have e := vw s h
 rwa [if_neg h0] at e
theorem xw : sizeM ⟨#[]⟩ = 0 := by
 unfold sizeM
 rw [if_pos (.inl rfl)]
theorem kE (l : List UInt8) (hne : l ≠ []) : Lib.validD l = if sizeM (B l) = 0 then false else Lib.validD (l.drop (sizeM (B l))) := by
 have hs : 0 < (B l).size := by rw [ze]; exact List.length_pos_iff.2 hne
 rw [Lib.validD_step l hne]
 have e : Lib.decodeL l = Utf8.decode (B l) 0 := rfl
 rw [e]
 by_cases h0 : sizeM (B l) = 0
 ·rw [if_pos h0, if_pos ((vA _ hs).1 h0)]
 ·rw [if_neg h0, if_neg (fun h => h0 ((vA _ hs).2 h)), vz _ hs h0]
def oneM (t : List UInt8) : Bool := decide (0 < sizeM (B t)) && decide (sizeM (B t) = t.length)
end Go.Proofs.YtnenoaenjaghhaaDoor
namespace Go.Proofs.YtnenoaenjaghhaaDoor
open Go.RowKit Nt
theorem j8 (l : List Nat) (j : Nat) (h : j < l.length) : (ints l)[j]? = some (.int .i64 (l[j] : Nat)) := by simp [ints, h]
theorem yG (l : List Nat) (j d : Nat) : (ints l).set j (.int .i64 (d : Int)) = ints (l.set j d) := by simp [ints, List.map_set]
theorem xb (n : Nat) : List.replicate n (Value.int .i64 0) = ints (List.replicate n 0) := by simp [ints]
theorem vS (l : List Nat) (j d : Nat) (v : Int) (h : v = (d : Int)) : (ints l).set j (.int .i64 v) = ints (l.set j d) := by rw [h, yG]
theorem xY {xs : List Nat} {L j X : Nat} (hl : xs.length = L) (hj : j + 1 = L) (h : ∀ t (ht : t < xs.length), t < j → xs[t] < 10) (hX : ofd 10 xs = X) (hlt : X < 10 ^ L) : ∀ d ∈ xs, d < 10 := by
 intro d hd
 obtain ⟨t, ht, rfl⟩ := List.getElem_of_mem hd
 by_cases htj : t < j
 ·exact h t ht htj
 ·have htj2 : t = j := by omega
  subst htj2
  have h1 := Z7 10 xs t ht
  rw [hX] at h1
  rw [← hj, Nat.pow_succ] at hlt
  have h2 : 10 ^ t * xs[t] < 10 ^ t * 10 := by omega
  exact Nat.lt_of_mul_lt_mul_left h2
theorem kt {a b i la lb L : Nat} (hla : (dec a).size = la) (hlb : (dec b).size = lb) (hL : la + lb = L) : a % 10 ^ (i + 1) * b < 10 ^ L := by
 have h1 := zT a
 have h2 := zT b
 rw [hla] at h1
 rw [hlb] at h2
 rw [← hL, Nat.pow_add 10 la lb]
 exact Nat.mul_lt_mul'' (Nat.lt_of_le_of_lt (Nat.mod_le _ _) h1) h2
theorem xq {xs : List Nat} {j x y q r X : Nat} (hj : j + 1 < xs.length) (hx : xs[j]'(by omega) = x) (hy : xs[j + 1] = y) (hq : x / 10 = q) (hr : x % 10 = r) (hX : ofd 10 xs = X) :
  ofd 10 ((xs.set (j + 1) (y + q)).set j r) = X := by
 have h1 := jY 10 xs (j + 1) (y + q) hj
 have h2 := jY 10 (xs.set (j + 1) (y + q)) j r (by rw [List.length_set]; omega)
 rw [List.getElem_set_ne (by omega), hx] at h2
 rw [hy, hX, ← hq] at h1
 rw [← hr, ← hq] at h2
 have := y8 h1 h2
 rw [← hq, ← hr]; exact this
abbrev rowOf (w : World) (L : Nat) : Value := .slice (some ⟨w.heap.size, 0, none⟩) L L
theorem Zv (a b : Nat) (w : World) (hsa : (dec a).size ≤ 100000) (hsb : (dec b).size ≤ 100000) :
  Calls Tryd.prog 85 #[.string (dec a), .string (dec b)] w fun e w' => e = .returned (.string (dec (a * b))) ∧ Below w.heap.size w w' := by
 obtain ⟨i0, hi, hz0, hz1, hz2⟩ := info_parts Tryd.infoInt
 obtain ⟨la, hla⟩ : ∃ la, (dec a).size = la := ⟨_, rfl⟩
 obtain ⟨lb, hlb⟩ : ∃ lb, (dec b).size = lb := ⟨_, rfl⟩
 have Hla := hide hla
 have Hlb := hide hlb
 obtain ⟨L, hL⟩ : ∃ L, la + lb = L := ⟨_, rfl⟩
 have hLI : (la : Int) + lb = L := by omega
 have HL := hide hL
 have hlaI : ((dec a).size : Int) = la := by omega
 have hlbI : ((dec b).size : Int) = lb := by omega
 rw [hla] at hsa
 rw [hlb] at hsb
 have hLs : L ≤ 200000 := by omega
 have hlaL : la ≤ L := by omega
 clear hL
 go_enter Tryd.func85, Tryd.ntmps85
 go_wp2_with (refine wpList_make_full _ rfl (.tmp 13) (.tmp 13) 59 rfl w.heap.size 3 i0 (.int .i64 0) 1 Tryd.underlying59 hi hz0 hz1 .i64 .i64 L L L rfl rfl rfl rfl (by rw [hz2]; omega) (by unfold maxLen; omega) (Nat.le_refl _) ?_; intro w1 hown1 hg1)
 go_loopw [6, 7, 8] (fun i k j wr => ∃ (i' : Nat) (xs : List Nat), i' ≤ la ∧ i = .int .i64 i' ∧ xs.length = L ∧ wr.ownsRow w.heap.size 3 1 (rowOf w L) L (ints xs) ∧ Below w.heap.size w wr ∧
   Hid (∀ d ∈ xs, d < 10) ∧ Hid (ofd 10 xs = a % 10 ^ i' * b))
  (fun i _ _ _ => la - (intOf i).toNat)
 case atStart =>
  refine ⟨0, List.replicate L 0, Nat.zero_le _, rfl, by simp, ?_, (Below.refl _ _).grown hg1 (Nat.le_refl _) (fun _ h => by cases h), ?_, ?_⟩
  ·simpa [Value.cells, toList_madeCells_one, xb] using hown1
  ·intro d hd; simp at hd; omega
  ·show _ = _; rw [jk]; simp [Nat.mod_one]
 case round =>
  clear hown1 hg1
  obtain ⟨i', xs, hi', rfl, hxl, hown, hb, hdg, hval⟩ := hrel
  by_cases hlt : i' < la
  ·have hai : a / 10 ^ i' % 10 < 10 := Nat.mod_lt _ (by omega)
   generalize hga : a / 10 ^ i' % 10 = ai at *
   have Ha := hide hga
   clear hga
   go_wp2
   go_loopw [7] (fun k wr => ∃ (k' : Nat) (xs : List Nat), k' ≤ lb ∧ k = .int .i64 k' ∧ xs.length = L ∧ wr.ownsRow w.heap.size 3 1 (rowOf w L) L (ints xs) ∧ Below w.heap.size w wr ∧
     Hid (∀ d ∈ xs, d ≤ 90) ∧ Hid (∀ j (h : j < xs.length), i' + k' ≤ j → xs[j] < 10) ∧ Hid (ofd 10 xs = a % 10 ^ i' * b + 10 ^ i' * (ai * (b % 10 ^ k'))))
    (fun k _ => lb - (intOf k).toNat)
   case atStart =>
    exact ⟨0, xs, Nat.zero_le _, rfl, hxl, hown, hb, hide (fun d hd => by have := za hdg d hd; omega), hide (fun j h _ => za hdg _ (List.getElem_mem h)), hide (by rw [za hval]; simp [Nat.mod_one])⟩
   case round =>
    clear hown hb hdg hval hxl
    clear xs
    obtain ⟨k', xs, hk', rfl, hxl, hown, hb, hdg, hup, hval⟩ := hrel
    by_cases hlt2 : k' < lb
    ·have hbk : b / 10 ^ k' % 10 < 10 := Nat.mod_lt _ (by omega)
     generalize hgb : b / 10 ^ k' % 10 = bk at *
     have Hb := hide hgb
     clear hgb
     have hjL : i' + k' < L := by omega
     have hx10 : xs[i' + k']'(by omega) < 10 := za hup _ (by omega) (Nat.le_refl _)
     have hcell := hown.cellAt (i' + k') (by omega)
     rw [j8 _ _ (by omega)] at hcell
     have hfr := hown.frozenAt (i' + k')
     generalize hx : xs[i' + k']'(by omega) = x at *
     have Hx := hide hx
     have hmul : ai * bk ≤ 9 * 9 := Nat.mul_le_mul (by omega) (by omega)
     generalize hpp : ai * bk = pp at *
     have hppI : (ai : Int) * bk = pp := by rw [← hpp]; simp
     have Hpp := hide hpp
     clear hx hpp
     have hst := hown.stored (i' + k') (.int .i64 ((x : Int) + pp))
     rw [vS _ _ (x + pp) _ (by simp)] at hst
     have Hst := hide hst
     clear hst
     have e1 := wi64 ((i' : Int) + k') (by omega) (by omega)
     have e2 := wi64 (pp : Int) (by omega) (by omega)
     have e3 := wi64 ((x : Int) + pp) (by omega) (by omega)
     have e4 : ((i' : Int) + k').toNat = i' + k' := by omega
     have hix : (i' : Int) + k' < L := by omega
     go_wp2
     go_region_with (first | (go_at_call_of 87 (dec a); refine (qG a i' ai _ (za Ha) (by omega) (by omega)).mono ?_; rintro e w1 ⟨rfl, rfl⟩) | (go_at_call_of 87 (dec b); refine (qG b k' bk _ (za Hb) (by omega) (by omega)).mono ?_; rintro e w1 ⟨rfl, rfl⟩))
     all_goals
      go_wp2
      go_roundw
      case rel =>
       refine ⟨k' + 1, xs.set (i' + k') (x + pp), by omega, by go_num, by simpa using hxl, (za Hst).1, ?_, hide (yr (za hdg) (by omega)), ?_, ?_⟩
       ·first
        | exact (hb.setCell (by simp) _).drew
        | exact hb.setCell (by simp) _
       ·intro j hj hij
        rw [List.getElem_set_ne (by omega)]
        exact za hup j (by simpa using hj) (by omega)
       ·have hs := jY 10 xs (i' + k') (x + pp) (by omega)
        rw [za Hx, ← za Hpp] at hs
        have := xZ (za Ha) (za Hb) (za hval) hs
        rw [za Hpp] at this
        exact this
      case measure => simp [intOf]; omega
    ·have hkl : k' = lb := by omega
     subst hkl
     have hlen := Nat.lt_of_le_of_lt (Nat.zero_le _) hlt
     go_wp2
     go_loopw [8] (fun j wr => ∃ (j' : Nat) (xs : List Nat), j' + 1 ≤ L ∧ j = .int .i64 j' ∧ xs.length = L ∧ wr.ownsRow w.heap.size 3 1 (rowOf w L) L (ints xs) ∧ Below w.heap.size w wr ∧
       Hid (∀ d ∈ xs, d ≤ 99) ∧ Hid (∀ t (h : t < xs.length), t < j' → xs[t] < 10) ∧ Hid (∀ t (h : t < xs.length), j' < t → xs[t] ≤ 90) ∧ Hid (ofd 10 xs = a % 10 ^ (i' + 1) * b))
      (fun j _ => L - (intOf j).toNat)
     case atStart =>
      refine ⟨0, xs, by omega, rfl, hxl, hown, hb, hide (fun d hd => by have := za hdg d hd; omega), hide (fun j h _ => by omega), hide (fun t ht _ => za hdg _ (List.getElem_mem ht)), ?_⟩
      show _ = _
      rw [za hval, ← ZD (za Ha)]
      have hbl := zT b
      rw [za Hlb] at hbl
      rw [Nat.mod_eq_of_lt hbl]
     case round =>
      clear hown hb hdg hval hxl hup
      clear xs
      obtain ⟨j', xs, hj', rfl, hxl, hown, hb, hdg, hlow, hhi, hval⟩ := hrel
      by_cases hlt3 : j' + 1 < L
      ·have hc0 := hown.cellAt j' (by omega)
       rw [j8 _ _ (by omega)] at hc0
       have hc1 := hown.cellAt (j' + 1) (by omega)
       rw [j8 _ _ (by omega)] at hc1
       have hf0 := hown.frozenAt j'
       have hf1 := hown.frozenAt (j' + 1)
       have hx99 : xs[j']'(by omega) ≤ 99 := za hdg _ (List.getElem_mem _)
       have hy90 : xs[j' + 1]'(by omega) ≤ 90 := za hhi _ (by omega) (by omega)
       generalize hx : xs[j']'(by omega) = x at *
       generalize hy : xs[j' + 1]'(by omega) = y at *
       have Hx := hide hx
       have Hy := hide hy
       clear hx hy
       obtain ⟨q, hq⟩ : ∃ q : Nat, (x : Int) / 10 = q := ⟨x / 10, by omega⟩
       obtain ⟨r, hr⟩ : ∃ r : Nat, (x : Int) % 10 = r := ⟨x % 10, by omega⟩
       have hqN : x / 10 = q := by omega
       have hrN : x % 10 = r := by omega
       have HqN := hide hqN
       have HrN := hide hrN
       clear hqN hrN
       have hq9 : q ≤ 9 := by omega
       have hr9 : r ≤ 9 := by omega
       have hq' : (x : Int).tdiv 10 = q := by rw [Int.tdiv_eq_ediv_of_nonneg (by omega)]; exact hq
       have hr' : (x : Int).tmod 10 = r := by rw [Int.tmod_eq_emod_of_nonneg (by omega)]; exact hr
       have hst := hown.stored (j' + 1) (.int .i64 ((y : Int) + q))
       rw [vS _ _ (y + q) _ (by simp)] at hst
       have hst2 := hst.1.stored j' (.int .i64 (r : Int))
       rw [yG] at hst2
       have Hst := hide hst2
       have e1 := wi64 ((j' : Int) + 1) (by omega) (by omega)
       have e2 := wi64 ((y : Int) + q) (by omega) (by omega)
       have e3 := wi64 (q : Int) (by omega) (by omega)
       have e4 : ((j' : Int) + 1).toNat = j' + 1 := by omega
       have hix : (j' : Int) + 1 < L := by omega
       clear hst hst2
       go_wp2
       go_region
       all_goals
        go_wp2
        go_roundw
        case rel =>
         refine ⟨j' + 1, (xs.set (j' + 1) (y + q)).set j' r, by omega, by go_num, by simpa using hxl, (za Hst).1, ((hb.setCell (by simp) _).setCell (by simp) _).drew, hide (yr (yr (za hdg) (by omega)) (by omega)), ?_, ?_, hide (xq (by omega) (za Hx) (za Hy) (za HqN) (za HrN) (za hval))⟩
         ·intro t ht htj
          by_cases hh : t = j'
          ·subst hh; rw [List.getElem_set_self]; omega
          ·rw [List.getElem_set_ne (by omega), List.getElem_set_ne (by omega)]
           exact za hlow t (by simpa using ht) (by omega)
         ·intro t ht htj
          rw [List.getElem_set_ne (by omega), List.getElem_set_ne (by omega)]
          exact za hhi t (by simpa using ht) (by omega)
        case measure => simp [intOf]; omega
      ·go_wp2
       go_roundw
       case rel =>
        have hjl : j' + 1 = L := by omega
        exact ⟨i' + 1, xs, by omega, by go_num, hxl, hown, hb, hide (xY hxl hjl (za hlow) (za hval) (kt (za Hla) (za Hlb) (za HL))), hval⟩
       case measure => simp [intOf]; omega
  ·have hil : i' = la := by omega
   subst hil
   go_wp2_with fail
   refine (vf xs _ _ (za hdg) (by omega) (by rw [hxl]; exact qe hown (Nat.zero_le _))).mono ?_
   rintro e w1 ⟨rfl, hb1⟩
   go_wp2
   go_ret
   have hal := zT a
   rw [za Hla] at hal
   have hv := za hval
   rw [Nat.mod_eq_of_lt hal] at hv
   exact ⟨zB (by rw [hv]), hb.trans (hb1.mono hb.size)⟩
theorem yN (l : List UInt8) (n : Nat) (w : World) (hs : l.length ≤ 1000000000) (h : trim l = txl 10 n) :
  Calls Tryd.prog 74 #[.string (B l)] w fun e w' => e = .returned (.string (dec n)) ∧ w' = w := by
 have := qX l w hs
 rw [h] at this
 exact this
theorem xA (R c : Nat) (hc : c < 10) : trim (txl 10 R ++ [sg c]) = txl 10 (10 * R + c) := by
 by_cases h : R = 0
 ·subst h
  rw [zG, Nat.mul_zero, Nat.zero_add, qp 10 (by omega) c hc]
  simp [trim]
 ·have := jx 10 (by omega) (10 * R + c) (by omega)
  rw [show (10 * R + c) / 10 = R from by omega, show (10 * R + c) % 10 = c from by omega] at this
  rw [← this, y5]
def pref (a i : Nat) : Nat := a / 10 ^ ((dec a).size - i)
theorem jE (a : Nat) : pref a 0 = 0 := Nat.div_eq_of_lt (zT a)
theorem vt (a : Nat) : pref a (dec a).size = a := by simp [pref]
theorem vX (a i : Nat) (h : i < (dec a).size) : pref a (i + 1) = 10 * pref a i + a / 10 ^ ((dec a).size - 1 - i) % 10 := by
 unfold pref
 rw [show (dec a).size - i = ((dec a).size - 1 - i) + 1 from by omega, show (dec a).size - (i + 1) = (dec a).size - 1 - i from by omega, Nat.pow_succ, ← Nat.div_div_eq_div_mul]
 omega
theorem Zq (a i : Nat) (h : i < (dec a).size) : (dec a).extract i (i + 1) = B [sg (a / 10 ^ ((dec a).size - 1 - i) % 10)] := by
 have h1 : i < (txl 10 a).length := by rw [← zm]; exact h
 have e := y9 a ((txl 10 a).length - 1 - i) (by omega)
 rw [List.getElem_reverse] at e
 have e2 : (txl 10 a).length - 1 - ((txl 10 a).length - 1 - i) = i := by omega
 simp only [e2] at e
 rw [zm, ← e]
 unfold dec txt
 rw [zK, List.take_succ_eq_append_getElem h1, List.drop_append_of_le_length (by simp; omega)]
 simp
theorem xN {A b q R c m : Nat} (hq : A / b = q) (hR : A % b = R) (hm : (10 * R + c) / b = m) (hb : 0 < b) : (10 * A + c) / b = m + 10 * q ∧ (10 * A + c) % b = (10 * R + c) % b := by
 have hA := Nat.div_add_mod A b
 rw [hq, hR] at hA
 have e : 10 * A + c = 10 * R + c + b * (10 * q) := by
  rw [← hA, Nat.mul_add, Nat.mul_left_comm]; omega
 rw [e, Nat.add_mul_div_left _ _ hb, Nat.add_mul_mod_self_left, hm]
 exact ⟨rfl, rfl⟩
theorem xO {ρ m b X : Nat} (h : ρ + m * b = X) (hlt : ρ < b) : X / b = m ∧ X % b = ρ := by
 have hb : 0 < b := by omega
 rw [← h, Nat.mul_comm m b, Nat.add_mul_div_left _ _ hb, Nat.add_mul_mod_self_left, Nat.div_eq_of_lt hlt, Nat.mod_eq_of_lt hlt]
 exact ⟨by omega, rfl⟩
theorem ku {m b X ρ : Nat} (h : ρ + m * b = X) (hX : X < 10 * b) (hge : b ≤ ρ) : m + 1 ≤ 9 := by
 have h1 : (m + 1) * b < 10 * b := by rw [Nat.add_mul]; omega
 have := Nat.lt_of_mul_lt_mul_right h1
 omega
theorem qB {m n : Nat} (h : m ≤ n) : (dec m).size ≤ (dec n).size := by
 have := zw (b := 10) (by omega) (zZ n) (Nat.lt_of_le_of_lt h (zT n))
 rw [zm m]; exact this
theorem yd {ρ b : Nat} (h : ρ < 10 * b) : (dec ρ).size ≤ (dec b).size + 1 := by
 rw [zm ρ]
 apply zw (by omega) (by omega)
 have := zT b
 rw [Nat.pow_succ]; omega
theorem ZX {a b : Nat} (h : b ≤ a) : 0 ≤ cmpN a b := by unfold cmpN; rw [if_neg (by omega)]; split <;> omega
theorem ZY {a b : Nat} (h : a < b) : cmpN a b < 0 := by unfold cmpN; rw [if_pos h]; omega
theorem jX (a b : Nat) (w : World) (hb0 : 0 < b) (hsa : (dec a).size ≤ 50000) (hsb : (dec b).size ≤ 50000) :
  Calls Tryd.prog 73 #[.string (dec a), .string (dec b)] w fun e w' => e = .returned (.tuple #[.string (dec (a / b)), .string (dec (a % b))]) ∧ Below w.heap.size w w' := by
 obtain ⟨i0, hi, hz0, hz1, hz2⟩ := info_parts Tryd.infoByte
 go_enter Tryd.func73, Tryd.ntmps73
 go_wp2
 go_loopw [6, 7, 8, 9] (fun q r i _ wr => ∃ (i' R : Nat) (Q : List Nat), i' ≤ (dec a).size ∧ i = .int .i64 i' ∧ r = .string (dec R) ∧ R < b ∧ Q.length = i' ∧ wr.ownsRow w.heap.size 5 1 q i' ((Q.map sg).map u8v) ∧ Below w.heap.size w wr ∧
   Hid (∀ d ∈ Q, d < 10) ∧ Hid (pref a i' / b = ofd 10 Q.reverse) ∧ Hid (pref a i' % b = R))
  (fun _ _ i _ _ => (dec a).size - (intOf i).toNat)
 case atStart =>
  refine ⟨0, 0, [], Nat.zero_le _, rfl, rfl, hb0, rfl, World.ownsRow_made w #[] 0 (Nat.le_refl _) (by decide) (by simp), (Below.refl _ _).alloc (Nat.le_refl _) _, hide (by simp), ?_, ?_⟩
  ·show _ = _; rw [jE]; simp [ofd]
  ·show _ = _; rw [jE]; simp
 case round =>
  obtain ⟨i', R, Q, hi', rfl, rfl, hR, hQl, hown, hb, hdg, hqv, hrv⟩ := hrel
  by_cases hlt : i' < (dec a).size
  ·have hc : a / 10 ^ ((dec a).size - 1 - i') % 10 < 10 := Nat.mod_lt _ (by omega)
   have hcut := Zq a i' hlt
   have hps := vX a i' hlt
   generalize a / 10 ^ ((dec a).size - 1 - i') % 10 = c at *
   have Hps := hide hps
   clear hps
   have hRs : (dec R).size ≤ (dec b).size := qB (by omega)
   have hcs : (B [sg c]).size ≤ 1 := by rw [ze]; simp
   have hcat : dec R ++ B [sg c] = B (txl 10 R ++ [sg c]) := by unfold dec txt; rw [zE]
   have hlen : (txl 10 R ++ [sg c]).length ≤ 1000000000 := by rw [List.length_append, ← zm]; simp; omega
   have hns : ¬ 9223372036854775807 < (dec R).size + (B [sg c]).size := by omega
   have Htp := hide (xA R c hc)
   go_wp2_with fail
   refine (yN _ (10 * R + c) _ hlen (za Htp)).mono ?_
   rintro e w1 ⟨rfl, rfl⟩
   go_wp2_with fail
   have hX : 10 * R + c < 10 * b := by omega
   generalize hXd : 10 * R + c = X at *
   have HXd := hide hXd
   clear hXd hcut hcat hns Htp hlen
   go_loopw [7, 9] (fun r n wr => ∃ (ρ m : Nat), r = .string (dec ρ) ∧ n = .int .u8 (48 + (m : Int)) ∧ m ≤ 9 ∧ ρ < 10 * b ∧ wr.ownsRow w.heap.size 5 1 u6 i' ((Q.map sg).map u8v) ∧ Below w.heap.size w wr ∧ Hid (ρ + m * b = X))
    (fun _ n _ => 60 - (intOf n).toNat)
   case atStart => exact ⟨X, 0, rfl, rfl, by omega, hX, hown, hb, hide (by simp)⟩
   case round =>
    clear hown hb
    obtain ⟨ρ, m, rfl, rfl, hm9, hρ, hown, hb, hinv⟩ := hrel
    have hρs := yd hρ
    by_cases hge : b ≤ ρ
    ·have hcg := ZX hge
     have hm1 := ku (za hinv) hX hge
     go_wp2_with fail
     refine (kJ ρ b _ (by omega) (by omega)).mono ?_
     rintro e w1 ⟨rfl, rfl⟩
     go_wp2_with fail
     refine (Zw ρ b _ hge (by omega)).mono ?_
     rintro e w2 ⟨rfl, hb2⟩
     go_wp2_with fail
     go_roundw
     case rel =>
      exact ⟨ρ - b, m + 1, rfl, by go_num, by omega, by omega, zk hown hb2, hb.trans (hb2.mono hb.size), hide (by have := za hinv; rw [Nat.add_mul]; omega)⟩
     case measure => simp [intOf]; omega
    ·have hρb : ρ < b := by omega
     have hcl := ZY hρb
     go_wp2_with fail
     refine (kJ ρ b _ (by omega) (by omega)).mono ?_
     rintro e w1 ⟨rfl, rfl⟩
     have hw := hb.size
     go_wp2_with (at_builtin; refine wpList_append_own _ rfl (.tmp 34) (.tmp 36) 22 rfl w.heap.size 5 i0 (.int .u8 0) 1 1 Tryd.underlying22 hi hz0 hz1 hz2 rfl (by decide) _ _ _ rfl (hown.alloc _) ⟨w1.heap.size, 0, none⟩ 1 1 [.int .u8 (48 + (m : Int))] rfl rfl (cell_one_new _ _ _) (by intro u hu; simp at hu; subst hu; rfl) (by unfold maxLen; omega) (by omega) (by simp; omega) ?_; intro v2 w2 hown2 hg2 _)
     have hbX := zy (hb.alloc hw _) (hown.alloc _) hg2 (by simp <;> omega)
     have hds := xO (za hinv) hρb
     have hpush := xN (c := c) (m := m) (za hqv) (za hrv) (by rw [za HXd]; exact hds.1) hb0
     go_roundw
     case rel =>
      refine ⟨i' + 1, ρ, Q ++ [m], by omega, by go_num, rfl, hρb, by simp [hQl], ?_, hbX, qJ hdg (by omega), ?_, ?_⟩
      ·rw [List.map_append, List.map_append]
       simp only [List.map_cons, List.map_nil, kD (show m < 10 by omega)]
       exact hown2
      ·show _ = _
       rw [za Hps, hpush.1, List.reverse_append]; simp [ofd]
      ·show _ = _
       rw [za Hps, hpush.2, za HXd]; exact hds.2
     case measure => simp [intOf]; omega
  ·have hil : i' = (dec a).size := by omega
   subst hil
   have hQ0 : Q ≠ [] := fun h => by have := zZ a; rw [h] at hQl; simp at hQl; omega
   have hconv := qg (dst := 9) Tryd.underlying22 Tryd.underlying5 Tryd.underlying9 hown
   have htr : trim (Q.map sg) = txl 10 (a / b) := by
    have h1 := qy Q.reverse (fun d hd => za hdg d (by simpa using hd)) (by simpa using hQ0)
    rw [List.map_reverse, List.reverse_reverse] at h1
    rw [h1, ← za hqv, vt]
   have Htr := hide htr
   have hrv2 := za hrv
   rw [vt] at hrv2
   have Hrv2 := hide hrv2
   clear hrv2 htr
   go_wp2_with fail
   refine (yN _ (a / b) _ (by simp; omega) (za Htr)).mono ?_
   rintro e w1 ⟨rfl, rfl⟩
   go_wp2
   go_ret2
   exact ⟨by rw [za Hrv2]; rfl, hb⟩
theorem zP (n : Nat) : zn (txl 10 n) = n := by
 have := ql (jB n)
 exact (kP (by omega) (by omega) this).symm
theorem yj (a b : Nat) (w : World) (hsa : (dec a).size ≤ 50000) (hsb : (dec b).size ≤ 50000) :
  Calls Tryd.prog 72 #[.string (dec a), .string (dec b)] w fun e w' => e = .returned (.string (dec (Nat.gcd a b))) ∧ Below w.heap.size w w' := by
 go_enter Tryd.func72, Tryd.ntmps72
 go_wp2
 go_loopw [0, 1] (fun x y wr => ∃ (a' b' : Nat), x = .string (dec a') ∧ y = .string (dec b') ∧ (dec a').size ≤ 50000 ∧ (dec b').size ≤ 50000 ∧ Below w.heap.size w wr ∧ Hid (Nat.gcd a' b' = Nat.gcd a b))
  (fun _ y _ => zn (match y with | .string s => s.data.toList | _ => []))
 case atStart => exact ⟨a, b, rfl, rfl, hsa, hsb, Below.refl _ _, hide rfl⟩
 case round =>
  obtain ⟨a', b', rfl, rfl, ha', hb', hb, hg⟩ := hrel
  by_cases hz : b' = 0
  ·subst hz
   have h0 : ((dec 0).toList == [48]) = true := by unfold dec txt; rw [B_tl, zG]; rfl
   go_wp2
   go_ret
   have := za hg
   rw [Nat.gcd_zero_right] at this
   exact ⟨zB (by rw [this]), hb⟩
  ·have h0 : ((dec b').toList == [48]) = false := by
    have := jS b' 0
    rw [decide_eq_false hz] at this
    rw [show (dec 0).toList = [48] from by unfold dec txt; rw [B_tl, zG]] at this
    exact this
   go_wp2_with fail
   refine (jX a' b' _ (by omega) ha' hb').mono ?_
   rintro e w1 ⟨rfl, hb1⟩
   go_wp2_with fail
   go_roundw
   case rel =>
    refine ⟨b', a' % b', rfl, rfl, hb', ?_, hb.trans (hb1.mono hb.size), hide ?_⟩
    ·have := qB (Nat.le_of_lt (Nat.mod_lt a' (show 0 < b' by omega))); omega
    ·rw [Nat.gcd_comm b', ← Nat.gcd_rec b' a', Nat.gcd_comm, za hg]
   case measure =>
    show zn (txl 10 (a' % b')) < zn (txl 10 b')
    rw [zP, zP]
    exact Nat.mod_lt _ (by omega)
def rdN (b : Nat) (l : List UInt8) : Nat := l.foldl (fun n c => n * b + digN c) 0
def okN (b : Nat) (l : List UInt8) : Bool := !l.isEmpty && l.all (fun c => digN c < b)
theorem yT (b : Nat) (l : List UInt8) (c : UInt8) : rdN b (l ++ [c]) = rdN b l * b + digN c := by simp [rdN]
theorem Zc (b : Nat) (l : List UInt8) (h : ∀ c ∈ l, digN c < b) : rdN b l < b ^ l.length := by
 have key : ∀ (n : Nat) (l : List UInt8), l.length = n → (∀ c ∈ l, digN c < b) → rdN b l < b ^ n := by
  intro n
  induction n with
  | zero => intro l hl _; have : l = [] := List.eq_nil_of_length_eq_zero hl
            subst this; simp [rdN]
  | succ n ih =>
   intro l hl hc
   have hne : l ≠ [] := fun hh => by rw [hh] at hl; simp at hl
   have e := List.dropLast_concat_getLast hne
   rw [← e, yT]
   have h1 := ih l.dropLast (by simp [hl]) (fun c hc' => hc c (List.dropLast_subset l hc'))
   have h2 := hc (l.getLast hne) (List.getLast_mem hne)
   rw [Nat.pow_succ]
   have h3 : (rdN b l.dropLast + 1) * b ≤ b ^ n * b := Nat.mul_le_mul_right b h1
   rw [Nat.add_mul] at h3
   omega
 exact key l.length l rfl h
theorem jn {n b k : Nat} (hb : b ≤ 16) (h : n < b ^ k) : (dec n).size ≤ 2 * k + 1 := by
 rw [zm]
 apply zw (by omega) (by omega)
 have h1 : b ^ k ≤ 100 ^ k := Nat.pow_le_pow_left (by omega) k
 have h2 : (100 : Nat) ^ k = 10 ^ (2 * k) := by rw [Nat.pow_mul]
 have h3 : (10 : Nat) ^ (2 * k) ≤ 10 ^ (2 * k + 1) := Nat.pow_le_pow_right (by omega) (by omega)
 omega
theorem zC {n : Nat} (h : n < 1000) : (dec n).size ≤ 3 := by rw [zm]; exact zw (by omega) (by omega) (by omega)
theorem kC (l : List UInt8) (k : Nat) (h : k < l.length) : l.take (k + 1) = l.take k ++ [l[k]] := List.take_succ_eq_append_getElem h
theorem ZJ {b : Nat} {l : List UInt8} (k : Nat) (h : k < l.length) (hb : b ≤ digN l[k]) : okN b l = false := by
 cases hh : okN b l with
 | false => rfl
 | true =>
  unfold okN at hh
  simp only [Bool.and_eq_true] at hh
  have := List.all_eq_true.1 hh.2 l[k] (List.getElem_mem h)
  simp at this; omega
theorem x6 {b : Nat} {l : List UInt8} (h0 : 0 < l.length) (h : ∀ c ∈ l, digN c < b) : okN b l = true := by
 unfold okN
 simp only [Bool.and_eq_true]
 refine ⟨?_, List.all_eq_true.2 (fun c hc => by simpa using h c hc)⟩
 cases l with
 | nil => simp at h0
 | cons _ _ => rfl
def natV (b : Nat) (l : List UInt8) : Nat := if okN b l then rdN b l else 0
def zU (b : Nat) (l : List UInt8) : Value := .tuple #[.string (dec (natV b l)), .bool (okN b l)]
theorem qb (l : List UInt8) (b : Nat) (w : World) (hb2 : 2 ≤ b) (hb16 : b ≤ 16) (hs : l.length ≤ 10000) :
  Calls Tryd.prog 78 #[.string (B l), .int .i64 b] w fun e w' => e = .returned (zU b l) ∧ Below w.heap.size w w' := by
 have hsz : (B l).size ≤ 10000 := by rw [ze]; exact hs
 have hd0 : dec 0 = ⟨#[48]⟩ := by unfold dec txt; rw [zG]; rfl
 have Hd0 := hide hd0
 clear hd0
 by_cases hz : l.length = 0
 ·have : l = [] := List.eq_nil_of_length_eq_zero hz
  subst this
  clear hs hsz hz
  have h0 : ((B []).toList == []) = true := by rw [B_tl]; rfl
  have h1 : (B []).toList.isEmpty = true := by rw [B_tl]; rfl
  go_enter Tryd.func78, Tryd.ntmps78
  go_wp2
  go_ret2
  refine ⟨?_, Below.refl _ _⟩
  unfold zU natV
  simp [okN, za Hd0]
 ·have hne : l ≠ [] := fun hh => by rw [hh] at hz; simp at hz
  have h1 : (B l).toList.isEmpty = false := by rw [B_tl]; simpa using hne
  go_enter Tryd.func78, Tryd.ntmps78
  go_wp2
  go_loopw [6, 7] (fun n i wr => ∃ k : Nat, k ≤ l.length ∧ i = .int .i64 k ∧ n = .string (dec (rdN b (l.take k))) ∧ Below w.heap.size w wr ∧ Hid (∀ c ∈ l.take k, digN c < b))
   (fun _ i _ => l.length - (intOf i).toNat)
  case atStart =>
   exact ⟨0, Nat.zero_le _, rfl, by rw [List.take_zero]; simp [rdN, za Hd0], Below.refl _ _, hide (by simp)⟩
  case round =>
   obtain ⟨k, hk, rfl, rfl, hb, hdg⟩ := hrel
   by_cases hlt : k < l.length
   ·have hlt2 : k < (B l).size := by rw [ze]; exact hlt
    have hgk : ((B l)[k]'hlt2).toNat = (l[k]'hlt).toNat := by rw [B_get]
    have hbad := @ZJ b l k hlt
    have hsn := kC l k hlt
    have hlk := Zc b (l.take k) (za hdg)
    rw [List.length_take, Nat.min_eq_left hk] at hlk
    have hsk := jn hb16 hlk
    generalize hn : rdN b (l.take k) = n at *
    have Hn := hide hn
    generalize hcc : l[k]'hlt = c at *
    have Hbad := hide hbad
    have Hsn := hide hsn
    clear hbad hsn hlk hn hcc
    go_wp2_with fail
    refine (xm c _).mono ?_
    rintro e w1 ⟨rfl, rfl⟩
    have hdc : digN c < 100 := by unfold digN; split <;> (try split) <;> omega
    by_cases hge : b ≤ digN c
    ·go_wp2
     go_ret2
     refine ⟨?_, hb⟩
     unfold zU natV
     rw [za Hbad hge]
     simp [za Hd0]
    ·go_wp2_with fail
     refine (zL b (by omega) _).mono ?_
     rintro e w2 ⟨rfl, hb2'⟩
     go_wp2_with fail
     have hbs := zC (n := b) (by omega)
     have hds := zC (n := digN c) (by omega)
     refine (Zv n b _ (by omega) (by omega)).mono ?_
     rintro e w3 ⟨rfl, hb3⟩
     go_wp2_with fail
     refine (zL (digN c) (by omega) _).mono ?_
     rintro e w4 ⟨rfl, hb4⟩
     have hsm : (dec (n * b)).size ≤ 100000 := by
      have h1 : n * b < 10 ^ ((dec n).size + (dec b).size) := by
       rw [Nat.pow_add]; exact Nat.mul_lt_mul'' (zT n) (zT b)
      have := zZ n
      have := zw (b := 10) (by omega) (by omega) h1
      rw [zm]; omega
     go_wp2_with fail
     refine (Zu (n * b) (digN c) _ hsm (by omega)).mono ?_
     rintro e w5 ⟨rfl, hb5⟩
     go_wp2_with fail
     have hbX := (((hb.trans (hb2'.mono hb.size)).trans (hb3.mono (by have := hb.size; have := hb2'.size; omega))).trans (hb4.mono (by have := hb.size; have := hb2'.size; have := hb3.size; omega))).trans (hb5.mono (by have := hb.size; have := hb2'.size; have := hb3.size; have := hb4.size; omega))
     go_roundw
     case rel =>
      refine ⟨k + 1, by omega, by go_num, ?_, hbX, ?_⟩
      ·rw [za Hsn, yT, za Hn]
      ·show ∀ x ∈ _, _
       rw [za Hsn]
       intro x hx
       rcases List.mem_append.1 hx with h | h
       ·exact za hdg x h
       ·simp at h; subst h; omega
     case measure => simp [intOf]; omega
   ·have hkl : k = l.length := by omega
    subst hkl
    have hlt2 : ¬ l.length < (B l).size := by rw [ze]; omega
    have htk : l.take l.length = l := List.take_length
    have hok := x6 (show 0 < l.length by omega) (by have := za hdg; rwa [htk] at this)
    have Hok := hide hok
    have Htk := hide htk
    clear hok htk
    go_wp2
    go_ret2
    refine ⟨?_, hb⟩
    unfold zU natV
    rw [za Hok]
    simp [List.take_length]
def zv (r : Int) : Bool := r == 2 || r == 8 || r == 10 || r == 16
theorem zX (r : Int) (w : World) :
  Calls Tryd.prog 58 #[.int .i64 r] w fun e w' => e = .returned (.bool (zv r)) ∧ w' = w := by
 unfold zv
 by_cases h2 : (r == 2) = true
 ·go_enter Tryd.func58, Tryd.ntmps58
  go_wp2
  go_ret
  exact ⟨zr (by simp [h2]), rfl⟩
 ·have h2' : (r == 2) = false := by simpa using h2
  clear h2
  by_cases h8 : (r == 8) = true
  ·go_enter Tryd.func58, Tryd.ntmps58
   go_wp2
   go_ret
   exact ⟨zr (by simp [h8, h2']), rfl⟩
  ·have h8' : (r == 8) = false := by simpa using h8
   clear h8
   by_cases h10 : (r == 10) = true
   ·go_enter Tryd.func58, Tryd.ntmps58
    go_wp2
    go_ret
    exact ⟨zr (by simp [h8', h2', h10]), rfl⟩
   ·have h10' : (r == 10) = false := by simpa using h10
    clear h10
    by_cases h16 : (r == 16) = true
    ·go_enter Tryd.func58, Tryd.ntmps58
     go_wp2
     go_ret
     exact ⟨zr (by simp [h8', h2', h10', h16]), rfl⟩
    ·have h16' : (r == 16) = false := by simpa using h16
     clear h16
     go_enter Tryd.func58, Tryd.ntmps58
     go_wp2
     go_ret
     exact ⟨zr (by simp [h8', h2', h10', h16']), rfl⟩
def findB (c : UInt8) : List UInt8 → Option Nat
 | [] => none
 | d :: r => if d = c then some 0 else (findB c r).map (· + 1)
def findI (c : UInt8) (l : List UInt8) : Int := match findB c l with | some k => (k : Int) | none => -1
theorem kh {c : UInt8} : ∀ {l : List UInt8} {k : Nat}, (h : k < l.length) → l[k] = c → (∀ j (hj : j < l.length), j < k → l[j] ≠ c) → findB c l = some k := by
 intro l
 induction l with
 | nil => intro k h; simp at h
 | cons d r ih =>
  intro k h hk hlt
  cases k with
  | zero => simp only [List.getElem_cons_zero] at hk; simp [findB, hk]
  | succ k =>
   have hd : d ≠ c := hlt 0 (by simp) (by omega)
   have := ih (k := k) (by simpa using h) (by simpa using hk) (fun j hj hjk => by have := hlt (j + 1) (by simpa using hj) (by omega); simpa using this)
   simp [findB, hd, this]
theorem kg {c : UInt8} : ∀ {l : List UInt8}, (∀ j (hj : j < l.length), l[j] ≠ c) → findB c l = none := by
 intro l
 induction l with
 | nil => intro _; rfl
 | cons d r ih =>
  intro h
  have hd : d ≠ c := h 0 (by simp)
  have := ih (fun j hj => by have := h (j + 1) (by simpa using hj); simpa using this)
  simp [findB, hd, this]
theorem xV (l : List UInt8) (c : UInt8) (w : World) (hs : l.length ≤ 1000000000) :
  Calls Tryd.prog 75 #[.string (B l), .int .u8 c.toNat] w fun e w' => e = .returned (.int .i64 (findI c l)) ∧ w' = w := by
 have hsz : (B l).size ≤ 1000000000 := by rw [ze]; exact hs
 go_enter Tryd.func75, Tryd.ntmps75
 go_wp2
 go_loop [5] (fun i => ∃ k : Nat, k ≤ l.length ∧ i = .int .i64 k ∧ Hid (∀ j (hj : j < l.length), j < k → l[j] ≠ c)) (fun i => l.length - (intOf i).toNat)
 case atStart => exact ⟨0, Nat.zero_le _, rfl, hide (fun j _ h => by omega)⟩
 case round =>
  obtain ⟨k, hk, rfl, hv⟩ := hrel
  by_cases hlt : k < l.length
  ·have hlt2 : k < (B l).size := by rw [ze]; exact hlt
   have hgk : ((B l)[k]'hlt2).toNat = (l[k]'hlt).toNat := by rw [B_get]
   by_cases heq : l[k]'hlt = c
   ·have hf : findI c l = (k : Int) := by unfold findI; rw [kh hlt heq (za hv)]
    have Hf := hide hf
    have ht : (((l[k]'hlt).toNat : Int) == (c.toNat : Int)) = true := by rw [heq]; simp
    clear hf heq
    go_wp2
    go_ret
    exact ⟨zQ (za Hf).symm, rfl⟩
   ·have ht : (((l[k]'hlt).toNat : Int) == (c.toNat : Int)) = false := by
     rw [beq_eq_false_iff_ne]; intro hh; exact heq (UInt8.toNat_inj.1 (by omega))
    have hv2 : Hid (∀ j (hj : j < l.length), j < k + 1 → l[j] ≠ c) := by
     intro j hj hjk
     by_cases hjk2 : j < k
     ·exact za hv j hj hjk2
     ·have : j = k := by omega
      subst this; exact heq
    clear heq
    go_wp2
    go_round
    case rel => exact ⟨k + 1, by omega, by go_num, hv2⟩
    case measure => simp [intOf]; omega
  ·have hlt2 : ¬ k < (B l).size := by rw [ze]; exact hlt
   have hf : findI c l = -1 := by unfold findI; rw [kg (fun j hj => za hv j hj (by omega))]
   have Hf := hide hf
   clear hf
   go_wp2
   go_ret
   exact ⟨zQ (za Hf).symm, rfl⟩
def numV (neg : Bool) (u d : ByteArray) : Value := .agg #[.bool neg, .string u, .string d]
def noNum : Value := numV false ⟨#[]⟩ ⟨#[]⟩
def zo (neg : Bool) (u d : Nat) : Option (Bool × Nat × Nat) :=
 if d = 0 ∨ 60 < (dec (u / Nat.gcd u d)).size ∨ 60 < (dec (d / Nat.gcd u d)).size then none else some (neg && u / Nat.gcd u d != 0, u / Nat.gcd u d, d / Nat.gcd u d)
def numO : Option (Bool × Nat × Nat) → Value
 | none => noNum
 | some (n, u, d) => numV n (dec u) (dec d)
def zd (o : Option (Bool × Nat × Nat)) : Value := .tuple #[numO o, .bool o.isSome]
theorem jm (n : Nat) : ((dec n).toList == [48]) = decide (n = 0) := by
 have := jS n 0
 rwa [show (dec 0).toList = [48] from by unfold dec txt; rw [B_tl, zG]] at this
theorem zJ (neg : Bool) (u d : Nat) (w : World) (hsu : (dec u).size ≤ 50000) (hsd : (dec d).size ≤ 50000) :
  Calls Tryd.prog 61 #[.bool neg, .string (dec u), .string (dec d)] w fun e w' => e = .returned (zd (zo neg u d)) ∧ Below w.heap.size w w' := by
 have hd0 := jm d
 by_cases hz : d = 0
 ·rw [decide_eq_true hz] at hd0
  have hl : zo neg u d = none := by simp [zo, hz]
  rw [hl]
  clear hl hz
  go_enter Tryd.func61, Tryd.ntmps61
  go_wp2
  refine bodyPost_ret (v := zd none) (by simp [results, Tryd.results61, go_sem, zd, numO, noNum, numV]) rfl ⟨rfl, (Below.refl _ _).alloc (Nat.le_refl _) _⟩
 ·rw [decide_eq_false hz] at hd0
  have hg : 0 < Nat.gcd u d := Nat.gcd_pos_of_pos_right _ (by omega)
  have hg1 : (dec (Nat.gcd u d)).size ≤ 50000 := by have := qB (Nat.gcd_le_right u (show 0 < d by omega)); omega
  go_enter Tryd.func61, Tryd.ntmps61
  go_wp2_with fail
  refine (yj u d _ hsu hsd).mono ?_
  rintro e w1 ⟨rfl, hb1⟩
  go_wp2_with fail
  refine (jX u _ _ hg hsu hg1).mono ?_
  rintro e w2 ⟨rfl, hb2⟩
  go_wp2_with fail
  refine (jX d _ _ hg hsd hg1).mono ?_
  rintro e w3 ⟨rfl, hb3⟩
  have hb0 := zf hb1
  have h2 := zp hb0 (by have := hb1.size; simpa using this) hb2
  have h3 := zp h2.1 h2.2 hb3
  have c0 := zb h3.1 0
  have c1 := zb h3.1 1
  have c2 := zb h3.1 2
  have f0 := zc h3.1 0
  have f1 := zc h3.1 1
  have f2 := zc h3.1 2
  have hbX := zj h3.1
  simp at c0 c1 c2
  have hqz := jm (u / Nat.gcd u d)
  generalize hqu : u / Nat.gcd u d = qu at *
  generalize hqd : d / Nat.gcd u d = qd at *
  have Hlow : Hid (zo neg u d = if 60 < (dec qu).size ∨ 60 < (dec qd).size then none else some (neg && qu != 0, qu, qd)) := by
   show _ = _
   unfold zo; rw [hqu, hqd]
   by_cases h : 60 < (dec qu).size ∨ 60 < (dec qd).size
   ·rw [if_pos (by rcases h with h | h <;> simp [h]), if_pos h]
   ·rw [if_neg (by rintro (h1 | h1); exact hz h1; exact h h1), if_neg h]
  clear hb1 hb2 hb3 h2 h3 hb0 hqu hqd
  by_cases h1 : 60 < (dec qu).size
  ·rw [if_pos (.inl h1)] at Hlow
   go_wp2
   refine bodyPost_ret (v := zd none) (by simp [results, Tryd.results61, go_sem, zd, numO, noNum, numV, c0, c1, c2]) rfl ⟨by rw [za Hlow], ?_⟩
   exact ((hbX.setCell (by simp) _).setCell (by simp) _).setCell (by simp) _
  ·by_cases h2 : 60 < (dec qd).size
   ·rw [if_pos (.inr h2)] at Hlow
    go_wp2
    refine bodyPost_ret (v := zd none) (by simp [results, Tryd.results61, go_sem, zd, numO, noNum, numV, c0, c1, c2]) rfl ⟨by rw [za Hlow], ?_⟩
    exact ((hbX.setCell (by simp) _).setCell (by simp) _).setCell (by simp) _
   ·rw [if_neg (by rintro (h | h); exact h1 h; exact h2 h)] at Hlow
    by_cases hq0 : qu = 0
    ·rw [decide_eq_true hq0] at hqz
     have Hq0 := hide hq0
     clear hq0
     cases neg
     case false =>
      go_wp2
      refine bodyPost_ret (v := zd (some (false, qu, qd))) (by simp [results, Tryd.results61, go_sem, zd, numO, numV, c0, c1, c2]) rfl ⟨by rw [za Hlow]; rfl, ?_⟩
      exact ((hbX.setCell (by simp) _).setCell (by simp) _).setCell (by simp) _
     case true =>
      go_wp2
      refine bodyPost_ret (v := zd (some (false, qu, qd))) (by simp [results, Tryd.results61, go_sem, zd, numO, numV, c0, c1, c2]) rfl ⟨by rw [za Hlow, za Hq0]; rfl, ?_⟩
      exact ((hbX.setCell (by simp) _).setCell (by simp) _).setCell (by simp) _
    ·rw [decide_eq_false hq0] at hqz
     have Hq0 := hide hq0
     clear hq0
     cases neg
     case false =>
      go_wp2
      refine bodyPost_ret (v := zd (some (false, qu, qd))) (by simp [results, Tryd.results61, go_sem, zd, numO, numV, c0, c1, c2]) rfl ⟨by rw [za Hlow]; rfl, ?_⟩
      exact ((hbX.setCell (by simp) _).setCell (by simp) _).setCell (by simp) _
     case true =>
      go_wp2
      refine bodyPost_ret (v := zd (some (true, qu, qd))) (by simp [results, Tryd.results61, go_sem, zd, numO, numV, c0, c1, c2]) rfl ⟨by rw [za Hlow, bne_iff_ne.2 (za Hq0)]; rfl, ?_⟩
      exact ((hbX.setCell (by simp) _).setCell (by simp) _).setCell (by simp) _
theorem vL {P : Program} {src dst e : TypeId} (hs : P.underlying src = some (.slice e)) (he : P.underlying e = some (.int .u8)) (hd : P.underlying dst = some .string) (W w1 : World) (c : UInt8)
  (hb : Below (W.heap.size + 1) (W.alloc (.cells #[.int .u8 c.toNat] e)) w1) :
  (convert src dst (.slice (some ⟨W.heap.size, 0, none⟩) 1 1)).run P w1 = .ok (.string (B [c])) w1 := by
 have h0 := World.ownsRow_lit (base := 0) (e := e) (size := 1) W #[.int .u8 c.toNat] 1 (Nat.zero_le _) (by decide) (by simp)
 have h1 := zk h0 (by simpa using hb)
 have e1 : (#[Value.int .u8 c.toNat] : Array Value).toList = [c].map u8v := by simp [u8v]
 rw [e1] at h1
 exact qg hs he hd h1
theorem xJ (n k : Nat) (h : k < (dec n).size) : ((dec n)[k]'h).toNat = 48 + n / 10 ^ ((dec n).size - 1 - k) % 10 := by
 have h1 : k < (txl 10 n).length := by rw [← zm]; exact h
 have e := y9 n ((txl 10 n).length - 1 - k) (by omega)
 rw [List.getElem_reverse] at e
 have e2 : (txl 10 n).length - 1 - ((txl 10 n).length - 1 - k) = k := by omega
 simp only [e2] at e
 have hm : n / 10 ^ ((txl 10 n).length - 1 - k) % 10 < 10 := Nat.mod_lt _ (by omega)
 rw [zm]
 have e3 : ((dec n)[k]'h) = (txl 10 n)[k]'h1 := by simp only [dec, txt, B_get]
 rw [e3, e, zO (by omega), if_pos hm]
def qO : ByteArray := ⟨#[48, 49, 50, 51, 52, 53, 54, 55, 56, 57, 97, 98, 99, 100, 101, 102]⟩
theorem vH (d : Nat) (h : d < 16) (h' : d < qO.size) : (qO[d]'h').toNat = (sg d).toNat := by
 have : ∀ d : Fin 16, (qO[d.val]'d.isLt).toNat = (sg d.val).toNat := by decide
 exact this ⟨d, h⟩
theorem yl (N b : Nat) (w : World) (hb2 : 2 ≤ b) (hb16 : b ≤ 16) (hs : (dec N).size ≤ 5000) (ht : (txl b N).length ≤ 50000) :
  Calls Tryd.prog 59 #[.string (dec N), .int .i64 b] w fun e w' => e = .returned (.string (txt b N)) ∧ Below w.heap.size w w' := by
 have hbs := zC (n := b) (by omega)
 go_enter Tryd.func59, Tryd.ntmps59
 go_wp2
 go_loopw [0, 5] (fun n o wr => ∃ (m : Nat) (t : List UInt8), n = .string (dec m) ∧ o = .string (B t) ∧ m ≤ N ∧ t.length ≤ 50000 ∧ Below w.heap.size w wr ∧ Hid (txl b m ++ t = txl b N))
  (fun n _ _ => zn (match n with | .string s => s.data.toList | _ => []))
 case atStart => exact ⟨N, [], rfl, rfl, Nat.le_refl _, by simp, Below.refl _ _, hide (by simp)⟩
 case round =>
  obtain ⟨m, t, rfl, rfl, hmN, htl, hb, htx⟩ := hrel
  have hms := qB hmN
  have hmod : m % b < b := Nat.mod_lt _ (by omega)
  go_wp2_with fail
  refine (zL b (by omega) _).mono ?_
  rintro e w1 ⟨rfl, hb1⟩
  go_wp2_with fail
  refine (jX m b _ (by omega) (by omega) (by omega)).mono ?_
  rintro e w2 ⟨rfl, hb2'⟩
  have hbA := zp hb hb.size hb1
  have hbB := zp hbA.1 hbA.2 hb2'
  clear hbA hb1 hb2'
  obtain ⟨q, hq⟩ : ∃ q, m / b = q := ⟨_, rfl⟩
  obtain ⟨r, hr⟩ : ∃ r, m % b = r := ⟨_, rfl⟩
  rw [hr] at hmod
  have hrs := zC (n := r) (by omega)
  have Hq := hide hq
  have Hr := hide hr
  rw [hq, hr]
  clear hq hr
  go_wp2_with fail
  go_loopw [8, 9] (fun d i wr => ∃ k : Nat, k ≤ (dec r).size ∧ i = .int .i64 k ∧ d = .int .i64 (pref r k : Nat) ∧ Below w.heap.size w wr) (fun _ i _ => (dec r).size - (intOf i).toNat)
  case atStart => exact ⟨0, Nat.zero_le _, rfl, by rw [jE]; rfl, hbB.1⟩
  case round =>
   obtain ⟨k, hk, rfl, rfl, hbC⟩ := hrel
   by_cases hlt : k < (dec r).size
   ·have hby := xJ r k hlt
    have hm10 : r / 10 ^ ((dec r).size - 1 - k) % 10 < 10 := Nat.mod_lt _ (by omega)
    have hps := vX r k hlt
    have hpl : pref r k ≤ r := Nat.div_le_self _ _
    generalize r / 10 ^ ((dec r).size - 1 - k) % 10 = c at *
    generalize pref r k = p at *
    have Hps := hide hps
    clear hps
    go_wp2
    go_roundw
    case rel => exact ⟨k + 1, by omega, by go_num, by rw [za Hps]; go_num, hbC⟩
    case measure => simp [intOf]; omega
   ·have hkl : k = (dec r).size := by omega
    subst hkl
    have hpa := vt r
    have hd16 : r < 16 := by omega
    have hg := vH r hd16 hd16
    unfold qO at hg
    have hconv := vL (P := Tryd.prog) (src := 22) (dst := 9) Tryd.underlying22 Tryd.underlying5 Tryd.underlying9 wr _ (sg r) (Below.refl _ _)
    have hcat : B [sg r] ++ B t = B (sg r :: t) := by rw [zE]; rfl
    have hs1 : (B [sg r]).size ≤ 1 := by rw [ze]; simp
    have hs2 : (B t).size ≤ 50000 := by rw [ze]; exact htl
    have hns : ¬ 9223372036854775807 < (B [sg r]).size + (B t).size := by omega
    have hbD := hbC.alloc (by have := hbC.size; exact this) (.cells #[.int .u8 (sg r).toNat] 5)
    have hq0 := jm q
    by_cases hz : q = 0
    ·rw [decide_eq_true hz] at hq0
     have hmb : m < b := by
      have := za Hq; rw [hz] at this
      rcases Nat.div_eq_zero_iff.1 this with h | h
      ·omega
      ·exact h
     have hfin : B (sg r :: t) = txt b N := by
      unfold txt
      rw [← za htx, qp b hb2 m hmb, ← za Hr, Nat.mod_eq_of_lt hmb]; rfl
     have Hfin := hide hfin
     clear hfin hz
     go_wp2
     go_ret
     exact ⟨zB (za Hfin), hbD⟩
    ·rw [decide_eq_false hz] at hq0
     have hmb : b ≤ m := by
      apply Nat.le_of_not_lt
      intro h; apply hz; rw [← za Hq]; exact Nat.div_eq_of_lt h
     have htx2 : txl b q ++ (sg r :: t) = txl b N := by
      rw [← za htx, jx b hb2 m hmb, za Hq, za Hr]; simp
     have Htx2 := hide htx2
     have hl2 : (sg r :: t).length ≤ 50000 := by
      have := congrArg List.length htx2
      rw [List.length_append] at this; omega
     have hqm : q < m := by rw [← za Hq]; exact Nat.div_lt_self (by omega) (by omega)
     clear htx2
     go_wp2
     go_roundw
     case rel => exact ⟨q, sg r :: t, rfl, rfl, by omega, hl2, hbD, Htx2⟩
     case measure =>
      show zn (txl 10 q) < zn (txl 10 m)
      rw [zP, zP]; exact hqm
def overM (neg : Bool) (b : Nat) (x y : List UInt8) : Option (Bool × Nat × Nat) :=
 if okN b x && okN b y then zo neg (rdN b x) (rdN b y) else none
theorem qw {b : Nat} {l : List UInt8} (hb16 : b ≤ 16) (h : okN b l = true) : (dec (rdN b l)).size ≤ 2 * l.length + 1 := by
 unfold okN at h
 simp only [Bool.and_eq_true] at h
 exact jn hb16 (Zc b l (fun c hc => by simpa using List.all_eq_true.1 h.2 c hc))
theorem zg {w w3 : World} {b : Nat} (h : Below b w w3) (g : Nat) (hg : b ≤ g) (x y z : Value) : Below b w (((w3.setCell ⟨g, 0, none⟩ x).setCell ⟨g, 1, none⟩ y).setCell ⟨g, 2, none⟩ z) :=
 ((h.setCell hg _).setCell hg _).setCell hg _
theorem jp (neg : Bool) (l : List UInt8) (k b : Nat) (w : World) (hk : k < l.length) (hs : l.length ≤ 5000) (hb2 : 2 ≤ b) (hb16 : b ≤ 16) :
  Calls Tryd.prog 76 #[.bool neg, .string (B l), .int .i64 k, .int .i64 b] w fun e w' => e = .returned (zd (overM neg b (l.take k) (l.drop (k + 1)))) ∧ Below w.heap.size w w' := by
 have hsz : (B l).size ≤ 5000 := by rw [ze]; exact hs
 have hkz : k < (B l).size := by rw [ze]; exact hk
 have he1 : (B l).extract 0 k = B (l.take k) := by rw [zK]; simp
 have he2 : (B l).extract (k + 1) (B l).size = B (l.drop (k + 1)) := by rw [zK, ze, List.take_length]
 generalize hx : l.take k = x at *
 generalize hy : l.drop (k + 1) = y at *
 have hxl : x.length ≤ 5000 := by rw [← hx]; simp; omega
 have hyl : y.length ≤ 5000 := by rw [← hy]; simp; omega
 clear hx hy
 go_enter Tryd.func76, Tryd.ntmps76
 go_wp2_with fail
 refine (qb x b _ hb2 hb16 (by omega)).mono ?_
 rintro e w1 ⟨rfl, hb1⟩
 unfold zU
 go_wp2_with fail
 refine (qb y b _ hb2 hb16 (by omega)).mono ?_
 rintro e w2 ⟨rfl, hb2'⟩
 unfold zU
 have hb0 := zf hb1
 have hn2 := zp hb0 (by have := hb1.size; simpa using this) hb2'
 have hsx := fun h => qw (l := x) hb16 h
 have hsy := fun h => qw (l := y) hb16 h
 have hvx : okN b x = true → natV b x = rdN b x := fun h => by unfold natV; rw [if_pos h]
 have hvy : okN b y = true → natV b y = rdN b y := fun h => by unfold natV; rw [if_pos h]
 have Hov : Hid (overM neg b x y = if okN b x && okN b y then zo neg (rdN b x) (rdN b y) else none) := hide rfl
 generalize natV b x = vx at *
 generalize natV b y = vy at *
 generalize okN b x = ox at *
 generalize okN b y = oy at *
 cases ox
 ·
  have c0 := zb hn2.1 0
  have c1 := zb hn2.1 1
  have c2 := zb hn2.1 2
  have f0 := zc hn2.1 0
  have f1 := zc hn2.1 1
  have f2 := zc hn2.1 2
  have hbX := zj hn2.1
  simp at c0 c1 c2
  clear hb1 hb2' hb0 hn2 hsx hsy he1 he2 hvx hvy
  go_wp2
  refine bodyPost_ret (v := zd none) (by simp [results, Tryd.results76, go_sem, zd, numO, noNum, numV, c0, c1, c2]) rfl ⟨by rw [za Hov]; rfl, ?_⟩
  exact zg hbX _ (Nat.le_refl _) _ _ _
 ·cases oy
  ·
   have c0 := zb hn2.1 0
   have c1 := zb hn2.1 1
   have c2 := zb hn2.1 2
   have f0 := zc hn2.1 0
   have f1 := zc hn2.1 1
   have f2 := zc hn2.1 2
   have hbX := zj hn2.1
   simp at c0 c1 c2
   clear hb1 hb2' hb0 hn2 hsx hsy he1 he2 hvx hvy
   go_wp2
   refine bodyPost_ret (v := zd none) (by simp [results, Tryd.results76, go_sem, zd, numO, noNum, numV, c0, c1, c2]) rfl ⟨by rw [za Hov]; rfl, ?_⟩
   exact zg hbX _ (Nat.le_refl _) _ _ _
  ·have h1 := hsx rfl
   have h2 := hsy rfl
   rw [← hvx rfl] at h1
   rw [← hvy rfl] at h2
   have Hov2 : Hid (overM neg b x y = zo neg vx vy) := by rw [hvx rfl, hvy rfl]; exact Hov
   clear hsx hsy he1 he2 hvx hvy Hov
   go_wp2_with fail
   refine (zJ neg vx vy _ (by omega) (by omega)).mono ?_
   rintro e w3 ⟨rfl, hb3⟩
   have hn3 := zp hn2.1 hn2.2 hb3
   have c0 := zb hn3.1 0
   have c1 := zb hn3.1 1
   have c2 := zb hn3.1 2
   have f0 := zc hn3.1 0
   have f1 := zc hn3.1 1
   have f2 := zc hn3.1 2
   have hbX := zj hn3.1
   simp at c0 c1 c2
   clear hb1 hb2' hb0 hn2 hb3 hn3
   generalize zo neg vx vy = o at *
   unfold zd
   obtain ⟨n3, u3, d3, ho⟩ : ∃ n3 u3 d3, numO o = numV n3 u3 d3 := by
    cases o with
    | none => exact ⟨_, _, _, rfl⟩
    | some p => exact ⟨_, _, _, rfl⟩
   have Ho := hide ho
   rw [ho]
   unfold numV
   clear ho
   go_wp2
   refine bodyPost_ret (v := zd o) (by simp [results, Tryd.results76, go_sem, zd, za Ho, numV, c0, c1, c2]) rfl ⟨by rw [za Hov2], ?_⟩
   exact zg hbX _ (Nat.le_refl _) _ _ _
def qm (neg : Bool) (x y : List UInt8) : Option (Bool × Nat × Nat) :=
 if okN 10 (x ++ y) then zo neg (rdN 10 (x ++ y)) (10 ^ y.length) else none
theorem je : dec 1 = ⟨#[49]⟩ := by unfold dec txt; rw [qp 10 (by omega) 1 (by omega)]; rfl
theorem xM (j : Nat) : dec (10 ^ j) ++ ⟨#[48]⟩ = dec (10 ^ (j + 1)) := by
 have h1 : 0 < 10 ^ j := Nat.pow_pos (by omega)
 have h : 10 ≤ 10 ^ (j + 1) := by rw [Nat.pow_succ]; omega
 have e := jx 10 (by omega) (10 ^ (j + 1)) h
 rw [show 10 ^ (j + 1) / 10 = 10 ^ j from by rw [Nat.pow_succ]; omega, show 10 ^ (j + 1) % 10 = 0 from by rw [Nat.pow_succ]; omega] at e
 unfold dec txt
 rw [e, show (⟨#[48]⟩ : ByteArray) = B [sg 0] from rfl, zE]
theorem vG (j : Nat) : (dec (10 ^ j)).size ≤ j + 1 := by
 rw [zm]
 exact zw (by omega) (by omega) (Nat.pow_lt_pow_right (by omega) (by omega))
theorem jg (neg : Bool) (l : List UInt8) (k : Nat) (w : World) (hk : k < l.length) (hs : l.length ≤ 5000) :
  Calls Tryd.prog 77 #[.bool neg, .string (B l), .int .i64 k] w fun e w' => e = .returned (zd (qm neg (l.take k) (l.drop (k + 1)))) ∧ Below w.heap.size w w' := by
 have hsz : (B l).size ≤ 5000 := by rw [ze]; exact hs
 have hszI : ((B l).size : Int) = l.length := by rw [ze]
 have hkz : k < (B l).size := by rw [ze]; exact hk
 have he1 : (B l).extract 0 k = B (l.take k) := by rw [zK]; simp
 have he2 : (B l).extract (k + 1) (B l).size = B (l.drop (k + 1)) := by rw [zK, ze, List.take_length]
 have hyl : (l.drop (k + 1)).length = l.length - (k + 1) := by simp
 have hxl : (l.take k).length = k := by simp; omega
 generalize hx : l.take k = x at *
 generalize hy : l.drop (k + 1) = y at *
 have hcat : B x ++ B y = B (x ++ y) := zE x y
 have hxs : (B x).size = x.length := ze x
 have hys : (B y).size = y.length := ze y
 have hns : ¬ 9223372036854775807 < (B x).size + (B y).size := by omega
 have hns2 : ¬ (9223372036854775807 < ((B x).size : Int) + ((B y).size : Int)) := by omega
 have hxyl : (x ++ y).length ≤ 10000 := by rw [List.length_append]; omega
 have e1 := wi64 ((k : Int) + 1) (by omega) (by omega)
 have e2 : ((k : Int) + 1).toNat = k + 1 := by omega
 clear hx hy
 have Hyl := hide hyl
 clear hyl hxl hxs hys
 go_enter Tryd.func77, Tryd.ntmps77
 go_wp2
 go_region_with (go_at_call 78; refine (qb (x ++ y) 10 _ (by omega) (by omega) hxyl).mono ?_; rintro e w1 ⟨rfl, hb1⟩; unfold zU)
 all_goals
  have hb0 : Below (w.heap.size + 1) (w.alloc (.cells #[.bool false, .string ⟨#[]⟩, .string ⟨#[]⟩] 92)) w1 := by
   have := zt hb1; simpa using this
  have hzz : w.heap.size + 1 ≤ w1.heap.size := by have := hb1.size; simpa using this
  have hsx := fun h => qw (b := 10) (l := x ++ y) (by omega) h
  have hvx : okN 10 (x ++ y) = true → natV 10 (x ++ y) = rdN 10 (x ++ y) := fun h => by unfold natV; rw [if_pos h]
  have Hov : Hid (qm neg x y = if okN 10 (x ++ y) then zo neg (rdN 10 (x ++ y)) (10 ^ y.length) else none) := hide rfl
  generalize natV 10 (x ++ y) = vx at *
  generalize okN 10 (x ++ y) = ox at *
  clear hb1 he1 he2 hcat hns hns2 e1
  cases ox
  case' false =>
   have c0 := zb hb0 0
   have c1 := zb hb0 1
   have c2 := zb hb0 2
   have f0 := zc hb0 0
   have f1 := zc hb0 1
   have f2 := zc hb0 2
   have hbX := zj hb0
   simp at c0 c1 c2
   clear hb0 hsx hvx
   go_wp2
   refine bodyPost_ret (v := zd none) (by simp [results, Tryd.results77, go_sem, zd, numO, noNum, numV, c0, c1, c2]) rfl ⟨by rw [za Hov]; rfl, ?_⟩
   exact zg hbX _ (Nat.le_refl _) _ _ _
  case' true =>
   have h1 := hsx rfl
   rw [← hvx rfl] at h1
   have Hov2 : Hid (qm neg x y = zo neg vx (10 ^ y.length)) := by rw [hvx rfl]; exact Hov
   clear hsx hvx Hov
   go_wp2
   go_loopw [10, 11] (fun dn i wr => ∃ j : Nat, k + 1 + j ≤ l.length ∧ dn = .string (dec (10 ^ j)) ∧ i = .int .i64 ((k + 1 + j : Nat) : Int) ∧ wr = w1) (fun _ i _ => l.length - (intOf i).toNat)
   case atStart => exact ⟨0, by omega, by rw [Nat.pow_zero, je], by go_num, rfl⟩
   case round =>
    obtain ⟨j, hj, rfl, rfl, rfl⟩ := hrel
    have hds := vG j
    by_cases hlt : k + 1 + j < l.length
    ·have htn := xM j
     have hns : ¬ 9223372036854775807 < (dec (10 ^ j)).size + 1 := by omega
     go_wp2
     go_roundw
     case rel => exact ⟨j + 1, by omega, rfl, by go_num, trivial⟩
     case measure => simp [intOf]; omega
    ·have hjy : j = y.length := by have := za Hyl; omega
     go_wp2_with fail
     have hds2 : (dec (10 ^ y.length)).size ≤ 50000 := by rw [← hjy]; omega
     clear hjy
     refine (zJ neg vx (10 ^ y.length) _ (by omega) hds2).mono ?_
     rintro e w3 ⟨rfl, hb3⟩
     have hn3 := zp hb0 hzz hb3
     have c0 := zb hn3.1 0
     have c1 := zb hn3.1 1
     have c2 := zb hn3.1 2
     have f0 := zc hn3.1 0
     have f1 := zc hn3.1 1
     have f2 := zc hn3.1 2
     have hbX := zj hn3.1
     simp at c0 c1 c2
     clear hb0 hb3 hn3
     generalize zo neg vx (10 ^ y.length) = o at *
     unfold zd
     obtain ⟨n3, u3, d3, ho⟩ : ∃ n3 u3 d3, numO o = numV n3 u3 d3 := by
      cases o with
      | none => exact ⟨_, _, _, rfl⟩
      | some p => exact ⟨_, _, _, rfl⟩
     have Ho := hide ho
     rw [ho]
     unfold numV
     clear ho
     go_wp2
     refine bodyPost_ret (v := zd o) (by simp [results, Tryd.results77, go_sem, zd, za Ho, numV, c0, c1, c2]) rfl ⟨by rw [za Hov2], ?_⟩
     exact zg hbX _ (Nat.le_refl _) _ _ _
def qv (neg : Bool) (b : Nat) (l : List UInt8) : Option (Bool × Nat × Nat) := if okN b l then zo neg (rdN b l) 1 else none
def bodyM (neg : Bool) (b : Nat) (l : List UInt8) : Option (Bool × Nat × Nat) :=
 match findB 47 l with
 | some k => overM neg b (l.take k) (l.drop (k + 1))
 | none => match findB 46 l with
  | some k => if b = 10 then qm neg (l.take k) (l.drop (k + 1)) else qv neg b l
  | none => qv neg b l
def signB (b : Nat) : List UInt8 → Option (Bool × Nat × Nat)
 | [] => bodyM false b []
 | c :: t => if c = 45 then bodyM true b t else if c = 43 then bodyM false b t else bodyM false b (c :: t)
def zl (l : List UInt8) (r : Int) : Option (Bool × Nat × Nat) := if zv r && decide (l.length ≤ 240) then signB r.toNat l else none
theorem qq {c : UInt8} : ∀ {l : List UInt8} {k : Nat}, findB c l = some k → k < l.length := by
 intro l
 induction l with
 | nil => intro k h; simp [findB] at h
 | cons d r ih =>
  intro k h
  simp only [findB] at h
  split at h
  ·simp at h; subst h; simp
  ·cases hr : findB c r with
   | none => rw [hr] at h; simp at h
   | some j => rw [hr] at h; simp at h; subst h; have := ih hr; simp; omega
theorem zW (l : List UInt8) (c : UInt8) (n : Int) (hn : (c.toNat : Int) = n) (w : World) (hs : l.length ≤ 1000000000) :
  Calls Tryd.prog 75 #[.string (B l), .int .u8 n] w fun e w' => e = .returned (.int .i64 (findI c l)) ∧ w' = w := by
 subst hn; exact xV l c w hs
theorem qW {r : Int} (h : zv r = true) : ∃ b : Nat, r = b ∧ (b = 2 ∨ b = 8 ∨ b = 10 ∨ b = 16) := by
 unfold zv at h
 simp only [Bool.or_eq_true, beq_iff_eq] at h
 exact ⟨r.toNat, by omega, by omega⟩
theorem xu (l : List UInt8) (r : Int) (h : zv r = false ∨ 240 < l.length) : zl l r = none := by
 unfold zl
 rcases h with h | h
 ·simp [h]
 ·rw [decide_eq_false (by omega)]; simp
theorem jP (l : List UInt8) (r : Int) (w : World) (hs : l.length ≤ 1000000000) (h : zv r = false ∨ 240 < l.length) :
  Calls Tryd.prog 62 #[.string (B l), .int .i64 r] w fun e w' => e = .returned (zd (zl l r)) ∧ Below w.heap.size w w' := by
 rw [xu l r h]
 have hsz : (B l).size ≤ 1000000000 := by rw [ze]; exact hs
 by_cases hr : zv r = false
 ·clear h
  go_enter Tryd.func62, Tryd.ntmps62
  go_wp2_with fail
  refine (zX r _).mono ?_
  rintro e w1 ⟨rfl, rfl⟩
  rw [hr]
  go_wp2
  refine bodyPost_ret (v := zd none) (by simp [results, Tryd.results62, go_sem, zd, numO, noNum, numV]) rfl ⟨rfl, ?_⟩
  exact (Below.refl _ _).alloc (Nat.le_refl _) _
 ·have hr' : zv r = true := by simpa using hr
  have hl : 240 < (B l).size := by rw [ze]; rcases h with h | h; exact absurd h hr; exact h
  clear h hr
  go_enter Tryd.func62, Tryd.ntmps62
  go_wp2_with fail
  refine (zX r _).mono ?_
  rintro e w1 ⟨rfl, rfl⟩
  rw [hr']
  go_wp2
  refine bodyPost_ret (v := zd none) (by simp [results, Tryd.results62, go_sem, zd, numO, noNum, numV]) rfl ⟨rfl, ?_⟩
  exact (Below.refl _ _).alloc (Nat.le_refl _) _
theorem jh (l : List UInt8) (b : Nat) (hb4 : b = 2 ∨ b = 8 ∨ b = 10 ∨ b = 16) (hl : l.length ≤ 240) : zl l (b : Int) = signB b l := by
 have hr : zv (b : Int) = true := by rcases hb4 with rfl | rfl | rfl | rfl <;> rfl
 unfold zl
 rw [hr, decide_eq_true hl]
 simp
theorem jt (b : Nat) (w : World) (hb4 : b = 2 ∨ b = 8 ∨ b = 10 ∨ b = 16) :
  Calls Tryd.prog 62 #[.string (B []), .int .i64 b] w fun e w' => e = .returned (zd (zl [] b)) ∧ Below w.heap.size w w' := by
 obtain ⟨l, hl⟩ : ∃ l : List UInt8, l = [] := ⟨_, rfl⟩
 rw [← hl]
 have hr : zv (b : Int) = true := by rcases hb4 with rfl | rfl | rfl | rfl <;> rfl
 have hl2 : l.length ≤ 240 := by rw [hl]; simp
 have Hm : Hid (zl l (b : Int) = bodyM false b l) := by show _ = _; rw [jh l b hb4 hl2, hl]; rfl
 have hz : (B l).size ≤ 0 := by rw [ze, hl]; simp
 clear hl
 go_enter Tryd.func62, Tryd.ntmps62
 go_wp2_with fail
 refine (zX b _).mono ?_
 rintro e w1 ⟨rfl, rfl⟩
 rw [hr]
 go_wp2_with fail
 refine (zW l 47 47 rfl _ (by omega)).mono ?_
 rintro e w1 ⟨rfl, rfl⟩
 cases hf : findB 47 l with
 | some k =>
  have hfi : findI 47 l = (k : Int) := by unfold findI; rw [hf]
  have hk := qq hf
  have Hov2 : Hid (zl l (b : Int) = overM false b ((l).take k) ((l).drop (k + 1))) := by
   show _ = _
   rw [za Hm]; unfold bodyM; rw [hf]
  rw [hfi]
  clear hfi hf
  go_wp2_with fail
  refine (jp false l k b _ hk (by omega) (by omega) (by omega)).mono ?_
  rintro e w2 ⟨rfl, hb2⟩
  have hb0 := zf hb2
  have c0 := zb hb0 0
  have c1 := zb hb0 1
  have c2 := zb hb0 2
  have f0 := zc hb0 0
  have f1 := zc hb0 1
  have f2 := zc hb0 2
  have hbX := zj hb0
  simp at c0 c1 c2
  clear hb2 hb0
  generalize overM false b ((l).take k) ((l).drop (k + 1)) = o at *
  unfold zd
  obtain ⟨n3, u3, d3, ho⟩ : ∃ n3 u3 d3, numO o = numV n3 u3 d3 := by
   cases o with
   | none => exact ⟨_, _, _, rfl⟩
   | some p => exact ⟨_, _, _, rfl⟩
  have Ho := hide ho
  rw [ho]
  unfold numV
  clear ho
  go_wp2
  refine bodyPost_ret (v := zd o) (by simp [results, Tryd.results62, go_sem, zd, za Ho, numV, c0, c1, c2]) rfl ⟨by rw [za Hov2], ?_⟩
  exact zg hbX _ (Nat.le_refl _) _ _ _
 | none =>
  have hfi : findI 47 l = -1 := by unfold findI; rw [hf]
  rw [hfi]
  clear hfi
  go_wp2_with fail
  refine (zW l 46 46 rfl _ (by omega)).mono ?_
  rintro e w2 ⟨rfl, rfl⟩
  have Hf := hide hf
  clear hf
  by_cases hpt : b = 10 ∧ ∃ k, findB 46 l = some k
  ·obtain ⟨hb10, k, hfk⟩ := hpt
   have hfi : findI 46 l = (k : Int) := by unfold findI; rw [hfk]
   have hk := qq hfk
   have Hov2 : Hid (zl l (b : Int) = qm false ((l).take k) ((l).drop (k + 1))) := by
    show _ = _
    rw [za Hm]; unfold bodyM; rw [za Hf]
    simp only [hfk]
    rw [if_pos hb10]
   rw [hfi]
   have hbq : ((b : Int) == 10) = true := by rw [beq_iff_eq]; omega
   clear hfi hfk hb10
   go_wp2_with fail
   refine (jg false l k _ hk (by omega)).mono ?_
   rintro e w3 ⟨rfl, hb3⟩
   have hb0 := zf hb3
   have c0 := zb hb0 0
   have c1 := zb hb0 1
   have c2 := zb hb0 2
   have f0 := zc hb0 0
   have f1 := zc hb0 1
   have f2 := zc hb0 2
   have hbX := zj hb0
   simp at c0 c1 c2
   clear hb3 hb0
   generalize qm false ((l).take k) ((l).drop (k + 1)) = o at *
   unfold zd
   obtain ⟨n3, u3, d3, ho⟩ : ∃ n3 u3 d3, numO o = numV n3 u3 d3 := by
    cases o with
    | none => exact ⟨_, _, _, rfl⟩
    | some p => exact ⟨_, _, _, rfl⟩
   have Ho := hide ho
   rw [ho]
   unfold numV
   clear ho
   go_wp2
   refine bodyPost_ret (v := zd o) (by simp [results, Tryd.results62, go_sem, zd, za Ho, numV, c0, c1, c2]) rfl ⟨by rw [za Hov2], ?_⟩
   exact zg hbX _ (Nat.le_refl _) _ _ _
  ·have Hpl : Hid (zl l (b : Int) = qv false b l) := by
    show _ = _
    rw [za Hm]; unfold bodyM; rw [za Hf]
    cases hfk : findB 46 l with
    | none => rfl
    | some k =>
     simp only
     rw [if_neg (fun h => hpt ⟨h, k, hfk⟩)]
   have hsn := fun h => qw (b := b) (l := l) (by omega) h
   have hvn : okN b l = true → natV b l = rdN b l := fun h => by unfold natV; rw [if_pos h]
   have Hpo : Hid (qv false b l = if okN b l then zo false (rdN b l) 1 else none) := hide rfl
   have d1 : dec 1 = ⟨#[49]⟩ := je
   by_cases hfz : 0 ≤ findI 46 l
   ·have hbq : ((b : Int) == 10) = false := by
     rw [beq_eq_false_iff_ne]
     intro hh
     apply hpt
     refine ⟨by omega, ?_⟩
     unfold findI at hfz
     cases hfk : findB 46 l with
     | none => rw [hfk] at hfz; simp at hfz
     | some k => exact ⟨k, rfl⟩
    clear hpt
    go_wp2_with fail
    refine (qb l b _ (by omega) (by omega) (by omega)).mono ?_
    rintro e w3 ⟨rfl, hb3⟩
    unfold zU
    have hb0 := zf hb3
    have hzz : w.heap.size + 1 ≤ w3.heap.size := by have := hb3.size; simpa using this
    generalize natV b l = vx at *
    generalize okN b l = ox at *
    cases ox with
    | false =>
     have c0 := zb hb0 0
     have c1 := zb hb0 1
     have c2 := zb hb0 2
     have f0 := zc hb0 0
     have f1 := zc hb0 1
     have f2 := zc hb0 2
     have hbX := zj hb0
     simp at c0 c1 c2
     clear hb3 hb0 hsn hvn d1
     go_wp2
     refine bodyPost_ret (v := zd none) (by simp [results, Tryd.results62, go_sem, zd, numO, noNum, numV, c0, c1, c2]) rfl ⟨by rw [za Hpl, za Hpo]; rfl, ?_⟩
     exact zg hbX _ (Nat.le_refl _) _ _ _
    | true =>
     have h1 := hsn rfl
     rw [← hvn rfl] at h1
     have Hov2 : Hid (zl l (b : Int) = zo false vx 1) := by rw [hvn rfl]; exact (za Hpl).trans (za Hpo)
     have d1s := zC (n := 1) (by omega)
     clear hsn hvn
     go_wp2_with fail
     rw [← d1]
     clear d1
     refine (zJ false vx 1 _ (by omega) (by omega)).mono ?_
     rintro e w4 ⟨rfl, hb4'⟩
     have hn4 := zp hb0 hzz hb4'
     have c0 := zb hn4.1 0
     have c1 := zb hn4.1 1
     have c2 := zb hn4.1 2
     have f0 := zc hn4.1 0
     have f1 := zc hn4.1 1
     have f2 := zc hn4.1 2
     have hbX := zj hn4.1
     simp at c0 c1 c2
     clear hb3 hb0 hb4' hn4
     generalize zo false vx 1 = o at *
     unfold zd
     obtain ⟨n3, u3, d3, ho⟩ : ∃ n3 u3 d3, numO o = numV n3 u3 d3 := by
      cases o with
      | none => exact ⟨_, _, _, rfl⟩
      | some p => exact ⟨_, _, _, rfl⟩
     have Ho := hide ho
     rw [ho]
     unfold numV
     clear ho
     go_wp2
     refine bodyPost_ret (v := zd o) (by simp [results, Tryd.results62, go_sem, zd, za Ho, numV, c0, c1, c2]) rfl ⟨by rw [za Hov2], ?_⟩
     exact zg hbX _ (Nat.le_refl _) _ _ _
   ·clear hpt
    go_wp2_with fail
    refine (qb l b _ (by omega) (by omega) (by omega)).mono ?_
    rintro e w3 ⟨rfl, hb3⟩
    unfold zU
    have hb0 := zf hb3
    have hzz : w.heap.size + 1 ≤ w3.heap.size := by have := hb3.size; simpa using this
    generalize natV b l = vx at *
    generalize okN b l = ox at *
    cases ox with
    | false =>
     have c0 := zb hb0 0
     have c1 := zb hb0 1
     have c2 := zb hb0 2
     have f0 := zc hb0 0
     have f1 := zc hb0 1
     have f2 := zc hb0 2
     have hbX := zj hb0
     simp at c0 c1 c2
     clear hb3 hb0 hsn hvn d1
     go_wp2
     refine bodyPost_ret (v := zd none) (by simp [results, Tryd.results62, go_sem, zd, numO, noNum, numV, c0, c1, c2]) rfl ⟨by rw [za Hpl, za Hpo]; rfl, ?_⟩
     exact zg hbX _ (Nat.le_refl _) _ _ _
    | true =>
     have h1 := hsn rfl
     rw [← hvn rfl] at h1
     have Hov2 : Hid (zl l (b : Int) = zo false vx 1) := by rw [hvn rfl]; exact (za Hpl).trans (za Hpo)
     have d1s := zC (n := 1) (by omega)
     clear hsn hvn
     go_wp2_with fail
     rw [← d1]
     clear d1
     refine (zJ false vx 1 _ (by omega) (by omega)).mono ?_
     rintro e w4 ⟨rfl, hb4'⟩
     have hn4 := zp hb0 hzz hb4'
     have c0 := zb hn4.1 0
     have c1 := zb hn4.1 1
     have c2 := zb hn4.1 2
     have f0 := zc hn4.1 0
     have f1 := zc hn4.1 1
     have f2 := zc hn4.1 2
     have hbX := zj hn4.1
     simp at c0 c1 c2
     clear hb3 hb0 hb4' hn4
     generalize zo false vx 1 = o at *
     unfold zd
     obtain ⟨n3, u3, d3, ho⟩ : ∃ n3 u3 d3, numO o = numV n3 u3 d3 := by
      cases o with
      | none => exact ⟨_, _, _, rfl⟩
      | some p => exact ⟨_, _, _, rfl⟩
     have Ho := hide ho
     rw [ho]
     unfold numV
     clear ho
     go_wp2
     refine bodyPost_ret (v := zd o) (by simp [results, Tryd.results62, go_sem, zd, za Ho, numV, c0, c1, c2]) rfl ⟨by rw [za Hov2], ?_⟩
     exact zg hbX _ (Nat.le_refl _) _ _ _
theorem jl (t : List UInt8) (b : Nat) (w : World) (hb4 : b = 2 ∨ b = 8 ∨ b = 10 ∨ b = 16) (c : UInt8) (hc : c = 45) (hlen : (c :: t).length ≤ 240) :
  Calls Tryd.prog 62 #[.string (B (c :: t)), .int .i64 b] w fun e w' => e = .returned (zd (zl (c :: t) b)) ∧ Below w.heap.size w w' := by
 obtain ⟨l, hl⟩ : ∃ l : List UInt8, l = c :: t := ⟨_, rfl⟩
 rw [← hl]
 have hr : zv (b : Int) = true := by rcases hb4 with rfl | rfl | rfl | rfl <;> rfl
 have hl2 : l.length ≤ 240 := by rw [hl]; exact hlen
 have htl : t.length ≤ 240 := by simp at hlen; omega
 have hpos : 0 < (B l).size := by rw [ze, hl]; simp
 have hposI : (0 : Int) < ((B l).size : Int) := by omega
 have hsz : (B l).size ≤ 240 := by rw [ze]; exact hl2
 have hc0 : ((B l)[0]'hpos).toNat = c.toNat := by rw [B_get]; simp [hl]
 have hcut : (B l).extract 1 (B l).size = B t := by rw [zK, ze, List.take_length, hl]; rfl
 have Hm : Hid (zl l (b : Int) = bodyM true b t) := by show _ = _; rw [jh l b hb4 hl2, hl]; simp [signB, hc]
 have hq : (((B l)[0]'hpos).toNat : Int) == 45 := by rw [hc0, hc]; rfl
 clear hl hc hc0 hlen
 go_enter Tryd.func62, Tryd.ntmps62
 go_wp2_with fail
 refine (zX b _).mono ?_
 rintro e w1 ⟨rfl, rfl⟩
 rw [hr]
 go_wp2_with fail
 refine (zW t 47 47 rfl _ (by omega)).mono ?_
 rintro e w1 ⟨rfl, rfl⟩
 cases hf : findB 47 t with
 | some k =>
  have hfi : findI 47 t = (k : Int) := by unfold findI; rw [hf]
  have hk := qq hf
  have Hov2 : Hid (zl l (b : Int) = overM true b ((t).take k) ((t).drop (k + 1))) := by
   show _ = _
   rw [za Hm]; unfold bodyM; rw [hf]
  rw [hfi]
  clear hfi hf
  go_wp2_with fail
  refine (jp true t k b _ hk (by omega) (by omega) (by omega)).mono ?_
  rintro e w2 ⟨rfl, hb2⟩
  have hb0 := zf hb2
  have c0 := zb hb0 0
  have c1 := zb hb0 1
  have c2 := zb hb0 2
  have f0 := zc hb0 0
  have f1 := zc hb0 1
  have f2 := zc hb0 2
  have hbX := zj hb0
  simp at c0 c1 c2
  clear hb2 hb0
  generalize overM true b ((t).take k) ((t).drop (k + 1)) = o at *
  unfold zd
  obtain ⟨n3, u3, d3, ho⟩ : ∃ n3 u3 d3, numO o = numV n3 u3 d3 := by
   cases o with
   | none => exact ⟨_, _, _, rfl⟩
   | some p => exact ⟨_, _, _, rfl⟩
  have Ho := hide ho
  rw [ho]
  unfold numV
  clear ho
  go_wp2
  refine bodyPost_ret (v := zd o) (by simp [results, Tryd.results62, go_sem, zd, za Ho, numV, c0, c1, c2]) rfl ⟨by rw [za Hov2], ?_⟩
  exact zg hbX _ (Nat.le_refl _) _ _ _
 | none =>
  have hfi : findI 47 t = -1 := by unfold findI; rw [hf]
  rw [hfi]
  clear hfi
  go_wp2_with fail
  refine (zW t 46 46 rfl _ (by omega)).mono ?_
  rintro e w2 ⟨rfl, rfl⟩
  have Hf := hide hf
  clear hf
  by_cases hpt : b = 10 ∧ ∃ k, findB 46 t = some k
  ·obtain ⟨hb10, k, hfk⟩ := hpt
   have hfi : findI 46 t = (k : Int) := by unfold findI; rw [hfk]
   have hk := qq hfk
   have Hov2 : Hid (zl l (b : Int) = qm true ((t).take k) ((t).drop (k + 1))) := by
    show _ = _
    rw [za Hm]; unfold bodyM; rw [za Hf]
    simp only [hfk]
    rw [if_pos hb10]
   rw [hfi]
   have hbq : ((b : Int) == 10) = true := by rw [beq_iff_eq]; omega
   clear hfi hfk hb10
   go_wp2_with fail
   refine (jg true t k _ hk (by omega)).mono ?_
   rintro e w3 ⟨rfl, hb3⟩
   have hb0 := zf hb3
   have c0 := zb hb0 0
   have c1 := zb hb0 1
   have c2 := zb hb0 2
   have f0 := zc hb0 0
   have f1 := zc hb0 1
   have f2 := zc hb0 2
   have hbX := zj hb0
   simp at c0 c1 c2
   clear hb3 hb0
   generalize qm true ((t).take k) ((t).drop (k + 1)) = o at *
   unfold zd
   obtain ⟨n3, u3, d3, ho⟩ : ∃ n3 u3 d3, numO o = numV n3 u3 d3 := by
    cases o with
    | none => exact ⟨_, _, _, rfl⟩
    | some p => exact ⟨_, _, _, rfl⟩
   have Ho := hide ho
   rw [ho]
   unfold numV
   clear ho
   go_wp2
   refine bodyPost_ret (v := zd o) (by simp [results, Tryd.results62, go_sem, zd, za Ho, numV, c0, c1, c2]) rfl ⟨by rw [za Hov2], ?_⟩
   exact zg hbX _ (Nat.le_refl _) _ _ _
  ·have Hpl : Hid (zl l (b : Int) = qv true b t) := by
    show _ = _
    rw [za Hm]; unfold bodyM; rw [za Hf]
    cases hfk : findB 46 t with
    | none => rfl
    | some k =>
     simp only
     rw [if_neg (fun h => hpt ⟨h, k, hfk⟩)]
   have hsn := fun h => qw (b := b) (l := t) (by omega) h
   have hvn : okN b t = true → natV b t = rdN b t := fun h => by unfold natV; rw [if_pos h]
   have Hpo : Hid (qv true b t = if okN b t then zo true (rdN b t) 1 else none) := hide rfl
   have d1 : dec 1 = ⟨#[49]⟩ := je
   by_cases hfz : 0 ≤ findI 46 t
   ·have hbq : ((b : Int) == 10) = false := by
     rw [beq_eq_false_iff_ne]
     intro hh
     apply hpt
     refine ⟨by omega, ?_⟩
     unfold findI at hfz
     cases hfk : findB 46 t with
     | none => rw [hfk] at hfz; simp at hfz
     | some k => exact ⟨k, rfl⟩
    clear hpt
    go_wp2_with fail
    refine (qb t b _ (by omega) (by omega) (by omega)).mono ?_
    rintro e w3 ⟨rfl, hb3⟩
    unfold zU
    have hb0 := zf hb3
    have hzz : w.heap.size + 1 ≤ w3.heap.size := by have := hb3.size; simpa using this
    generalize natV b t = vx at *
    generalize okN b t = ox at *
    cases ox with
    | false =>
     have c0 := zb hb0 0
     have c1 := zb hb0 1
     have c2 := zb hb0 2
     have f0 := zc hb0 0
     have f1 := zc hb0 1
     have f2 := zc hb0 2
     have hbX := zj hb0
     simp at c0 c1 c2
     clear hb3 hb0 hsn hvn d1
     go_wp2
     refine bodyPost_ret (v := zd none) (by simp [results, Tryd.results62, go_sem, zd, numO, noNum, numV, c0, c1, c2]) rfl ⟨by rw [za Hpl, za Hpo]; rfl, ?_⟩
     exact zg hbX _ (Nat.le_refl _) _ _ _
    | true =>
     have h1 := hsn rfl
     rw [← hvn rfl] at h1
     have Hov2 : Hid (zl l (b : Int) = zo true vx 1) := by rw [hvn rfl]; exact (za Hpl).trans (za Hpo)
     have d1s := zC (n := 1) (by omega)
     clear hsn hvn
     go_wp2_with fail
     rw [← d1]
     clear d1
     refine (zJ true vx 1 _ (by omega) (by omega)).mono ?_
     rintro e w4 ⟨rfl, hb4'⟩
     have hn4 := zp hb0 hzz hb4'
     have c0 := zb hn4.1 0
     have c1 := zb hn4.1 1
     have c2 := zb hn4.1 2
     have f0 := zc hn4.1 0
     have f1 := zc hn4.1 1
     have f2 := zc hn4.1 2
     have hbX := zj hn4.1
     simp at c0 c1 c2
     clear hb3 hb0 hb4' hn4
     generalize zo true vx 1 = o at *
     unfold zd
     obtain ⟨n3, u3, d3, ho⟩ : ∃ n3 u3 d3, numO o = numV n3 u3 d3 := by
      cases o with
      | none => exact ⟨_, _, _, rfl⟩
      | some p => exact ⟨_, _, _, rfl⟩
     have Ho := hide ho
     rw [ho]
     unfold numV
     clear ho
     go_wp2
     refine bodyPost_ret (v := zd o) (by simp [results, Tryd.results62, go_sem, zd, za Ho, numV, c0, c1, c2]) rfl ⟨by rw [za Hov2], ?_⟩
     exact zg hbX _ (Nat.le_refl _) _ _ _
   ·clear hpt
    go_wp2_with fail
    refine (qb t b _ (by omega) (by omega) (by omega)).mono ?_
    rintro e w3 ⟨rfl, hb3⟩
    unfold zU
    have hb0 := zf hb3
    have hzz : w.heap.size + 1 ≤ w3.heap.size := by have := hb3.size; simpa using this
    generalize natV b t = vx at *
    generalize okN b t = ox at *
    cases ox with
    | false =>
     have c0 := zb hb0 0
     have c1 := zb hb0 1
     have c2 := zb hb0 2
     have f0 := zc hb0 0
     have f1 := zc hb0 1
     have f2 := zc hb0 2
     have hbX := zj hb0
     simp at c0 c1 c2
     clear hb3 hb0 hsn hvn d1
     go_wp2
     refine bodyPost_ret (v := zd none) (by simp [results, Tryd.results62, go_sem, zd, numO, noNum, numV, c0, c1, c2]) rfl ⟨by rw [za Hpl, za Hpo]; rfl, ?_⟩
     exact zg hbX _ (Nat.le_refl _) _ _ _
    | true =>
     have h1 := hsn rfl
     rw [← hvn rfl] at h1
     have Hov2 : Hid (zl l (b : Int) = zo true vx 1) := by rw [hvn rfl]; exact (za Hpl).trans (za Hpo)
     have d1s := zC (n := 1) (by omega)
     clear hsn hvn
     go_wp2_with fail
     rw [← d1]
     clear d1
     refine (zJ true vx 1 _ (by omega) (by omega)).mono ?_
     rintro e w4 ⟨rfl, hb4'⟩
     have hn4 := zp hb0 hzz hb4'
     have c0 := zb hn4.1 0
     have c1 := zb hn4.1 1
     have c2 := zb hn4.1 2
     have f0 := zc hn4.1 0
     have f1 := zc hn4.1 1
     have f2 := zc hn4.1 2
     have hbX := zj hn4.1
     simp at c0 c1 c2
     clear hb3 hb0 hb4' hn4
     generalize zo true vx 1 = o at *
     unfold zd
     obtain ⟨n3, u3, d3, ho⟩ : ∃ n3 u3 d3, numO o = numV n3 u3 d3 := by
      cases o with
      | none => exact ⟨_, _, _, rfl⟩
      | some p => exact ⟨_, _, _, rfl⟩
     have Ho := hide ho
     rw [ho]
     unfold numV
     clear ho
     go_wp2
     refine bodyPost_ret (v := zd o) (by simp [results, Tryd.results62, go_sem, zd, za Ho, numV, c0, c1, c2]) rfl ⟨by rw [za Hov2], ?_⟩
     exact zg hbX _ (Nat.le_refl _) _ _ _
theorem ju (t : List UInt8) (b : Nat) (w : World) (hb4 : b = 2 ∨ b = 8 ∨ b = 10 ∨ b = 16) (c : UInt8) (hc : c = 43) (hlen : (c :: t).length ≤ 240) :
  Calls Tryd.prog 62 #[.string (B (c :: t)), .int .i64 b] w fun e w' => e = .returned (zd (zl (c :: t) b)) ∧ Below w.heap.size w w' := by
 obtain ⟨l, hl⟩ : ∃ l : List UInt8, l = c :: t := ⟨_, rfl⟩
 rw [← hl]
 have hr : zv (b : Int) = true := by rcases hb4 with rfl | rfl | rfl | rfl <;> rfl
 have hl2 : l.length ≤ 240 := by rw [hl]; exact hlen
 have htl : t.length ≤ 240 := by simp at hlen; omega
 have hpos : 0 < (B l).size := by rw [ze, hl]; simp
 have hposI : (0 : Int) < ((B l).size : Int) := by omega
 have hsz : (B l).size ≤ 240 := by rw [ze]; exact hl2
 have hc0 : ((B l)[0]'hpos).toNat = c.toNat := by rw [B_get]; simp [hl]
 have hcut : (B l).extract 1 (B l).size = B t := by rw [zK, ze, List.take_length, hl]; rfl
 have Hm : Hid (zl l (b : Int) = bodyM false b t) := by show _ = _; rw [jh l b hb4 hl2, hl]; simp [signB, hc]
 have hq : ((((B l)[0]'hpos).toNat : Int) == 45) = false := by rw [hc0, hc]; rfl
 have hq2 : ((((B l)[0]'hpos).toNat : Int) == 43) = true := by rw [hc0, hc]; rfl
 clear hl hc hc0 hlen
 go_enter Tryd.func62, Tryd.ntmps62
 go_wp2_with fail
 refine (zX b _).mono ?_
 rintro e w1 ⟨rfl, rfl⟩
 rw [hr]
 go_wp2_with fail
 refine (zW t 47 47 rfl _ (by omega)).mono ?_
 rintro e w1 ⟨rfl, rfl⟩
 cases hf : findB 47 t with
 | some k =>
  have hfi : findI 47 t = (k : Int) := by unfold findI; rw [hf]
  have hk := qq hf
  have Hov2 : Hid (zl l (b : Int) = overM false b ((t).take k) ((t).drop (k + 1))) := by
   show _ = _
   rw [za Hm]; unfold bodyM; rw [hf]
  rw [hfi]
  clear hfi hf
  go_wp2_with fail
  refine (jp false t k b _ hk (by omega) (by omega) (by omega)).mono ?_
  rintro e w2 ⟨rfl, hb2⟩
  have hb0 := zf hb2
  have c0 := zb hb0 0
  have c1 := zb hb0 1
  have c2 := zb hb0 2
  have f0 := zc hb0 0
  have f1 := zc hb0 1
  have f2 := zc hb0 2
  have hbX := zj hb0
  simp at c0 c1 c2
  clear hb2 hb0
  generalize overM false b ((t).take k) ((t).drop (k + 1)) = o at *
  unfold zd
  obtain ⟨n3, u3, d3, ho⟩ : ∃ n3 u3 d3, numO o = numV n3 u3 d3 := by
   cases o with
   | none => exact ⟨_, _, _, rfl⟩
   | some p => exact ⟨_, _, _, rfl⟩
  have Ho := hide ho
  rw [ho]
  unfold numV
  clear ho
  go_wp2
  refine bodyPost_ret (v := zd o) (by simp [results, Tryd.results62, go_sem, zd, za Ho, numV, c0, c1, c2]) rfl ⟨by rw [za Hov2], ?_⟩
  exact zg hbX _ (Nat.le_refl _) _ _ _
 | none =>
  have hfi : findI 47 t = -1 := by unfold findI; rw [hf]
  rw [hfi]
  clear hfi
  go_wp2_with fail
  refine (zW t 46 46 rfl _ (by omega)).mono ?_
  rintro e w2 ⟨rfl, rfl⟩
  have Hf := hide hf
  clear hf
  by_cases hpt : b = 10 ∧ ∃ k, findB 46 t = some k
  ·obtain ⟨hb10, k, hfk⟩ := hpt
   have hfi : findI 46 t = (k : Int) := by unfold findI; rw [hfk]
   have hk := qq hfk
   have Hov2 : Hid (zl l (b : Int) = qm false ((t).take k) ((t).drop (k + 1))) := by
    show _ = _
    rw [za Hm]; unfold bodyM; rw [za Hf]
    simp only [hfk]
    rw [if_pos hb10]
   rw [hfi]
   have hbq : ((b : Int) == 10) = true := by rw [beq_iff_eq]; omega
   clear hfi hfk hb10
   go_wp2_with fail
   refine (jg false t k _ hk (by omega)).mono ?_
   rintro e w3 ⟨rfl, hb3⟩
   have hb0 := zf hb3
   have c0 := zb hb0 0
   have c1 := zb hb0 1
   have c2 := zb hb0 2
   have f0 := zc hb0 0
   have f1 := zc hb0 1
   have f2 := zc hb0 2
   have hbX := zj hb0
   simp at c0 c1 c2
   clear hb3 hb0
   generalize qm false ((t).take k) ((t).drop (k + 1)) = o at *
   unfold zd
   obtain ⟨n3, u3, d3, ho⟩ : ∃ n3 u3 d3, numO o = numV n3 u3 d3 := by
    cases o with
    | none => exact ⟨_, _, _, rfl⟩
    | some p => exact ⟨_, _, _, rfl⟩
   have Ho := hide ho
   rw [ho]
   unfold numV
   clear ho
   go_wp2
   refine bodyPost_ret (v := zd o) (by simp [results, Tryd.results62, go_sem, zd, za Ho, numV, c0, c1, c2]) rfl ⟨by rw [za Hov2], ?_⟩
   exact zg hbX _ (Nat.le_refl _) _ _ _
  ·have Hpl : Hid (zl l (b : Int) = qv false b t) := by
    show _ = _
    rw [za Hm]; unfold bodyM; rw [za Hf]
    cases hfk : findB 46 t with
    | none => rfl
    | some k =>
     simp only
     rw [if_neg (fun h => hpt ⟨h, k, hfk⟩)]
   have hsn := fun h => qw (b := b) (l := t) (by omega) h
   have hvn : okN b t = true → natV b t = rdN b t := fun h => by unfold natV; rw [if_pos h]
   have Hpo : Hid (qv false b t = if okN b t then zo false (rdN b t) 1 else none) := hide rfl
   have d1 : dec 1 = ⟨#[49]⟩ := je
   by_cases hfz : 0 ≤ findI 46 t
   ·have hbq : ((b : Int) == 10) = false := by
     rw [beq_eq_false_iff_ne]
     intro hh
     apply hpt
     refine ⟨by omega, ?_⟩
     unfold findI at hfz
     cases hfk : findB 46 t with
     | none => rw [hfk] at hfz; simp at hfz
     | some k => exact ⟨k, rfl⟩
    clear hpt
    go_wp2_with fail
    refine (qb t b _ (by omega) (by omega) (by omega)).mono ?_
    rintro e w3 ⟨rfl, hb3⟩
    unfold zU
    have hb0 := zf hb3
    have hzz : w.heap.size + 1 ≤ w3.heap.size := by have := hb3.size; simpa using this
    generalize natV b t = vx at *
    generalize okN b t = ox at *
    cases ox with
    | false =>
     have c0 := zb hb0 0
     have c1 := zb hb0 1
     have c2 := zb hb0 2
     have f0 := zc hb0 0
     have f1 := zc hb0 1
     have f2 := zc hb0 2
     have hbX := zj hb0
     simp at c0 c1 c2
     clear hb3 hb0 hsn hvn d1
     go_wp2
     refine bodyPost_ret (v := zd none) (by simp [results, Tryd.results62, go_sem, zd, numO, noNum, numV, c0, c1, c2]) rfl ⟨by rw [za Hpl, za Hpo]; rfl, ?_⟩
     exact zg hbX _ (Nat.le_refl _) _ _ _
    | true =>
     have h1 := hsn rfl
     rw [← hvn rfl] at h1
     have Hov2 : Hid (zl l (b : Int) = zo false vx 1) := by rw [hvn rfl]; exact (za Hpl).trans (za Hpo)
     have d1s := zC (n := 1) (by omega)
     clear hsn hvn
     go_wp2_with fail
     rw [← d1]
     clear d1
     refine (zJ false vx 1 _ (by omega) (by omega)).mono ?_
     rintro e w4 ⟨rfl, hb4'⟩
     have hn4 := zp hb0 hzz hb4'
     have c0 := zb hn4.1 0
     have c1 := zb hn4.1 1
     have c2 := zb hn4.1 2
     have f0 := zc hn4.1 0
     have f1 := zc hn4.1 1
     have f2 := zc hn4.1 2
     have hbX := zj hn4.1
     simp at c0 c1 c2
     clear hb3 hb0 hb4' hn4
     generalize zo false vx 1 = o at *
     unfold zd
     obtain ⟨n3, u3, d3, ho⟩ : ∃ n3 u3 d3, numO o = numV n3 u3 d3 := by
      cases o with
      | none => exact ⟨_, _, _, rfl⟩
      | some p => exact ⟨_, _, _, rfl⟩
     have Ho := hide ho
     rw [ho]
     unfold numV
     clear ho
     go_wp2
     refine bodyPost_ret (v := zd o) (by simp [results, Tryd.results62, go_sem, zd, za Ho, numV, c0, c1, c2]) rfl ⟨by rw [za Hov2], ?_⟩
     exact zg hbX _ (Nat.le_refl _) _ _ _
   ·clear hpt
    go_wp2_with fail
    refine (qb t b _ (by omega) (by omega) (by omega)).mono ?_
    rintro e w3 ⟨rfl, hb3⟩
    unfold zU
    have hb0 := zf hb3
    have hzz : w.heap.size + 1 ≤ w3.heap.size := by have := hb3.size; simpa using this
    generalize natV b t = vx at *
    generalize okN b t = ox at *
    cases ox with
    | false =>
     have c0 := zb hb0 0
     have c1 := zb hb0 1
     have c2 := zb hb0 2
     have f0 := zc hb0 0
     have f1 := zc hb0 1
     have f2 := zc hb0 2
     have hbX := zj hb0
     simp at c0 c1 c2
     clear hb3 hb0 hsn hvn d1
     go_wp2
     refine bodyPost_ret (v := zd none) (by simp [results, Tryd.results62, go_sem, zd, numO, noNum, numV, c0, c1, c2]) rfl ⟨by rw [za Hpl, za Hpo]; rfl, ?_⟩
     exact zg hbX _ (Nat.le_refl _) _ _ _
    | true =>
     have h1 := hsn rfl
     rw [← hvn rfl] at h1
     have Hov2 : Hid (zl l (b : Int) = zo false vx 1) := by rw [hvn rfl]; exact (za Hpl).trans (za Hpo)
     have d1s := zC (n := 1) (by omega)
     clear hsn hvn
     go_wp2_with fail
     rw [← d1]
     clear d1
     refine (zJ false vx 1 _ (by omega) (by omega)).mono ?_
     rintro e w4 ⟨rfl, hb4'⟩
     have hn4 := zp hb0 hzz hb4'
     have c0 := zb hn4.1 0
     have c1 := zb hn4.1 1
     have c2 := zb hn4.1 2
     have f0 := zc hn4.1 0
     have f1 := zc hn4.1 1
     have f2 := zc hn4.1 2
     have hbX := zj hn4.1
     simp at c0 c1 c2
     clear hb3 hb0 hb4' hn4
     generalize zo false vx 1 = o at *
     unfold zd
     obtain ⟨n3, u3, d3, ho⟩ : ∃ n3 u3 d3, numO o = numV n3 u3 d3 := by
      cases o with
      | none => exact ⟨_, _, _, rfl⟩
      | some p => exact ⟨_, _, _, rfl⟩
     have Ho := hide ho
     rw [ho]
     unfold numV
     clear ho
     go_wp2
     refine bodyPost_ret (v := zd o) (by simp [results, Tryd.results62, go_sem, zd, za Ho, numV, c0, c1, c2]) rfl ⟨by rw [za Hov2], ?_⟩
     exact zg hbX _ (Nat.le_refl _) _ _ _
theorem js (t : List UInt8) (b : Nat) (w : World) (hb4 : b = 2 ∨ b = 8 ∨ b = 10 ∨ b = 16) (c : UInt8) (hc : c ≠ 45) (hc2 : c ≠ 43) (hlen : (c :: t).length ≤ 240) :
  Calls Tryd.prog 62 #[.string (B (c :: t)), .int .i64 b] w fun e w' => e = .returned (zd (zl (c :: t) b)) ∧ Below w.heap.size w w' := by
 obtain ⟨l, hl⟩ : ∃ l : List UInt8, l = c :: t := ⟨_, rfl⟩
 rw [← hl]
 have hr : zv (b : Int) = true := by rcases hb4 with rfl | rfl | rfl | rfl <;> rfl
 have hl2 : l.length ≤ 240 := by rw [hl]; exact hlen
 have htl : t.length ≤ 240 := by simp at hlen; omega
 have hpos : 0 < (B l).size := by rw [ze, hl]; simp
 have hposI : (0 : Int) < ((B l).size : Int) := by omega
 have hsz : (B l).size ≤ 240 := by rw [ze]; exact hl2
 have hc0 : ((B l)[0]'hpos).toNat = c.toNat := by rw [B_get]; simp [hl]
 have hcut : (B l).extract 1 (B l).size = B t := by rw [zK, ze, List.take_length, hl]; rfl
 have Hm : Hid (zl l (b : Int) = bodyM false b l) := by show _ = _; rw [jh l b hb4 hl2, hl]; simp [signB, hc, hc2]
 have hq : ((((B l)[0]'hpos).toNat : Int) == 45) = false := by
  rw [hc0, beq_eq_false_iff_ne]; intro hh; apply hc; apply UInt8.toNat_inj.1; simp only [UInt8.toNat_ofNat]; omega
 have hq2 : ((((B l)[0]'hpos).toNat : Int) == 43) = false := by
  rw [hc0, beq_eq_false_iff_ne]; intro hh; apply hc2; apply UInt8.toNat_inj.1; simp only [UInt8.toNat_ofNat]; omega
 clear hl hc hc2 hc0 hlen hcut
 go_enter Tryd.func62, Tryd.ntmps62
 go_wp2_with fail
 refine (zX b _).mono ?_
 rintro e w1 ⟨rfl, rfl⟩
 rw [hr]
 go_wp2_with fail
 refine (zW l 47 47 rfl _ (by omega)).mono ?_
 rintro e w1 ⟨rfl, rfl⟩
 cases hf : findB 47 l with
 | some k =>
  have hfi : findI 47 l = (k : Int) := by unfold findI; rw [hf]
  have hk := qq hf
  have Hov2 : Hid (zl l (b : Int) = overM false b ((l).take k) ((l).drop (k + 1))) := by
   show _ = _
   rw [za Hm]; unfold bodyM; rw [hf]
  rw [hfi]
  clear hfi hf
  go_wp2_with fail
  refine (jp false l k b _ hk (by omega) (by omega) (by omega)).mono ?_
  rintro e w2 ⟨rfl, hb2⟩
  have hb0 := zf hb2
  have c0 := zb hb0 0
  have c1 := zb hb0 1
  have c2 := zb hb0 2
  have f0 := zc hb0 0
  have f1 := zc hb0 1
  have f2 := zc hb0 2
  have hbX := zj hb0
  simp at c0 c1 c2
  clear hb2 hb0
  generalize overM false b ((l).take k) ((l).drop (k + 1)) = o at *
  unfold zd
  obtain ⟨n3, u3, d3, ho⟩ : ∃ n3 u3 d3, numO o = numV n3 u3 d3 := by
   cases o with
   | none => exact ⟨_, _, _, rfl⟩
   | some p => exact ⟨_, _, _, rfl⟩
  have Ho := hide ho
  rw [ho]
  unfold numV
  clear ho
  go_wp2
  refine bodyPost_ret (v := zd o) (by simp [results, Tryd.results62, go_sem, zd, za Ho, numV, c0, c1, c2]) rfl ⟨by rw [za Hov2], ?_⟩
  exact zg hbX _ (Nat.le_refl _) _ _ _
 | none =>
  have hfi : findI 47 l = -1 := by unfold findI; rw [hf]
  rw [hfi]
  clear hfi
  go_wp2_with fail
  refine (zW l 46 46 rfl _ (by omega)).mono ?_
  rintro e w2 ⟨rfl, rfl⟩
  have Hf := hide hf
  clear hf
  by_cases hpt : b = 10 ∧ ∃ k, findB 46 l = some k
  ·obtain ⟨hb10, k, hfk⟩ := hpt
   have hfi : findI 46 l = (k : Int) := by unfold findI; rw [hfk]
   have hk := qq hfk
   have Hov2 : Hid (zl l (b : Int) = qm false ((l).take k) ((l).drop (k + 1))) := by
    show _ = _
    rw [za Hm]; unfold bodyM; rw [za Hf]
    simp only [hfk]
    rw [if_pos hb10]
   rw [hfi]
   have hbq : ((b : Int) == 10) = true := by rw [beq_iff_eq]; omega
   clear hfi hfk hb10
   go_wp2_with fail
   refine (jg false l k _ hk (by omega)).mono ?_
   rintro e w3 ⟨rfl, hb3⟩
   have hb0 := zf hb3
   have c0 := zb hb0 0
   have c1 := zb hb0 1
   have c2 := zb hb0 2
   have f0 := zc hb0 0
   have f1 := zc hb0 1
   have f2 := zc hb0 2
   have hbX := zj hb0
   simp at c0 c1 c2
   clear hb3 hb0
   generalize qm false ((l).take k) ((l).drop (k + 1)) = o at *
   unfold zd
   obtain ⟨n3, u3, d3, ho⟩ : ∃ n3 u3 d3, numO o = numV n3 u3 d3 := by
    cases o with
    | none => exact ⟨_, _, _, rfl⟩
    | some p => exact ⟨_, _, _, rfl⟩
   have Ho := hide ho
   rw [ho]
   unfold numV
   clear ho
   go_wp2
   refine bodyPost_ret (v := zd o) (by simp [results, Tryd.results62, go_sem, zd, za Ho, numV, c0, c1, c2]) rfl ⟨by rw [za Hov2], ?_⟩
   exact zg hbX _ (Nat.le_refl _) _ _ _
  ·have Hpl : Hid (zl l (b : Int) = qv false b l) := by
    show _ = _
    rw [za Hm]; unfold bodyM; rw [za Hf]
    cases hfk : findB 46 l with
    | none => rfl
    | some k =>
     simp only
     rw [if_neg (fun h => hpt ⟨h, k, hfk⟩)]
   have hsn := fun h => qw (b := b) (l := l) (by omega) h
   have hvn : okN b l = true → natV b l = rdN b l := fun h => by unfold natV; rw [if_pos h]
   have Hpo : Hid (qv false b l = if okN b l then zo false (rdN b l) 1 else none) := hide rfl
   have d1 : dec 1 = ⟨#[49]⟩ := je
   by_cases hfz : 0 ≤ findI 46 l
   ·have hbq : ((b : Int) == 10) = false := by
     rw [beq_eq_false_iff_ne]
     intro hh
     apply hpt
     refine ⟨by omega, ?_⟩
     unfold findI at hfz
     cases hfk : findB 46 l with
     | none => rw [hfk] at hfz; simp at hfz
     | some k => exact ⟨k, rfl⟩
    clear hpt
    go_wp2_with fail
    refine (qb l b _ (by omega) (by omega) (by omega)).mono ?_
    rintro e w3 ⟨rfl, hb3⟩
    unfold zU
    have hb0 := zf hb3
    have hzz : w.heap.size + 1 ≤ w3.heap.size := by have := hb3.size; simpa using this
    generalize natV b l = vx at *
    generalize okN b l = ox at *
    cases ox with
    | false =>
     have c0 := zb hb0 0
     have c1 := zb hb0 1
     have c2 := zb hb0 2
     have f0 := zc hb0 0
     have f1 := zc hb0 1
     have f2 := zc hb0 2
     have hbX := zj hb0
     simp at c0 c1 c2
     clear hb3 hb0 hsn hvn d1
     go_wp2
     refine bodyPost_ret (v := zd none) (by simp [results, Tryd.results62, go_sem, zd, numO, noNum, numV, c0, c1, c2]) rfl ⟨by rw [za Hpl, za Hpo]; rfl, ?_⟩
     exact zg hbX _ (Nat.le_refl _) _ _ _
    | true =>
     have h1 := hsn rfl
     rw [← hvn rfl] at h1
     have Hov2 : Hid (zl l (b : Int) = zo false vx 1) := by rw [hvn rfl]; exact (za Hpl).trans (za Hpo)
     have d1s := zC (n := 1) (by omega)
     clear hsn hvn
     go_wp2_with fail
     rw [← d1]
     clear d1
     refine (zJ false vx 1 _ (by omega) (by omega)).mono ?_
     rintro e w4 ⟨rfl, hb4'⟩
     have hn4 := zp hb0 hzz hb4'
     have c0 := zb hn4.1 0
     have c1 := zb hn4.1 1
     have c2 := zb hn4.1 2
     have f0 := zc hn4.1 0
     have f1 := zc hn4.1 1
     have f2 := zc hn4.1 2
     have hbX := zj hn4.1
     simp at c0 c1 c2
     clear hb3 hb0 hb4' hn4
     generalize zo false vx 1 = o at *
     unfold zd
     obtain ⟨n3, u3, d3, ho⟩ : ∃ n3 u3 d3, numO o = numV n3 u3 d3 := by
      cases o with
      | none => exact ⟨_, _, _, rfl⟩
      | some p => exact ⟨_, _, _, rfl⟩
     have Ho := hide ho
     rw [ho]
     unfold numV
     clear ho
     go_wp2
     refine bodyPost_ret (v := zd o) (by simp [results, Tryd.results62, go_sem, zd, za Ho, numV, c0, c1, c2]) rfl ⟨by rw [za Hov2], ?_⟩
     exact zg hbX _ (Nat.le_refl _) _ _ _
   ·clear hpt
    go_wp2_with fail
    refine (qb l b _ (by omega) (by omega) (by omega)).mono ?_
    rintro e w3 ⟨rfl, hb3⟩
    unfold zU
    have hb0 := zf hb3
    have hzz : w.heap.size + 1 ≤ w3.heap.size := by have := hb3.size; simpa using this
    generalize natV b l = vx at *
    generalize okN b l = ox at *
    cases ox with
    | false =>
     have c0 := zb hb0 0
     have c1 := zb hb0 1
     have c2 := zb hb0 2
     have f0 := zc hb0 0
     have f1 := zc hb0 1
     have f2 := zc hb0 2
     have hbX := zj hb0
     simp at c0 c1 c2
     clear hb3 hb0 hsn hvn d1
     go_wp2
     refine bodyPost_ret (v := zd none) (by simp [results, Tryd.results62, go_sem, zd, numO, noNum, numV, c0, c1, c2]) rfl ⟨by rw [za Hpl, za Hpo]; rfl, ?_⟩
     exact zg hbX _ (Nat.le_refl _) _ _ _
    | true =>
     have h1 := hsn rfl
     rw [← hvn rfl] at h1
     have Hov2 : Hid (zl l (b : Int) = zo false vx 1) := by rw [hvn rfl]; exact (za Hpl).trans (za Hpo)
     have d1s := zC (n := 1) (by omega)
     clear hsn hvn
     go_wp2_with fail
     rw [← d1]
     clear d1
     refine (zJ false vx 1 _ (by omega) (by omega)).mono ?_
     rintro e w4 ⟨rfl, hb4'⟩
     have hn4 := zp hb0 hzz hb4'
     have c0 := zb hn4.1 0
     have c1 := zb hn4.1 1
     have c2 := zb hn4.1 2
     have f0 := zc hn4.1 0
     have f1 := zc hn4.1 1
     have f2 := zc hn4.1 2
     have hbX := zj hn4.1
     simp at c0 c1 c2
     clear hb3 hb0 hb4' hn4
     generalize zo false vx 1 = o at *
     unfold zd
     obtain ⟨n3, u3, d3, ho⟩ : ∃ n3 u3 d3, numO o = numV n3 u3 d3 := by
      cases o with
      | none => exact ⟨_, _, _, rfl⟩
      | some p => exact ⟨_, _, _, rfl⟩
     have Ho := hide ho
     rw [ho]
     unfold numV
     clear ho
     go_wp2
     refine bodyPost_ret (v := zd o) (by simp [results, Tryd.results62, go_sem, zd, za Ho, numV, c0, c1, c2]) rfl ⟨by rw [za Hov2], ?_⟩
     exact zg hbX _ (Nat.le_refl _) _ _ _
theorem qx (l : List UInt8) (r : Int) (w : World) (hs : l.length ≤ 1000000000) :
  Calls Tryd.prog 62 #[.string (B l), .int .i64 r] w fun e w' => e = .returned (zd (zl l r)) ∧ Below w.heap.size w w' := by
 by_cases h : zv r = false ∨ 240 < l.length
 ·exact jP l r w hs h
 ·have hr : zv r = true := by cases hh : zv r with
   | true => rfl
   | false => exact absurd (.inl hh) h
  obtain ⟨b, rfl, hb4⟩ := qW hr
  have hl : l.length ≤ 240 := by
   rcases Nat.lt_or_ge 240 l.length with h1 | h1
   ·exact absurd (.inr h1) h
   ·exact h1
  cases l with
  | nil => exact jt b w hb4
  | cons c t =>
   by_cases h1 : c = 45
   ·exact jl t b w hb4 c h1 hl
   ·by_cases h2 : c = 43
    ·exact ju t b w hb4 c h2 hl
    ·exact js t b w hb4 c h1 h2 hl
def okM (neg : Bool) (u d : List UInt8) : Bool :=
 decide (u.length ≤ 60) && decide (d.length ≤ 60) && isDec u && isDec d && decide (zn d ≠ 0) && !(neg && decide (zn u = 0)) && decide (Nat.gcd (zn u) (zn d) = 1)
def numB (neg : Bool) (u d : List UInt8) : Value := .agg #[.bool neg, .string (B u), .string (B d)]
theorem kH (n : Nat) : ((dec n).toList == [49]) = decide (n = 1) := by
 have := jS n 1
 rwa [show (dec 1).toList = [49] from by rw [je]; exact B_tl [49]] at this
theorem jO (neg : Bool) (u d : List UInt8) (w : World) (hsu : u.length ≤ 1000000000) (hsd : d.length ≤ 1000000000) :
  Calls Tryd.prog 57 #[numB neg u d] w fun e w' => e = .returned (.bool (okM neg u d)) ∧ Below w.heap.size w w' := by
 unfold numB
 have hzu : (B u).size = u.length := ze u
 have hzd : (B d).size = d.length := ze d
 by_cases h1 : u.length ≤ 60
 ·by_cases h2 : d.length ≤ 60
  ·by_cases h3 : isDec u = true
   ·by_cases h4 : isDec d = true
    ·have eu := ql h3
     have ed := ql h4
     have Hok : Hid (okM neg u d = (decide (zn d ≠ 0) && !(neg && decide (zn u = 0)) && decide (Nat.gcd (zn u) (zn d) = 1))) := by
      show _ = _; unfold okM; rw [decide_eq_true h1, decide_eq_true h2, h3, h4]; simp
     have Bu : B u = dec (zn u) := by unfold dec txt; rw [← eu]
     have Bd : B d = dec (zn d) := by unfold dec txt; rw [← ed]
     have h3d := @z7 u
     have h4d := @z7 d
     rw [h3] at h3d
     rw [h4] at h4d
     rw [Bu] at h3d hzu
     rw [Bd] at h4d hzd
     rw [Bu, Bd]
     have H3 := hide h3d
     have H4 := hide h4d
     generalize zn u = a at *
     generalize zn d = b at *
     have hau : (dec a).size ≤ 60 := by omega
     have hbd : (dec b).size ≤ 60 := by omega
     have ha0 := jm a
     have hb0 := jm b
     clear h3d h4d eu ed Bu Bd h3 h4
     by_cases hb : b = 0
     ·rw [decide_eq_true hb] at hb0
      have Hok : Hid (okM neg u d = false) := by show _ = _; rw [za Hok]; simp [hb]
      clear hb
      go_enter Tryd.func57, Tryd.ntmps57
      go_wp2_with fail
      refine (za H3 _ (by omega)).mono ?_
      rintro e w1 ⟨rfl, rfl⟩
      go_wp2_with fail
      refine (za H4 _ (by omega)).mono ?_
      rintro e w1 ⟨rfl, rfl⟩
      go_wp2
      go_ret
      exact ⟨zr (za Hok).symm, (Below.refl _ _).alloc (Nat.le_refl _) _⟩
     ·rw [decide_eq_false hb] at hb0
      by_cases hn : neg = true ∧ a = 0
      ·obtain ⟨hn1, ha⟩ := hn
       rw [decide_eq_true ha] at ha0
       subst hn1
       have Hok : Hid (okM true u d = false) := by show _ = _; rw [za Hok]; simp [ha]
       clear hb ha
       go_enter Tryd.func57, Tryd.ntmps57
       go_wp2_with fail
       refine (za H3 _ (by omega)).mono ?_
       rintro e w1 ⟨rfl, rfl⟩
       go_wp2_with fail
       refine (za H4 _ (by omega)).mono ?_
       rintro e w1 ⟨rfl, rfl⟩
       go_wp2
       go_ret
       exact ⟨zr (za Hok).symm, (Below.refl _ _).alloc (Nat.le_refl _) _⟩
      ·have Hok : Hid (okM neg u d = decide (Nat.gcd a b = 1)) := by
        show _ = _; rw [za Hok]
        cases neg
        ·simp [hb]
        ·simp at hn; simp [hb, hn]
       have hg1 := kH (Nat.gcd a b)
       have hcase : neg = false ∨ (neg = true ∧ a ≠ 0) := by cases neg <;> simp_all
       rcases hcase with rfl | ⟨rfl, ha⟩
       ·clear hn hb
        go_enter Tryd.func57, Tryd.ntmps57
        go_wp2_with fail
        refine (za H3 _ (by omega)).mono ?_
        rintro e w1 ⟨rfl, rfl⟩
        go_wp2_with fail
        refine (za H4 _ (by omega)).mono ?_
        rintro e w1 ⟨rfl, rfl⟩
        go_wp2_with fail
        refine (yj a b _ (by omega) (by omega)).mono ?_
        rintro e w2 ⟨rfl, hb2⟩
        go_wp2
        go_ret
        exact ⟨zr (za Hok).symm, zj (zf hb2)⟩
       ·rw [decide_eq_false ha] at ha0
        clear hn hb ha
        go_enter Tryd.func57, Tryd.ntmps57
        go_wp2_with fail
        refine (za H3 _ (by omega)).mono ?_
        rintro e w1 ⟨rfl, rfl⟩
        go_wp2_with fail
        refine (za H4 _ (by omega)).mono ?_
        rintro e w1 ⟨rfl, rfl⟩
        go_wp2_with fail
        refine (yj a b _ (by omega) (by omega)).mono ?_
        rintro e w2 ⟨rfl, hb2⟩
        go_wp2
        go_ret
        exact ⟨zr (za Hok).symm, zj (zf hb2)⟩
    ·have h4' : isDec d = false := by simpa using h4
     have Hok : Hid (okM neg u d = false) := by show _ = _; unfold okM; rw [h4']; simp
     have h3d := @z7 u
     have h4d := @z7 d
     rw [h3] at h3d
     rw [h4'] at h4d
     have H3 := hide h3d
     have H4 := hide h4d
     clear h3d h4d h3 h4 h4'
     go_enter Tryd.func57, Tryd.ntmps57
     go_wp2_with fail
     refine (za H3 _ (by omega)).mono ?_
     rintro e w1 ⟨rfl, rfl⟩
     go_wp2_with fail
     refine (za H4 _ (by omega)).mono ?_
     rintro e w1 ⟨rfl, rfl⟩
     go_wp2
     go_ret
     exact ⟨zr (za Hok).symm, (Below.refl _ _).alloc (Nat.le_refl _) _⟩
   ·have h3' : isDec u = false := by simpa using h3
    have Hok : Hid (okM neg u d = false) := by show _ = _; unfold okM; rw [h3']; simp
    have h3d := @z7 u
    rw [h3'] at h3d
    have H3 := hide h3d
    clear h3d h3 h3'
    go_enter Tryd.func57, Tryd.ntmps57
    go_wp2_with fail
    refine (za H3 _ (by omega)).mono ?_
    rintro e w1 ⟨rfl, rfl⟩
    go_wp2
    go_ret
    exact ⟨zr (za Hok).symm, (Below.refl _ _).alloc (Nat.le_refl _) _⟩
  ·have Hok : Hid (okM neg u d = false) := by show _ = _; unfold okM; simp [h2]
   go_enter Tryd.func57, Tryd.ntmps57
   go_wp2
   go_ret
   exact ⟨zr (za Hok).symm, (Below.refl _ _).alloc (Nat.le_refl _) _⟩
 ·have Hok : Hid (okM neg u d = false) := by show _ = _; unfold okM; simp [h1]
  go_enter Tryd.func57, Tryd.ntmps57
  go_wp2
  go_ret
  exact ⟨zr (za Hok).symm, (Below.refl _ _).alloc (Nat.le_refl _) _⟩
end Go.Proofs.YtnenoaenjaghhaaDoor
