/- A part of the proof, put together out of smaller texts. -/
import Derived.Test.YtnenoaenjaghhaaDoorM2
import Derived.Deep.RegionHeld
import Derived.Deep.RegionLaw
import Derived.Deep.CutRange
import Derived.Deep.RegionHeldLaw
import Derived.Deep.AppendLies
import Derived.Handy
import Derived.Deep.RegionWith
import Derived.Maps.AppendAt
set_option linter.all false
set_option maxRecDepth 100000
set_option maxHeartbeats 16000000
namespace Go.Proofs.YtnenoaenjaghhaaDoor
open Go.RowKit Nt
def prM (neg : Bool) (a d b : Nat) : List UInt8 := (if neg then [45] else []) ++ txl b a ++ (if d = 1 then [] else 47 :: txl b d)
def zS (neg : Bool) (u d : List UInt8) (r : Int) : List UInt8 := if okM neg u d && zv r then prM neg (zn u) (zn d) r.toNat else []
theorem qZ {neg : Bool} {u d : List UInt8} (h : okM neg u d = true) : isDec u = true ∧ isDec d = true ∧ u.length ≤ 60 ∧ d.length ≤ 60 ∧ zn d ≠ 0 ∧ (neg = true → zn u ≠ 0) ∧ Nat.gcd (zn u) (zn d) = 1 := by
 unfold okM at h
 simp only [Bool.and_eq_true, decide_eq_true_eq, Bool.not_eq_true', Bool.and_eq_false_iff, decide_eq_false_iff_not] at h
 obtain ⟨⟨⟨⟨⟨⟨h1, h2⟩, h3⟩, h4⟩, h5⟩, h6⟩, h7⟩ := h
 exact ⟨h3, h4, h1, h2, h5, fun hn => by rcases h6 with h6 | h6; rw [hn] at h6; cases h6; exact h6, h7⟩
theorem jy {b n : Nat} (hb2 : 2 ≤ b) (h : (dec n).size ≤ 60) : (txt b n).size ≤ 240 := by
 unfold txt; rw [ze]
 apply zw hb2 (by omega)
 have h1 := zT n
 have h2 : (10 : Nat) ^ (dec n).size ≤ 16 ^ 60 := Nat.le_trans (Nat.pow_le_pow_left (by omega) _) (Nat.pow_le_pow_right (by omega) h)
 have h3 : (16 : Nat) ^ 60 = 2 ^ 240 := by rw [show (16 : Nat) = 2 ^ 4 from rfl, ← Nat.pow_mul]
 have h4 : (2 : Nat) ^ 240 ≤ b ^ 240 := Nat.pow_le_pow_left hb2 _
 omega
theorem jQ (neg : Bool) (u d : List UInt8) (r : Int) (w : World) (hsu : u.length ≤ 1000000000) (hsd : d.length ≤ 1000000000) (h : (okM neg u d && zv r) = false) :
  Calls Tryd.prog 43 #[numB neg u d, .int .i64 r] w fun e w' => e = .returned (.string (B (zS neg u d r))) ∧ Below w.heap.size w w' := by
 have Hf : Hid (B (zS neg u d r) = ⟨#[]⟩) := by show _ = _; unfold zS; rw [h]; rfl
 have h1 := fun w => jO neg u d w hsu hsd
 have H1 := hide h1
 clear h1
 unfold numB at *
 cases hok : okM neg u d with
 | false =>
  rw [hok] at H1
  clear h hok
  go_enter Tryd.func43, Tryd.ntmps43
  go_wp2_with fail
  refine (za H1 _).mono ?_
  rintro e w1 ⟨rfl, hb1⟩
  have hb0 := zf hb1
  have hz0 : w.heap.size + 1 ≤ w1.heap.size := by have := hb1.size; simpa using this
  have c0 := zb hb0 0
  have c1 := zb hb0 1
  have c2 := zb hb0 2
  simp at c0 c1 c2
  go_wp2
  go_ret
  exact ⟨zB (za Hf).symm, zj hb0⟩
 | true =>
  rw [hok] at H1 h
  have hr : zv r = false := by simpa using h
  clear h hok
  go_enter Tryd.func43, Tryd.ntmps43
  go_wp2_with fail
  refine (za H1 _).mono ?_
  rintro e w1 ⟨rfl, hb1⟩
  have hb0 := zf hb1
  have hz0 : w.heap.size + 1 ≤ w1.heap.size := by have := hb1.size; simpa using this
  have c0 := zb hb0 0
  have c1 := zb hb0 1
  have c2 := zb hb0 2
  simp at c0 c1 c2
  go_wp2_with fail
  refine (zX r _).mono ?_
  rintro e w2 ⟨rfl, rfl⟩
  rw [hr]
  go_wp2
  go_ret
  exact ⟨zB (za Hf).symm, zj hb0⟩
theorem jF (neg : Bool) (u d : List UInt8) (b : Nat) (w : World) (hok : okM neg u d = true) (hb4 : b = 2 ∨ b = 8 ∨ b = 10 ∨ b = 16) :
  Calls Tryd.prog 43 #[numB neg u d, .int .i64 b] w fun e w' => e = .returned (.string (B (zS neg u d b))) ∧ Below w.heap.size w w' := by
 have hr : zv (b : Int) = true := by rcases hb4 with rfl | rfl | rfl | rfl <;> rfl
 obtain ⟨h3, h4, hu, hd, hd0, hn0, _⟩ := qZ hok
 have h1 := fun w => jO neg u d w (by omega) (by omega)
 rw [hok] at h1
 have Hf : Hid (zS neg u d b = prM neg (zn u) (zn d) b) := by show _ = _; unfold zS; rw [hok, hr]; simp
 have Bu : B u = dec (zn u) := by unfold dec txt; rw [← ql h3]
 have Bd : B d = dec (zn d) := by unfold dec txt; rw [← ql h4]
 have hau := ze u
 have had := ze d
 unfold numB at *
 rw [Bu, Bd] at h1
 rw [Bu] at hau
 rw [Bd] at had
 rw [Bu, Bd]
 generalize zn u = a at *
 generalize zn d = q at *
 have hau60 : (dec a).size ≤ 60 := by omega
 have had60 : (dec q).size ≤ 60 := by omega
 have hq1 := kH q
 have hta := jy (b := b) (by omega) hau60
 have htq := jy (b := b) (by omega) had60
 have hta' : (txl b a).length ≤ 240 := by unfold txt at hta; rwa [ze] at hta
 have htq' : (txl b q).length ≤ 240 := by unfold txt at htq; rwa [ze] at htq
 have H1 := hide h1
 clear h1 Bu Bd h3 h4 hok hau had hn0
 go_enter Tryd.func43, Tryd.ntmps43
 go_wp2_with fail
 refine (za H1 _).mono ?_
 rintro e w1 ⟨rfl, hb1⟩
 have hb0 := zf hb1
 have hz0 : w.heap.size + 1 ≤ w1.heap.size := by have := hb1.size; simpa using this
 have c0 := zb hb0 0
 have c1 := zb hb0 1
 have c2 := zb hb0 2
 simp at c0 c1 c2
 go_wp2_with fail
 refine (zX b _).mono ?_
 rintro e w2 ⟨rfl, rfl⟩
 rw [hr]
 go_wp2_with fail
 refine (yl a b _ (by omega) (by omega) (by omega) (by omega)).mono ?_
 rintro e w3 ⟨rfl, hb3⟩
 have hn3 := zp hb0 hz0 hb3
 clear c0 c1 c2 hb1 hb0 hz0 hb3
 have c0 := zb hn3.1 0
 have c1 := zb hn3.1 1
 have c2 := zb hn3.1 2
 simp at c0 c1 c2
 by_cases hone : q = 1
 ·rw [decide_eq_true hone] at hq1
  cases neg with
  | false =>
   have Hf2 : Hid (B (zS false u d b) = txt b a) := by show _ = _; rw [za Hf]; simp [prM, hone, txt]
   clear hone
   go_wp2
   go_ret
   exact ⟨zB (za Hf2).symm, zj hn3.1⟩
  | true =>
   have Hf2 : Hid (B (zS true u d b) = ⟨#[45]⟩ ++ txt b a) := by
    show _ = _; rw [za Hf, show (⟨#[45]⟩ : ByteArray) = B [45] from rfl]; unfold txt; rw [zE]; simp [prM, hone]
   have hns : ¬ 9223372036854775807 < 1 + (txt b a).size := by omega
   clear hone
   go_wp2
   go_ret
   exact ⟨zB (za Hf2).symm, zj hn3.1⟩
 ·rw [decide_eq_false hone] at hq1
  cases neg with
  | false =>
   have Hf2 : Hid (B (zS false u d b) = (txt b a ++ ⟨#[47]⟩) ++ txt b q) := by
    show _ = _; rw [za Hf, show (⟨#[47]⟩ : ByteArray) = B [47] from rfl]; unfold txt; rw [zE, zE]; simp [prM, hone]
   clear hone
   go_wp2_with fail
   refine (yl q b _ (by omega) (by omega) (by omega) (by omega)).mono ?_
   rintro e w4 ⟨rfl, hb4'⟩
   have hn4 := zp hn3.1 hn3.2 hb4'
   go_wp2
   go_ret
   exact ⟨zB (za Hf2).symm, zj hn4.1⟩
  | true =>
   have Hf2 : Hid (B (zS true u d b) = ((⟨#[45]⟩ ++ txt b a) ++ ⟨#[47]⟩) ++ txt b q) := by
    show _ = _; rw [za Hf, show (⟨#[47]⟩ : ByteArray) = B [47] from rfl, show (⟨#[45]⟩ : ByteArray) = B [45] from rfl]; unfold txt; rw [zE, zE, zE]; simp [prM, hone]
   have hns : ¬ 9223372036854775807 < 1 + (txt b a).size := by omega
   clear hone
   go_wp2_with fail
   refine (yl q b _ (by omega) (by omega) (by omega) (by omega)).mono ?_
   rintro e w4 ⟨rfl, hb4'⟩
   have hn4 := zp hn3.1 hn3.2 hb4'
   go_wp2
   go_ret
   exact ⟨zB (za Hf2).symm, zj hn4.1⟩
theorem q9 (neg : Bool) (u d : List UInt8) (r : Int) (w : World) (hsu : u.length ≤ 1000000000) (hsd : d.length ≤ 1000000000) :
  Calls Tryd.prog 43 #[numB neg u d, .int .i64 r] w fun e w' => e = .returned (.string (B (zS neg u d r))) ∧ Below w.heap.size w w' := by
 cases h : okM neg u d && zv r with
 | false => exact jQ neg u d r w hsu hsd h
 | true =>
  simp only [Bool.and_eq_true] at h
  obtain ⟨b, rfl, hb4⟩ := qW h.2
  exact jF neg u d b w h.1 hb4
end Go.Proofs.YtnenoaenjaghhaaDoor
namespace Go.Proofs.YtnenoaenjaghhaaDoor
open Nt
def endN (c : Nat) : Bool := c == 32 || c == 9 || c == 10 || c == 13 || c == 40 || c == 41 || c == 34 || c == 59 || c == 39
def badN (c : Nat) : Bool := endN c || decide (c < 33) || c == 127 || c == 92 || c == 124
def headN (c : Nat) : Bool := c == 35 || c == 44 || c == 96 || (decide (48 ≤ c) && decide (c ≤ 57))
def wordM (t : List UInt8) : Bool := match t with
 | [] => false
 | c :: _ => !headN c.toNat && decide (t.length ≤ 200) && Lib.validD t && t.all fun c => !badN c.toNat
def symM (t : List UInt8) : Bool := (zl t 10).isNone && decide (t ≠ [46]) && wordM t
def yp (p : Bool × Nat × Nat) : List UInt8 := zS p.1 (txl 10 p.2.1) (txl 10 p.2.2) 10
def jq (t : List UInt8) : Bool := match zl t 10 with
 | some p => decide (yp p = t)
 | none => false
def textM (s : Int) (t : List UInt8) : Bool :=
 if s = 1 then jq t else if s = 2 then symM t else if s = 3 then decide (t.length ≤ 200) && Lib.validD t else if s = 4 then oneM t
 else if s = 5 then decide (t = [116]) || decide (t = [102]) else if s = 9 then decide (t.length ≤ 200) else decide (t = [])
end Go.Proofs.YtnenoaenjaghhaaDoor
namespace Go.Proofs.YtnenoaenjaghhaaDoor
open Go.RowKit Nt
def ndOk (n : Nat) (nd : Nd) : Bool := (decide (1 ≤ nd.1) && decide (nd.1 ≤ 9)) && textM nd.1 nd.2.1 && zA nd n
def q7 (d : Dt) : Bool := decide (d.1.length ≤ 80) && decide (d.2.length ≤ 12)
def okD (d : Dt) : Bool := q7 d && d.1.all (ndOk d.1.length) && d.2.all (inR · d.1.length)
theorem Z9 {n : Nat} {nd : Nd} (h : ndOk n nd = true) : cntOk nd.1 nd.2.2.length = true := by
 unfold ndOk zA at h
 simp only [Bool.and_eq_true] at h
 exact h.2.1
theorem kQ {ns : List Nd} {gs : List Int} (hK : KidsR ns) (hg : GsOk ns.length gs) : ∀ (f : Nat) (a : Int) (o : List Int), 0 ≤ a → a < ns.length → InR ns.length o → ns.length + 1 ≤ f + o.length →
  gAt gs a ∈ walkM ns gs f a o ∧ ∀ x ∈ walkM ns gs f a o, x ∉ o → ∀ k ∈ (ndAt ns x.toNat).2.2, gAt gs k ∈ walkM ns gs f a o
 | 0, a, o, _, _, ho, hf => by have := ho.len; omega
 | f + 1, a, o, h0, h1, ho, hf => by
  unfold walkM
  by_cases hm : gAt gs a ∈ o
  ·rw [if_pos hm]; exact ⟨hm, fun x hx hn => absurd hx hn⟩
  ·rw [if_neg hm]
   have hgr := hg a h0 h1
   have ho1 := ho.snoc hgr hm
   have hf1 : ns.length + 1 ≤ f + (o ++ [gAt gs a]).length := by simp; omega
   have hkr := vV hK hgr.1 hgr.2
   have key : ∀ (ks p : List Int), (∀ x ∈ ks, 0 ≤ x ∧ x < ns.length) → InR ns.length p → ns.length + 1 ≤ f + p.length →
     (∀ x ∈ p, x ∈ ks.foldl (fun o k => walkM ns gs f k o) p) ∧ (∀ k ∈ ks, gAt gs k ∈ ks.foldl (fun o k => walkM ns gs f k o) p) ∧
     ∀ x ∈ ks.foldl (fun o k => walkM ns gs f k o) p, x ∉ p → ∀ k ∈ (ndAt ns x.toNat).2.2, gAt gs k ∈ ks.foldl (fun o k => walkM ns gs f k o) p := by
    intro ks
    induction ks with
    | nil => intro p _ _ _; exact ⟨fun x h => h, fun k h => by simp at h, fun x hx hn => absurd hx hn⟩
    | cons c t ih =>
     intro p hr hp hl
     have hc := hr c (by simp)
     obtain ⟨w1, w2, w3⟩ := ja hK hg f c p hc.1 hc.2 hp
     obtain ⟨v1, v2⟩ := kQ hK hg f c p hc.1 hc.2 hp hl
     obtain ⟨i1, i2, i3⟩ := ih (walkM ns gs f c p) (fun x hx => hr x (by simp [hx])) w1 (by omega)
     simp only [List.foldl_cons]
     refine ⟨fun x hx => i1 x (w3 x hx), fun k hk' => ?_, fun x hx hn k hk' => ?_⟩
     ·rcases List.mem_cons.1 hk' with rfl | h
      ·exact i1 _ v1
      ·exact i2 k h
     ·by_cases hx2 : x ∈ walkM ns gs f c p
      ·exact i1 _ (v2 x hx2 hn k hk')
      ·exact i3 x hx hx2 k hk'
   obtain ⟨k1, k2, k3⟩ := key _ _ hkr ho1 hf1
   refine ⟨k1 _ (by simp), fun x hx hn k hk' => ?_⟩
   by_cases hx2 : x = gAt gs a
   ·subst hx2; exact k2 k hk'
   ·exact k3 x hx (by simp [hn, hx2]) k hk'
theorem x7 {ns : List Nd} {gs : List Int} (hK : KidsR ns) (hg : GsOk ns.length gs) : ∀ (rs o : List Int), (∀ x ∈ rs, 0 ≤ x ∧ x < ns.length) → InR ns.length o →
  (∀ x ∈ o, x ∈ rs.foldl (fun o k => walkM ns gs (ns.length + 1) k o) o) ∧ (∀ k ∈ rs, gAt gs k ∈ rs.foldl (fun o k => walkM ns gs (ns.length + 1) k o) o) ∧
  ∀ x ∈ rs.foldl (fun o k => walkM ns gs (ns.length + 1) k o) o, x ∉ o → ∀ k ∈ (ndAt ns x.toNat).2.2, gAt gs k ∈ rs.foldl (fun o k => walkM ns gs (ns.length + 1) k o) o
 | [], o, _, _ => ⟨fun x h => h, fun k h => by simp at h, fun x hx hn => absurd hx hn⟩
 | c :: t, p, hr, hp => by
  have hc := hr c (by simp)
  obtain ⟨w1, w2, w3⟩ := ja hK hg (ns.length + 1) c p hc.1 hc.2 hp
  obtain ⟨v1, v2⟩ := kQ hK hg (ns.length + 1) c p hc.1 hc.2 hp (by omega)
  obtain ⟨i1, i2, i3⟩ := x7 hK hg t (walkM ns gs (ns.length + 1) c p) (fun x hx => hr x (by simp [hx])) w1
  simp only [List.foldl_cons]
  refine ⟨fun x hx => i1 x (w3 x hx), fun k hk' => ?_, fun x hx hn k hk' => ?_⟩
  ·rcases List.mem_cons.1 hk' with rfl | h
   ·exact i1 _ v1
   ·exact i2 k h
  ·by_cases hx2 : x ∈ walkM ns gs (ns.length + 1) c p
   ·exact i1 _ (v2 x hx2 hn k hk')
   ·exact i3 x hx hx2 k hk'
theorem vr {o : List Int} {g : Int} (h : g ∈ o) : 0 ≤ zq o g ∧ zq o g < o.length := by
 unfold zq
 cases e : o.findIdx? (· == g) with
 | none =>
  rw [List.findIdx?_eq_none_iff] at e
  have := e g h
  simp at this
 | some i =>
  rw [List.findIdx?_eq_some_iff_getElem] at e
  obtain ⟨hl, _⟩ := e
  dsimp only
  omega
structure NdsOk (ns : List Nd) : Prop where
 kids : ∀ nd ∈ ns, ∀ x ∈ nd.2.2, 0 ≤ x ∧ x < ns.length
 two : ∀ nd ∈ ns, nd.1 = 7 → nd.2.2.length = 2
 few : ∀ nd ∈ ns, nd.2.2.length ≤ 40
 text : ∀ nd ∈ ns, nd.2.1.length ≤ 1048576
 one : ∀ nd ∈ ns, nd.1 = 4 → nd.2.1 ≠ []
theorem xy {s : Int} {t : List UInt8} (h : textM s t = true) (e : s = 4) : t ≠ [] := by
 subst e
 intro e
 subst e
 exact absurd h (by decide)
theorem kF {s : Int} {m : Nat} (h : cntOk s m = true) : m ≤ 40 ∧ (s = 7 → m = 2) := by
 unfold cntOk at h
 split at h
 ·have := of_decide_eq_true h; omega
 ·split at h
  ·have := of_decide_eq_true h; omega
  ·have := of_decide_eq_true h; omega
theorem Z5 {d : Dt} (h : okD d = true) (hs : jb d.1) : NdsOk (minM d).1 ∧ (∀ r ∈ (minM d).2, 0 ≤ r ∧ r < (minM d).1.length) ∧ (minM d).1.length ≤ 80 ∧ (minM d).2.length ≤ 12 := by
 unfold okD at h
 simp only [Bool.and_eq_true] at h
 obtain ⟨⟨hsm, hn⟩, hr⟩ := h
 have hnd := fun nd (hm : nd ∈ d.1) => List.all_eq_true.1 hn nd hm
 have hk1 : d.1.all (zA · d.1.length) = true := List.all_eq_true.2 fun nd hm => by
  have := hnd nd hm
  unfold ndOk at this
  rw [Bool.and_eq_true] at this
  exact this.2
 have hok : minOk d = true := by unfold minOk; rw [hk1, hr]; rfl
 have hK := yH hk1
 have hR : ∀ r ∈ d.2, 0 ≤ r ∧ r < d.1.length := fun r hm => jW.1 (List.all_eq_true.1 hr r hm)
 have ho := ZK hK d.2 hR [] (jo _)
 obtain ⟨_, h2, h3⟩ := x7 hK (yh d.1) d.2 [] hR (jo _)
 have hO : ordM d.1 (grpM d.1) d.2 = d.2.foldl (fun o k => walkM d.1 (grpM d.1) (d.1.length + 1) k o) [] := rfl
 rw [← hO] at ho h2 h3
 unfold minM
 rw [if_pos hok]
 obtain ⟨o, hoe⟩ : ∃ o, ordM d.1 (grpM d.1) d.2 = o := ⟨_, rfl⟩
 rw [hoe] at ho h2 h3 ⊢
 have hget : ∀ nd ∈ o.map (minNd d.1 (grpM d.1) o), ∃ g ∈ o, ∃ x ∈ d.1, ndAt d.1 g.toNat = x ∧ nd = (x.1, x.2.1, x.2.2.map fun k => zq o (gAt (grpM d.1) k)) := by
  intro nd hm
  obtain ⟨g, hg, rfl⟩ := List.mem_map.1 hm
  have hgr := ho.2 g hg
  have hx : d.1[g.toNat]? = some (d.1[g.toNat]'(by omega)) := List.getElem?_eq_getElem _
  refine ⟨g, hg, _, List.getElem_mem _, qr hx, ?_⟩
  unfold minNd
  rw [qr hx]
 have hc : ∀ x ∈ d.1, cntOk x.1 x.2.2.length = true := fun x hx => Z9 (hnd x hx)
 have hsm' : d.1.length ≤ 80 ∧ d.2.length ≤ 12 := by unfold q7 at hsm; simpa using hsm
 refine ⟨⟨?_, ?_, ?_, ?_, ?_⟩, ?_, ?_, ?_⟩
 ·intro nd hm x hx
  obtain ⟨g, hg, y, hy, he, rfl⟩ := hget nd hm
  obtain ⟨k, hk, rfl⟩ := List.mem_map.1 hx
  rw [List.length_map]
  exact vr (h3 g hg (by simp) k (by rw [he]; exact hk))
 ·intro nd hm e
  obtain ⟨g, hg, y, hy, he, rfl⟩ := hget nd hm
  simpa using (kF (hc y hy)).2 e
 ·intro nd hm
  obtain ⟨g, hg, y, hy, he, rfl⟩ := hget nd hm
  simpa using (kF (hc y hy)).1
 ·intro nd hm
  obtain ⟨g, hg, y, hy, he, rfl⟩ := hget nd hm
  exact (hs y hy).1
 ·intro nd hm e
  obtain ⟨g, hg, y, hy, he, rfl⟩ := hget nd hm
  have := hnd y hy
  unfold ndOk at this
  simp only [Bool.and_eq_true] at this
  exact xy this.1.2 e
 ·intro r hm
  obtain ⟨k, hk, rfl⟩ := List.mem_map.1 hm
  rw [List.length_map]
  exact vr (h2 k hk)
 ·rw [List.length_map]; exact Nat.le_trans ho.len hsm'.1
 ·rw [List.length_map]; exact hsm'.2
def nd3 (nd : Nd) (kv : Value) : List Value := [.int .i64 nd.1, .string (B nd.2.1), kv]
def flatN : List Nd → List Value → List Value
 | nd :: ns, kv :: kvs => nd3 nd kv ++ flatN ns kvs
 | _, _ => []
theorem ki {ns : List Nd} {kvs : List Value} {nd : Nd} {kv : Value} (h : ns.length = kvs.length) : flatN (ns ++ [nd]) (kvs ++ [kv]) = flatN ns kvs ++ nd3 nd kv := by
 induction ns generalizing kvs with
 | nil =>
  cases kvs with
  | nil => simp [flatN]
  | cons a b => simp at h
 | cons x r ih =>
  cases kvs with
  | nil => simp at h
  | cons a b =>
   simp only [List.cons_append, flatN]
   rw [ih (by simpa using h), List.append_assoc]
theorem kY {ns : List Nd} {kvs : List Value} {j : Nat} {nd : Nd} {kv : Value} (h1 : ns[j]? = some nd) (h2 : kvs[j]? = some kv) :
  (flatN ns kvs)[j * 3]? = some (.int .i64 nd.1) ∧ (flatN ns kvs)[j * 3 + 1]? = some (.string (B nd.2.1)) ∧ (flatN ns kvs)[j * 3 + 2]? = some kv := by
 induction ns generalizing kvs j with
 | nil => simp at h1
 | cons x r ih =>
  cases kvs with
  | nil => simp at h2
  | cons a b =>
   cases j with
   | zero =>
    simp at h1 h2
    subst h1 h2
    simp [flatN, nd3]
   | succ j =>
    simp only [List.getElem?_cons_succ] at h1 h2
    obtain ⟨c0, c1, c2⟩ := ih h1 h2
    have key : ∀ i, (flatN (x :: r) (a :: b))[(j + 1) * 3 + i]? = (flatN r b)[j * 3 + i]? := by
     intro i
     show (nd3 x a ++ flatN r b)[(j + 1) * 3 + i]? = _
     rw [List.getElem?_append_right (by simp [nd3]; omega)]
     congr 1
     simp [nd3]; omega
    exact ⟨by have := key 0; simp only [Nat.add_zero] at this; rw [this]; exact c0, by rw [key]; exact c1, by rw [key]; exact c2⟩
def RowN (w : World) (base : Nat) (v : Value) (ns : List Nd) (kvs : List Value) : Prop :=
 kvs.length = ns.length ∧ w.ownsRow base 76 3 v ns.length (flatN ns kvs) ∧ ∀ (j : Nat) (nd : Nd) (kv : Value), ns[j]? = some nd → kvs[j]? = some kv → nd.2.1.length ≤ maxLen ∧ w.ownsRow base 3 1 kv nd.2.2.length (iv nd.2.2)
theorem RowN.at {w : World} {base : Nat} {v : Value} {ns : List Nd} {kvs : List Value} (h : RowN w base v ns kvs) : NodesAt w v ns := by
 obtain ⟨hl, hr, hk⟩ := h
 rcases hr.2 with ⟨rfl, h0⟩ | ⟨g, cap, cur, rfl, hb, hg, h1, h2, h3, h4⟩
 ·exact ⟨none, 0, by rw [h0], by omega, by unfold maxLen; omega, fun h => absurd h (by omega)⟩
 ·refine ⟨_, cap, rfl, h1, h2, fun _ => ⟨g, 0, rfl, (Array.getElem?_eq_some_iff.1 hg).1, fun j nd e1 => ?_⟩⟩
  have hj := (List.getElem?_eq_some_iff.1 e1).1
  have e2 : kvs[j]? = some (kvs[j]'(by omega)) := List.getElem?_eq_getElem _
  obtain ⟨f0, f1, f2⟩ := kY e1 e2
  obtain ⟨hl2, ho⟩ := hk j nd _ e1 e2
  refine ⟨?_, ?_, hl2, _, ?_, zz ho⟩
  ·rw [Nat.zero_add, hr.cellAt (j * 3) (by omega)]; exact f0
  ·rw [Nat.zero_add, hr.cellAt (j * 3 + 1) (by omega)]; exact f1
  ·rw [Nat.zero_add, hr.cellAt (j * 3 + 2) (by omega)]; exact f2
theorem RowN.below {w w' : World} {base : Nat} {v : Value} {ns : List Nd} {kvs : List Value} (h : RowN w base v ns kvs) (k : Below w.heap.size w w') : RowN w' base v ns kvs :=
 ⟨h.1, zk h.2.1 k, fun j nd kv e1 e2 => ⟨(h.2.2 j nd kv e1 e2).1, zk (h.2.2 j nd kv e1 e2).2 k⟩⟩
theorem kw {w : World} {b1 b2 s1 s2 n1 n2 : Nat} {e1 e2 : TypeId} {v1 v2 : Value} {x1 x2 : List Value} (h1 : w.ownsRow b1 e1 s1 v1 n1 x1) (h2 : w.ownsRow b2 e2 s2 v2 n2 x2) (hne : e1 ≠ e2) : v1.ownBlock = none ∨ v1.ownBlock ≠ v2.ownBlock := by
 rcases h1.2 with ⟨rfl, _⟩ | ⟨g1, c1, k1, rfl, _, hg1, _⟩
 ·exact .inl rfl
 ·right
  rcases h2.2 with ⟨rfl, _⟩ | ⟨g2, c2, k2, rfl, _, hg2, _⟩
  ·intro e; simp [Value.ownBlock] at e
  ·intro e
   simp [Value.ownBlock] at e
   subst e
   rw [hg1] at hg2
   simp at hg2
   exact hne hg2.2
theorem RowN.push {w w' : World} {base : Nat} {v v' : Value} {ns : List Nd} {kvs : List Value} {nd : Nd} {kv : Value} (h : RowN w base v ns kvs) (ht : nd.2.1.length ≤ maxLen) (ho : w.ownsRow base 3 1 kv nd.2.2.length (iv nd.2.2))
  (hr : w'.ownsRow base 76 3 v' (ns.length + 1) (flatN ns kvs ++ nd3 nd kv)) (hg : w.grownBy w' v.ownBlock) : RowN w' base v' (ns ++ [nd]) (kvs ++ [kv]) := by
 obtain ⟨hl, hrow, hk⟩ := h
 have hne : 3 ≠ 76 := by decide
 refine ⟨by simp [hl], ?_, fun j nd' kv' e1 e2 => ?_⟩
 ·rw [ki hl.symm]; simpa using hr
 ·by_cases hj : j < ns.length
  ·rw [List.getElem?_append_left hj] at e1
   rw [List.getElem?_append_left (by omega)] at e2
   obtain ⟨a1, a2⟩ := hk j nd' kv' e1 e2
   exact ⟨a1, a2.kept hg (kw a2 hrow hne)⟩
  ·have hj2 : j = ns.length := by
    have := (List.getElem?_eq_some_iff.1 e1).1
    simp at this; omega
   subst hj2
   rw [List.getElem?_append_right (Nat.le_refl _)] at e1
   rw [List.getElem?_append_right (by omega), hl] at e2
   simp at e1 e2
   subst e1 e2
   exact ⟨ht, ho.kept hg (kw ho hrow hne)⟩
theorem zR {w : World} {base g i n : Nat} {e : TypeId} {size : Nat} {kv : Value} {xs : List Value} {u : Value} (h : w.ownsRow base e size kv n xs) (hg : kv.ownBlock ≠ some g) :
  (w.setCell ⟨g, i, none⟩ u).ownsRow base e size kv n xs := by
 refine h.kept (row := some g) ⟨rfl, rfl, rfl, by simp, fun k _ hk => ?_⟩ (.inr hg)
 have hk' : k ≠ g := fun e => hk (by rw [e])
 rw [heap_setCell_other _ ⟨g, i, none⟩ k _ hk']
theorem yA {ns : List Nd} {p : Nd → Bool} {j : Nat} {x : Nd} (h : ns[j]? = some x) : (ns.take (j + 1)).all p = ((ns.take j).all p && p x) := by
 rw [List.take_add_one, h]; simp
theorem yP {d : Dt} (h : minOk d = false) : minM d = ([], []) := by unfold minM; rw [h]; rfl
theorem yE (w : World) : DataAt w (.agg #[.slice none 0 0, .slice none 0 0]) ([], []) :=
 ⟨_, _, rfl, ⟨none, 0, rfl, Nat.le_refl _, by unfold maxLen; omega, fun h => absurd h (by simp)⟩, ⟨none, 0, rfl, Nat.le_refl _, by unfold maxLen; omega, fun h => absurd h (by simp)⟩⟩
theorem AtC3.st2 {w : World} {b : Nat} {x y z : Value} {T : TypeId} (h : AtC3 w b x y z T) (u : Value) : AtC3 (w.setCell ⟨b, 2, none⟩ u) b x y u T := by
 show (w.heap.modify b _)[b]? = _
 rw [Array.getElem?_modify, if_pos rfl, show w.heap[b]? = _ from h]; rfl
theorem kO {w : World} {b base n size : Nat} {x y z kv : Value} {T e : TypeId} {xs : List Value} (h : AtC3 w b x y z T) (ho : w.ownsRow base e size kv n xs) (hne : e ≠ T) : kv.ownBlock ≠ some b := by
 unfold AtC3 at h
 rcases ho.2 with ⟨rfl, _⟩ | ⟨g1, c1, k1, rfl, _, hg1, _⟩
 ·intro e; simp [Value.ownBlock] at e
 ·intro e
  simp [Value.ownBlock] at e
  subst e
  rw [hg1] at h
  simp at h
  exact hne h.2
theorem AtC3.grown {w w' : World} {b : Nat} {x y z : Value} {T : TypeId} {row : Option Nat} (h : AtC3 w b x y z T) (hg : w.grownBy w' row) (hne : row ≠ some b) : AtC3 w' b x y z T :=
 (hg.block b h.lt (Ne.symm hne)).trans h
theorem AtC2.grown {w w' : World} {b : Nat} {x y : Value} {T : TypeId} {row : Option Nat} (h : AtC2 w b x y T) (hg : w.grownBy w' row) (hne : row ≠ some b) : AtC2 w' b x y T :=
 (hg.block b (Array.getElem?_eq_some_iff.1 h).1 (Ne.symm hne)).trans h
theorem q4 {w : World} {base : Nat} {e : TypeId} {size : Nat} {v : Value} {n : Nat} {xs : List Value} (h : w.ownsRow base e size v n xs) {k : Nat} (hk : k < base) : v.ownBlock ≠ some k := by
 rcases h.2 with ⟨rfl, _⟩ | ⟨g, c, k1, rfl, hb, _⟩
 ·intro e; simp [Value.ownBlock] at e
 ·intro e
  simp [Value.ownBlock] at e
  omega
theorem RowN.far {w : World} {base : Nat} {v : Value} {ns : List Nd} {kvs : List Value} (h : RowN w base v ns kvs) {a : Addr} (ha : a.block < base) (u : Value) : RowN (w.setCell a u) base v ns kvs :=
 ⟨h.1, ownsRow_setCell_below h.2.1 ha u, fun j nd kv e1 e2 => ⟨(h.2.2 j nd kv e1 e2).1, ownsRow_setCell_below (h.2.2 j nd kv e1 e2).2 ha u⟩⟩
theorem RowN.kids_lt {w : World} {base : Nat} {v : Value} {ns : List Nd} {kvs : List Value} (h : RowN w base v ns kvs) : ∀ kv ∈ kvs, ∀ b, kv.ownBlock = some b → b < w.heap.size := by
 intro kv hm b hb
 obtain ⟨j, hj⟩ := List.getElem?_of_mem hm
 have hjl := (List.getElem?_eq_some_iff.1 hj).1
 have hl := h.1
 have ho := (h.2.2 j _ kv (List.getElem?_eq_getElem (show j < ns.length by omega)) hj).2
 rcases ho.2 with ⟨rfl, _⟩ | ⟨g, c, k1, rfl, _, hg, _⟩
 ·simp [Value.ownBlock] at hb
 ·simp [Value.ownBlock] at hb
  subst hb
  exact (Array.getElem?_eq_some_iff.1 hg).1
theorem RowN.grown {w w' : World} {base S n : Nat} {v rv : Value} {ns : List Nd} {kvs xs : List Value} (h : RowN w base v ns kvs) (hk : ∀ kv ∈ kvs, ∀ b, kv.ownBlock = some b → b < S)
  (ho : w.ownsRow S 3 1 rv n xs) (hg : w.grownBy w' rv.ownBlock) : RowN w' base v ns kvs := by
 refine ⟨h.1, h.2.1.kept hg (kw h.2.1 ho (by decide)), fun j nd kv e1 e2 => ⟨(h.2.2 j nd kv e1 e2).1, (h.2.2 j nd kv e1 e2).2.kept hg ?_⟩⟩
 cases e : kv.ownBlock with
 | none => exact .inl rfl
 | some b => exact .inr (fun e' => q4 ho (hk kv (List.mem_of_getElem? e2) b e) e'.symm)
theorem vM (d : Dt) (u : Value) (w : World) (h : DataAt w u d) (hsm : d.1.length ≤ 1048576 ∧ d.2.length ≤ 1048576 ∧ jb d.1) :
  Calls Tryd.prog 40 #[u] w fun e W' => (∃ mn mr, e = .returned (.agg #[mn, mr]) ∧ DataAt W' (.agg #[mn, mr]) (minM d)) ∧ Below w.heap.size w W' := by
 obtain ⟨i0, hi, hz0, hz1, hz2⟩ := info_parts Tryd.infoInt
 obtain ⟨j0, hj, hy0, hy1, hy2⟩ := info_parts Tryd.infoNode
 obtain ⟨ns, rs⟩ := d
 obtain ⟨nv, rv, rfl, hn, hr⟩ := h
 simp only at hn hr hsm
 obtain ⟨an, cn, rfl, hn1, hn2⟩ := hn.form0
 obtain ⟨ar, cr, rfl, hr1, hr2⟩ := hr.form
 unfold maxLen at hn2 hr2
 obtain ⟨hs1, hs2, hs3⟩ := hsm
 have hb := zh (zh (Below.refl w.heap.size w) (.cells #[.slice an ns.length cn, .slice ar rs.length cr] 71)) (.cells #[.slice none 0 0, .slice none 0 0] 71)
 have HN := hide hn
 have HR := hide hr
 have HB := hide hb
 have HP := hide ((AtC2.new w (.slice an ns.length cn) (.slice ar rs.length cr) 71).alloc (.cells #[.slice none 0 0, .slice none 0 0] 71))
 have HQ := hide (AtC2.new (w.alloc (.cells #[.slice an ns.length cn, .slice ar rs.length cr] 71)) (.slice none 0 0) (.slice none 0 0) 71)
 rw [World.size_alloc] at HQ
 have HS3 := hide hs3
 clear hn hr hb hs3
 go_enter Tryd.func40, Tryd.ntmps40
 go_wp2
 go_loopw [3] (fun iv' wr => ∃ i : Nat, i ≤ ns.length ∧ iv' = .int .i64 i ∧ Hid ((ns.take i).all (zA · ns.length) = true) ∧ Hid (Below w.heap.size w wr) ∧ Hid (AtC2 wr w.heap.size (.slice an ns.length cn) (.slice ar rs.length cr) 71) ∧ Hid (AtC2 wr (w.heap.size + 1) (.slice none 0 0) (.slice none 0 0) 71))
  (fun iv' _ => ns.length - (intOf iv').toNat)
 case atStart => exact ⟨0, by omega, rfl, hide (by simp), HB, HP, HQ⟩
 case round =>
  clear HB HP HQ
  obtain ⟨i, hile, rfl, hall, HB, HP, HQ⟩ := hrel
  have p0 := (za HP).n0
  have p1 := (za HP).n1
  by_cases hil : i < ns.length
  ·obtain ⟨nd, hnd⟩ : ∃ nd, ns[i]? = some nd := ⟨_, List.getElem?_eq_getElem hil⟩
   obtain ⟨b, off, rfl, hba⟩ := (za HN).addr (by omega)
   obtain ⟨kv, c0, c1, c2, htl, hk⟩ := ((za HN).below (za HB)).node hnd
   have HND := hide (⟨kv, rfl, htl, hk⟩ : NdAt wr (.agg #[.int .i64 nd.1, .string (B nd.2.1), kv]) nd)
   have hst := yA (p := (zA · ns.length)) hnd
   rw [za hall, Bool.true_and] at hst
   have HST := hide hst
   have HMEM := hide (List.mem_of_getElem? hnd)
   clear hst hnd hk
   go_upto_region 4 with fail
   go_cut [28] from 19 to 28 (fun s wx => s = .bool (!zA nd ns.length) ∧ Below wr.heap.size wr wx)
   case first =>
    go_region_held3 (fun w' => w'.cell? ⟨w.heap.size, 0, none⟩ = some (.slice (some ⟨b, off, none⟩) ns.length cn) ∧ w'.cell? ⟨b, off + i * 3, none⟩ = some (.int .i64 nd.1) ∧ w'.cell? ⟨b, off + i * 3 + 1, none⟩ = some (.string (B nd.2.1)) ∧ w'.cell? ⟨b, off + i * 3 + 2, none⟩ = some kv) (((try dsimp only); (repeat' apply And.intro) <;> (first | with_reducible assumption | exact p0 | exact c0 | exact c1 | exact c2))) ((go_at_call 47; refine (jJ _ nd ns.length wr.drew (by exact za HND) hs1).mono ?_; rintro e w5 ⟨rfl, hb5⟩; have HB5 : Hid (Below wr.heap.size wr w5) := (Below.refl wr.heap.size wr).drew.trans hb5; have q0 := ((za HP).below (za HB5)).n0; have d0 := (za HB5).cell (p := ⟨b, off + i * 3, none⟩) (World.block_lt_of_cell? _ _ c0); have d1 := (za HB5).cell (p := ⟨b, off + i * 3 + 1, none⟩) (World.block_lt_of_cell? _ _ c1); have d2 := (za HB5).cell (p := ⟨b, off + i * 3 + 2, none⟩) (World.block_lt_of_cell? _ _ c2); rw [c0] at d0; rw [c1] at d1; rw [c2] at d2; clear hb5))
    go_wp2_with fail
    go_meet
    exact ⟨rfl, za HB5⟩
   case rest =>
   obtain ⟨rfl, hbc⟩ := hcut
   rename World => w2
   have HB2 := hide (zi (za HB) hbc)
   have HP2 := hide ((za HP).below hbc)
   have HQ2 := hide ((za HQ).below hbc)
   clear hbc HB HP HQ p0 p1 c0 c1 c2
   cases hko : zA nd ns.length with
   | false =>
    have hbad : minOk (ns, rs) = false := by
     unfold minOk
     have : ns.all (zA · ns.length) = false := by rw [List.all_eq_false]; exact ⟨nd, za HMEM, by simp [hko]⟩
     simp only [this, Bool.false_and]
    have HBAD := hide hbad
    have q0 := (za HQ2).n0
    have q1 := (za HQ2).n1
    have qf := (za HQ2).f
    clear hbad hko
    go_wp2
    refine bodyPost_ret (v := .agg #[.slice none 0 0, .slice none 0 0]) (by simp [results, Tryd.results40, go_sem, q0, q1]) rfl ⟨⟨_, _, rfl, by rw [yP (za HBAD)]; exact yE _⟩, ?_⟩
    refine (za HB2).trans ?_
    repeat (first | exact Below.refl _ _ | refine Below.setCell ?_ (by first | exact Nat.le_refl _ | exact Nat.le_succ _ | (simp; done) | (simp; omega)) _ | refine Below.alloc ?_ (by first | exact Nat.le_refl _ | (simp; done) | (simp; omega)) _)
   | true =>
    have HKO := hide hko
    clear hko
    go_wp2
    go_roundw
    case rel => exact ⟨i + 1, by omega, by go_num, hide (by rw [za HST]; exact za HKO), HB2, HP2, HQ2⟩
    case measure => simp [intOf]; omega
  ·have hie : i = ns.length := by omega
   subst hie
   have hall' := za hall
   rw [List.take_of_length_le (Nat.le_refl _)] at hall'
   have HALL := hide hall'
   have HKR := hide (yH hall')
   clear hall' hall
   go_wp2_with fail
   have h := yK _ ns wr ((za HN).below (za HB)) hs1 (za HKR)
   refine h.mono ?_
   clear h
   rintro e w3 ⟨⟨gv, rfl, hown⟩, hb3⟩
   have hgi := jN hown (qQ ns)
   obtain ⟨ag, cg, rfl, hg1, hg2⟩ := hgi.form
   rw [qQ] at hg1 hgi
   rw [qQ]
   unfold maxLen at hg2
   have HG := hide hgi
   have HB3 := hide (zi (za HB) hb3)
   have HP3 := hide ((za HP).below hb3)
   have HQ3 := hide ((za HQ).below hb3)
   have HN3 := hide ((za HN).below (za HB3))
   clear hown hgi hb3 HB HP HQ p0 p1
   have HO0 := hide (World.ownsRow_made (base := w3.heap.size) (e := 3) (size := 1) w3 #[] 0 (Nat.le_refl _) (by decide) (by simp))
   have HB0 := hide (zh (Below.refl w3.heap.size w3) (.cells #[] 3))
   go_wp2
   go_loopw [5, 6] (fun ov jv wr => ∃ (j : Nat) (o : List Int), j ≤ rs.length ∧ jv = .int .i64 j ∧ Hid (o = (rs.take j).foldl (fun o r => walkM ns (grpM ns) (ns.length + 1) r o) []) ∧ Hid ((rs.take j).all (inR · ns.length) = true) ∧ Hid (wr.ownsRow w3.heap.size 3 1 ov o.length (iv o)) ∧ Hid (Below w3.heap.size w3 wr) ∧ Hid (InR ns.length o))
    (fun _ jv _ => rs.length - (intOf jv).toNat)
   case atStart => exact ⟨0, [], by omega, rfl, hide rfl, hide (by simp), HO0, HB0, hide (jo _)⟩
   case round =>
    clear HO0 HB0
    obtain ⟨j, o, hjl, rfl, ho, hall, hown, hbl, hin⟩ := hrel
    have p0 := ((za HP3).below (za hbl)).n0
    have p1 := ((za HP3).below (za hbl)).n1
    by_cases hjlt : j < rs.length
    ·obtain ⟨x, hx⟩ : ∃ x, rs[j]? = some x := ⟨_, List.getElem?_eq_getElem hjlt⟩
     obtain ⟨b, off, rfl, hb, hcw⟩ := (za HR).cell hx
     have hc := (zi (za HB3) (za hbl)).cell (p := ⟨b, off + j, none⟩) hb
     rw [hcw] at hc
     have HCW := hide (And.intro hb hcw)
     clear hb hcw
     have hst := qn (p := (inR · ns.length)) hx
     rw [za hall, Bool.true_and] at hst
     have hft : (rs.take (j + 1)).foldl (fun o r => walkM ns (grpM ns) (ns.length + 1) r o) [] = walkM ns (grpM ns) (ns.length + 1) x o := by
      rw [za ho]; exact j6 hx
     have HST := hide (And.intro hst hft)
     have HX := hide (List.mem_of_getElem? hx)
     clear hst hft hx
     go_upto_region 11 with fail
     go_cut [51] from 41 to 51 (fun s wx => s = .bool (!inR x ns.length) ∧ Below wr.heap.size wr wx)
     case first =>
      go_quiet ((go_at_call 30; exact Calls.quiet_of_same (yk x ns.length _)))
      go_wp2_with fail
      go_meet
      exact ⟨rfl, zI (Below.refl _ _) _⟩
     case rest =>
     obtain ⟨rfl, hbc⟩ := hcut
     rename World => w4
     have HB4 := hide (zi (za hbl) hbc)
     have HO4 := hide (zk (za hown) hbc)
     have hc4 := (zi (za HB3) (za HB4)).cell (p := ⟨b, off + j, none⟩) (za HCW).1
     rw [(za HCW).2] at hc4
     clear hbc hbl hown p0 p1 hc
     cases hxr : inR x ns.length with
     | false =>
      have hbad : minOk (ns, rs) = false := by
       unfold minOk
       have : rs.all (inR · ns.length) = false := by rw [List.all_eq_false]; exact ⟨x, za HX, by simp [hxr]⟩
       simp only [this, Bool.and_false]
      have HBAD := hide hbad
      have HB2 := hide (zi (za HB3) (za HB4))
      have q0 := ((za HQ3).below (za HB4)).n0
      have q1 := ((za HQ3).below (za HB4)).n1
      have qf := ((za HQ3).below (za HB4)).f
      clear hbad hxr
      go_wp2
      refine bodyPost_ret (v := .agg #[.slice none 0 0, .slice none 0 0]) (by simp [results, Tryd.results40, go_sem, q0, q1]) rfl ⟨⟨_, _, rfl, by rw [yP (za HBAD)]; exact yE _⟩, ?_⟩
      refine (za HB2).trans ?_
      repeat (first | exact Below.refl _ _ | refine Below.setCell ?_ (by first | exact Nat.le_refl _ | exact Nat.le_succ _ | (simp; done) | (simp; omega)) _ | refine Below.alloc ?_ (by first | exact Nat.le_refl _ | (simp; done) | (simp; omega)) _)
     | true =>
      have hxr2 := jW.1 hxr
      have hwk := ja (za HKR) (yh ns) (ns.length + 1) x o hxr2.1 hxr2.2 (za hin)
      have HWK := hide hwk.1
      have HXR := hide hxr
      have HXR2 := hide hxr2
      clear hxr hxr2 hwk
      have p0 := ((za HP3).below (za HB4)).n0
      have p1 := ((za HP3).below (za HB4)).n1
      go_upto_region 13 with fail
      have HAW := hide (zk (za HO4) (Below.refl w4.heap.size w4).drew)
      have HBW := hide (za HB4).drew
      go_region_held3 (fun w' => w'.cell? ⟨w.heap.size, 0, none⟩ = some (.slice an ns.length cn) ∧ w'.cell? ⟨w.heap.size, 1, none⟩ = some (.slice (some ⟨b, off, none⟩) rs.length cr) ∧ w'.cell? ⟨b, off + j, none⟩ = some (.int .i64 x)) (((try dsimp only); (repeat' apply And.intro) <;> (first | with_reducible assumption | exact p0 | exact p1 | exact hc4))) ((go_at_call 49; refine (xg w3 _ _ ns (grpM ns) (za HN3) (by exact za HG) (qQ ns) (za HKR) (yh ns) hs1 (ns.length + 1) x o _ w4.drew (za HXR2).1 (za HXR2).2 (za hin) (by omega) (za HBW) (by exact za HAW)).mono ?_; rintro e w5 ⟨⟨ov5, rfl, hown5⟩, hb5⟩; have HO5 := hide hown5; have HB5 := hide hb5; have d0 := ((za HP3).below hb5).n0; have d1 := ((za HP3).below hb5).n1; have d2 := (zi (za HB3) hb5).cell (p := ⟨b, off + j, none⟩) (za HCW).1; rw [(za HCW).2] at d2; clear hown5 hb5))
      clear d0 d1 d2 p0 p1 hc4
      go_wp2
      go_roundw
      case rel => exact ⟨j + 1, _, by omega, by go_num, hide (za HST).2.symm, hide (by rw [(za HST).1]; exact za HXR), HO5, HB5, HWK⟩
      case measure => simp [intOf]; omega
    ·have hje : j = rs.length := by omega
     subst hje
     have hall' := za hall
     have ho' := za ho
     rw [List.take_of_length_le (Nat.le_refl _)] at hall' ho'
     have hok : minOk (ns, rs) = true := by
      unfold minOk
      simp only [za HALL, hall', Bool.and_self]
     have hom : o = ordM ns (grpM ns) rs := ho'
     have HM := hide (show minM (ns, rs) = (o.map (minNd ns (grpM ns) o), rs.map fun r => zq o (gAt (grpM ns) r)) by
      unfold minM; rw [hok, if_pos rfl, hom])
     have HRR := hide (fun r (hm : r ∈ rs) => jW.1 (List.all_eq_true.1 hall' r hm))
     clear hall' ho' hok hom hall ho
     obtain ⟨W5, hW5⟩ : ∃ W5, W5 = wr := ⟨_, rfl⟩
     subst hW5
     have hoi := zz (za hown)
     obtain ⟨oa, oc, rfl, ho1, ho2⟩ := hoi.form
     unfold maxLen at ho2
     have HB5 := hide (zi (za HB3) (za hbl))
     have HO5 := hide hoi
     have HN5 := hide ((za HN).below (za HB5))
     have HR5 := hide ((za HR).below (za HB5))
     have HG5 := hide ((za HG).below (za hbl))
     have HP5 := hide ((za HP3).below (za hbl))
     have HQ5 := hide ((za HQ3).below (za hbl))
     have hol := (za hin).len
     clear hoi hown hbl HN HR HG HP3 HQ3 HN3 HB3
     go_wp2
     have HX0 := hide (AtC2.new W5 (.slice none 0 0) (.slice none 0 0) 71)
     have HR0 : Hid (RowN (W5.alloc (.cells #[.slice none 0 0, .slice none 0 0] 71)) (W5.heap.size + 1) (.slice none 0 0) [] []) := ⟨rfl, World.ownsRow_nil _ _ _ _, fun j nd kv e => by simp at e⟩
     have HBX := hide (zh (Below.refl W5.heap.size W5) (.cells #[.slice none 0 0, .slice none 0 0] 71))
     go_loopw [8] (fun iv' wr => ∃ (i : Nat) (nvv : Value) (kvs : List Value), i ≤ o.length ∧ iv' = .int .i64 i ∧ Hid (AtC2 wr W5.heap.size nvv (.slice none 0 0) 71) ∧ Hid (RowN wr (W5.heap.size + 1) nvv ((o.take i).map (minNd ns (grpM ns) o)) kvs) ∧ Hid (Below W5.heap.size W5 wr))
      (fun iv' _ => o.length - (intOf iv').toNat)
     case atStart => exact ⟨0, _, [], by omega, rfl, HX0, HR0, HBX⟩
     case round =>
      clear HX0 HR0 HBX p0 p1
      obtain ⟨i, nvv, kvs, hil, rfl, HX, HROW, HBW⟩ := hrel
      obtain ⟨Wi, hWi⟩ : ∃ Wi, Wi = wr := ⟨_, rfl⟩
      subst hWi
      have p0 := ((za HP5).below (za HBW)).n0
      have p1 := ((za HP5).below (za HBW)).n1
      by_cases hilt : i < o.length
      ·obtain ⟨g, hgo⟩ : ∃ g, o[i]? = some g := ⟨_, List.getElem?_eq_getElem hilt⟩
       have hgr := (za hin).2 g (List.mem_of_getElem? hgo)
       obtain ⟨gn, rfl⟩ := Int.eq_ofNat_of_zero_le hgr.1
       have hgnl : gn < ns.length := by omega
       obtain ⟨nd, hnd⟩ : ∃ nd, ns[gn]? = some nd := ⟨_, List.getElem?_eq_getElem hgnl⟩
       obtain ⟨bo, oo, rfl, hbo, hco⟩ := ((za HO5).below (za HBW)).cell hgo
       obtain ⟨bn, on, rfl, hbn⟩ := (za HN5).addr (by omega)
       obtain ⟨kv0, c0, c1, c2, htl, hkk⟩ := ((za HN5).below (za HBW)).node hnd
       obtain ⟨ka, kc, rfl, hkc1, hkc2⟩ := hkk.form
       unfold maxLen at hkc2
       have hmk : minNd ns (grpM ns) o (gn : Int) = (nd.1, nd.2.1, nd.2.2.map fun k => zq o (gAt (grpM ns) k)) := by
        unfold minNd; rw [Int.toNat_natCast, qr hnd]
       have HMK := hide (And.intro hmk hgo)
       have HND := hide hnd
       have HTL := hide htl
       have HKR2 := hide ((za HKR) nd (List.mem_of_getElem? hnd))
       have HCI := hide (And.intro c2 hkk)
       have hkl : nd.2.2.length ≤ 1048576 := ((za HS3) nd (List.mem_of_getElem? hnd)).2
       clear hmk hgo hnd htl hkk
       go_upto_region 18 with fail
       go_cut [9] from 70 to 88 (fun s wx => ∃ gb, s = .pointer (some ⟨gb, 0, none⟩) ∧ AtC3 wx gb (.int .i64 nd.1) (.string (B nd.2.1)) (.slice none 0 0) 76 ∧ Below Wi.heap.size Wi wx ∧ Wi.heap.size ≤ gb)
       case first =>
        have HAL := hide (zh (Below.refl Wi.heap.size Wi) (.cells #[.int .i64 0, .string ⟨#[]⟩, .slice none 0 0] 76)).drew
        have l0 := World.block_lt_of_cell? _ _ p0
        have l1 := World.block_lt_of_cell? _ _ hco
        have l2 := World.block_lt_of_cell? _ _ c0
        simp only at l0 l1 l2
        have y0 := ((za HAL).cell (p := ⟨w.heap.size, 0, none⟩) l0).trans p0
        have y1 := ((za HAL).cell (p := ⟨bo, oo + i, none⟩) l1).trans hco
        have y2 := ((za HAL).cell (p := ⟨bn, on + gn * 3, none⟩) l2).trans c0
        have y3 := ((za HAL).cell (p := ⟨bn, on + gn * 3 + 1, none⟩) l2).trans c1
        have HAZ := hide (zh (Below.refl Wi.heap.size Wi) (.cells #[.int .i64 nd.1, .string (B nd.2.1), .slice none 0 0] 76)).drew
        have z0 := ((za HAZ).cell (p := ⟨w.heap.size, 0, none⟩) l0).trans p0
        have z1 := ((za HAZ).cell (p := ⟨bo, oo + i, none⟩) l1).trans hco
        have z2 := ((za HAZ).cell (p := ⟨bn, on + gn * 3, none⟩) l2).trans c0
        have z3 := ((za HAZ).cell (p := ⟨bn, on + gn * 3 + 1, none⟩) l2).trans c1
        go_region_held3 (fun w' => w'.cell? ⟨w.heap.size, 0, none⟩ = some (.slice (some ⟨bn, on, none⟩) ns.length cn) ∧ w'.cell? ⟨bo, oo + i, none⟩ = some (.int .i64 (gn : Int)) ∧ w'.cell? ⟨bn, on + gn * 3, none⟩ = some (.int .i64 nd.1) ∧ w'.cell? ⟨bn, on + gn * 3 + 1, none⟩ = some (.string (B nd.2.1))) (((try dsimp only); (repeat' apply And.intro) <;> (first | with_reducible assumption | exact p0 | exact hco | exact c0 | exact c1 | with_reducible exact y0 | with_reducible exact y1 | with_reducible exact y2 | with_reducible exact y3 | with_reducible exact z0 | with_reducible exact z1 | with_reducible exact z2 | with_reducible exact z3))) (fail)
        go_wp2_with fail
        go_meet
        exact ⟨Wi.heap.size, rfl, AtC3.new Wi _ _ _ _, za HAZ, Nat.le_refl _⟩
       case rest =>
       obtain ⟨gb, rfl, hgb, hbc, hgbl⟩ := hcut
       rename World => w6
       have HGB := hide hgb
       have HGBL := hide hgbl
       have HB6 := hide hbc
       have HM0 := hide (World.ownsRow_nil w6 Wi.heap.size 3 1)
       clear hgb hbc p0 p1 hco c0 c1 c2
       have hml : (nd.2.2.map fun k => zq o (gAt (grpM ns) k)).length = nd.2.2.length := by simp
       obtain ⟨mk, hmkd⟩ : ∃ mk, mk = nd.2.2.map fun k => zq o (gAt (grpM ns) k) := ⟨_, rfl⟩
       rw [← hmkd] at hml
       have HMKD := hide hmkd
       clear hmkd
       go_wp2
       go_loopw [10] (fun kv' wr => ∃ (k : Nat) (kv : Value), k ≤ nd.2.2.length ∧ kv' = .int .i64 k ∧ Hid (AtC3 wr gb (.int .i64 nd.1) (.string (B nd.2.1)) kv 76) ∧ Hid (wr.ownsRow Wi.heap.size 3 1 kv k (iv (mk.take k))) ∧ Hid (Below Wi.heap.size Wi wr))
        (fun kv' _ => nd.2.2.length - (intOf kv').toNat)
       case atStart => exact ⟨0, _, by omega, rfl, HGB, hide (by simpa [iv] using za HM0), HB6⟩
       case round =>
        clear HGB HM0 HB6
        obtain ⟨k, kv, hkle, rfl, HGB, HKV, HBK⟩ := hrel
        obtain ⟨Wk, hWk⟩ : ∃ Wk, Wk = wr := ⟨_, rfl⟩
        subst hWk
        have HB5k := hide ((za HBW).trans ((za HBK).mono (za HBW).size))
        have p0 := ((za HP5).below (za HB5k)).n0
        have hco' := ((za HO5).below (za HB5k)).cell (za HMK).2
        obtain ⟨bo', oo', eo, hbo', hco⟩ := hco'
        injection eo with eo
        injection eo with eo1 eo2
        subst eo1 eo2
        have c2 := ((za HBK).cell (p := ⟨bn, on + gn * 3 + 2, none⟩) (World.block_lt_of_cell? _ _ (za HCI).1)).trans (za HCI).1
        have e3 := (za HGB).n2
        have gbf := (za HGB).f
        have gbl := (za HGB).lt
        by_cases hklt : k < nd.2.2.length
        ·obtain ⟨x, hx⟩ : ∃ x, nd.2.2[k]? = some x := ⟨_, List.getElem?_eq_getElem hklt⟩
         have hxr := (za HKR2) x (List.mem_of_getElem? hx)
         obtain ⟨bk, ok, rfl, hbk, hck⟩ := ((za HCI).2.below (za HBK)).cell hx
         have hgx := qC (g := grpM ns) hxr.1 (by rw [qQ]; exact hxr.2)
         obtain ⟨bg, og, rfl, hbg, hcg⟩ := ((za HG5).below (za HB5k)).cell hgx
         have hxr1 := hxr.1
         have hxr2 := hxr.2
         have hplace : mk[k]? = some (zq o (gAt (grpM ns) x)) := by rw [za HMKD]; simp [hx]
         have HPL := hide (show mk.take (k + 1) = mk.take k ++ [zq o (gAt (grpM ns) x)] by rw [List.take_add_one, hplace]; rfl)
         have HO9 := hide ((za HO5).below (za HB5k))
         obtain ⟨gx, hgxe⟩ : ∃ gx, gAt (grpM ns) x = gx := ⟨_, rfl⟩
         rw [hgxe] at hcg HPL
         clear hx hxr hgx hplace hgxe
         go_upto_region 20 with fail
         go_cut [100] from 89 to 100 (fun s wx => s = .bool true ∧ Below Wk.heap.size Wk wx)
         case first =>
          go_quiet (fail)
          go_wp2_with fail
          go_meet
          exact ⟨rfl, zI (Below.refl _ _) _⟩
         case rest =>
         obtain ⟨rfl, hb7⟩ := hcut
         rename World => w7
         have b0 := World.block_lt_of_cell? _ _ p0
         have b1 := World.block_lt_of_cell? _ _ hco
         have b2 := World.block_lt_of_cell? _ _ c2
         have b3 := World.block_lt_of_cell? _ _ hck
         have b4 := World.block_lt_of_cell? _ _ hcg
         have b5 := World.block_lt_of_cell? _ _ e3
         simp only at b0 b1 b2 b3 b4 b5
         have HS6 := hide (fun (W : World) (hW : Below Wk.heap.size Wk W) => (⟨(hW.cell (p := ⟨w.heap.size, 0, none⟩) b0).trans p0, (hW.cell (p := ⟨bo, oo + i, none⟩) b1).trans hco, (hW.cell (p := ⟨bn, on + gn * 3 + 2, none⟩) b2).trans c2, (hW.cell (p := ⟨bk, ok + k, none⟩) b3).trans hck, (hW.cell (p := ⟨bg, og + x.toNat, none⟩) b4).trans hcg, (hW.cell (p := ⟨gb, 2, none⟩) b5).trans e3⟩ : W.cell? ⟨w.heap.size, 0, none⟩ = some (.slice (some ⟨bn, on, none⟩) ns.length cn) ∧ W.cell? ⟨bo, oo + i, none⟩ = some (.int .i64 (gn : Int)) ∧ W.cell? ⟨bn, on + gn * 3 + 2, none⟩ = some (.slice (some ⟨bk, ok, none⟩) nd.2.2.length kc) ∧ W.cell? ⟨bk, ok + k, none⟩ = some (.int .i64 x) ∧ W.cell? ⟨bg, og + x.toNat, none⟩ = some (.int .i64 gx) ∧ W.cell? ⟨gb, 2, none⟩ = some kv))
         have HBI := hide hb7
         obtain ⟨f0, f1, f2, f3, f4, f5⟩ := (za HS6) w7 hb7
         have HO7 := hide (((za HO9).below hb7).below (Below.refl _ _).drew)
         clear p0 hco c2 hck hcg e3 hb7 gbf
         go_wp2_with fail
         go_region_law (first | ((refine step_append_lies _ (by rfl) _ _ _ (by rfl) Wi.heap.size 3 i0 (.int .i64 0) 1 8 Tryd.underlying59 hi hz0 hz1 hz2 rfl (by decide) kv k (iv (mk.take k)) (by rfl) ((zk (za HKV) (za HB8)).alloc _) ⟨w8.heap.size, 0, none⟩ 1 1 [.int .i64 (zq o gx)] (by rfl) (by rfl) (World.news_of_block (cs := #[.int .i64 (zq o gx)]) (t := 3) (fr := (0, 0)) (heap_alloc_new w8 _)) (by simp [Value.oneCell']) (by omega) (by unfold maxLen; omega) (by omega) (by have := (za HB8).size; have := (za HBK).size; simp; omega) (w8.heap.size + 1) (by simp) ?_; intro gg cap w9 hown9 hgrow9 hat hlt9; have q8 := zh (za HB8) (.cells #[.int .i64 (zq o gx)] 3); have A9 := AtC3.grown ((za HGB).below q8) hgrow9 (kO (za HGB) (za HKV) (by decide)); have e9 := A9.n2; have g9 := A9.f 2; have HX9 := hide (A9.st2 (.slice (some ⟨gg, 0, none⟩) (k + 1) cap)); have HV9 := hide (zR (i := 2) (u := .slice (some ⟨gg, 0, none⟩) (k + 1) cap) hown9 (kO A9 hown9 (by decide))); have HBL9 := hide ((zy (zi (za HBK) q8) (zk (za HKV) q8) hgrow9 (zi (za HBK) q8).size).setCell (p := ⟨gb, 2, none⟩) (za HGBL) (.slice (some ⟨gg, 0, none⟩) (k + 1) cap)); clear hown9 hgrow9 hat hlt9 q8 A9)) | (go_simp; go_at_call 50; refine (qS _ o gx w7.drew (by exact za HO7)).mono ?_; rintro e w8 ⟨rfl, hb8⟩; have HB8 : Hid (Below Wk.heap.size Wk w8) := hide (zi (za HBI).drew hb8); have h80 := (za HS6) w8 (za HB8); have h85 := h80.2.2.2.2.2; have h8a := ((za HS6) (w8.alloc (.cells #[.int .i64 (zq o gx)] 3)) (zh (za HB8) _)).2.2.2.2.2; clear hb8; (try dsimp only)))
         all_goals go_wp2
         all_goals go_roundw
         all_goals (first | (refine ⟨k + 1, _, by omega, by go_num, HX9, hide (by rw [za HPL]; simpa [iv] using za HV9), HBL9⟩) | (simp [intOf]; omega))
        ·have hke : k = nd.2.2.length := by omega
         subst hke
         have e0 := (za HGB).n0
         have e1 := (za HGB).n1
         have HKV2 : Hid (Wk.ownsRow Wi.heap.size 3 1 kv nd.2.2.length (iv mk)) := hide (by have := za HKV; rwa [List.take_of_length_le (by omega)] at this)
         have p0 := ((za HP5).below (za HB5k)).n0
         go_upto_region 20 with fail
         go_cut [100] from 89 to 100 (fun s wx => s = .bool false ∧ Below Wk.heap.size Wk wx)
         case first =>
          go_quiet (fail)
          go_wp2_with fail
          go_meet
          exact ⟨rfl, zI (Below.refl _ _) _⟩
         case rest =>
         obtain ⟨rfl, hb7⟩ := hcut
         rename World => w7
         have HX7 := hide ((za HX).below ((za HBK).trans (hb7.mono (za HBK).size)))
         have HR7 := hide ((za HROW).below ((za HBK).trans (hb7.mono (za HBK).size)))
         have HK7 := hide (zk (za HKV2) hb7)
         have HG7 := hide ((za HGB).below hb7)
         have HBW7 := hide (zi (za HBW) ((za HBK).trans (hb7.mono (za HBK).size)))
         have p0 := (za HX7).n0
         have e0 := (za HG7).n0
         have e1 := (za HG7).n1
         have e2 := (za HG7).n2
         have hln : ((o.take i).map (minNd ns (grpM ns) o)).length = i := by simp; omega
         have hmk' : minNd ns (grpM ns) o (gn : Int) = (nd.1, nd.2.1, mk) := by rw [(za HMK).1, za HMKD]
         have HTK := hide (show (o.take (i + 1)).map (minNd ns (grpM ns) o) = (o.take i).map (minNd ns (grpM ns) o) ++ [(nd.1, nd.2.1, mk)] by rw [List.take_add_one, (za HMK).2]; simp [hmk'])
         have HML := hide hml
         have hsz7 := (za HX7).lt
         have HR8 := hide ((za HR7).below (zh (Below.refl w7.heap.size w7) (.cells #[.int .i64 nd.1, .string (B nd.2.1), kv] 76)))
         have HX8 := hide ((za HX7).alloc (.cells #[.int .i64 nd.1, .string (B nd.2.1), kv] 76))
         have kvOne : kv.oneCell' = true := by rcases (za HK7).2 with ⟨rfl, _⟩ | ⟨g, c, k1, rfl, _⟩ <;> rfl
         clear hmk' hml
         go_wp2_with (at_builtin; refine wpList_append_lies _ rfl (.tmp 126) (.tmp 128) 69 rfl (W5.heap.size + 1) 76 j0 (.agg #[.int .i64 0, .string ⟨#[]⟩, .slice none 0 0]) 3 48 Tryd.underlying69 hj hy0 hy1 hy2 rfl (by decide) nvv ((o.take i).map (minNd ns (grpM ns) o)).length (flatN ((o.take i).map (minNd ns (grpM ns) o)) kvs) rfl (za HR8).2.1 ⟨w7.heap.size, 0, none⟩ 1 1 (nd3 (nd.1, nd.2.1, mk) kv) rfl rfl (World.news_of_block (cs := #[.int .i64 nd.1, .string (B nd.2.1), kv]) (t := 76) (fr := (0, 0)) (heap_alloc_new w7 _)) (by intro u hu; simp [nd3] at hu; rcases hu with rfl | rfl | rfl <;> first | rfl | exact kvOne) (by decide) (by rw [hln]; unfold maxLen; omega) (by rw [hln]; omega) (by simp; omega) _ rfl ?_; intro gg cap w2 hown2 hg2 hat hlt; clear hat hlt; have hx2 := (za HX8).grown hg2 (q4 (za HR8).2.1 (Nat.lt_succ_self _)); have px := hx2.n0; have fx := hx2.f; have HX2 := hide (hx2.st0 (.slice (some ⟨gg, 0, none⟩) (((o.take i).map (minNd ns (grpM ns) o)).length + 1) cap)); clear hx2)
         have HR2 := hide ((RowN.push (za HR8) (nd := (nd.1, nd.2.1, mk)) (za HTL) (by rw [za HML]; exact qe (zk (za HK7) (zh (Below.refl w7.heap.size w7) (.cells #[.int .i64 nd.1, .string (B nd.2.1), kv] 76))) (za HX).lt) hown2 hg2).far (a := ⟨W5.heap.size, 0, none⟩) (Nat.lt_succ_self _) (.slice (some ⟨gg, 0, none⟩) (((o.take i).map (minNd ns (grpM ns) o)).length + 1) cap))
         have HB2 := hide ((zy (zh (za HBW7) (.cells #[.int .i64 nd.1, .string (B nd.2.1), kv] 76)) (qe (za HR8).2.1 (Nat.le_succ _)) hg2 (by simp; omega)).setCell (p := ⟨W5.heap.size, 0, none⟩) (Nat.le_refl _) (.slice (some ⟨gg, 0, none⟩) (((o.take i).map (minNd ns (grpM ns) o)).length + 1) cap))
         clear hown2 hg2
         rw [hln] at HX2 HR2 HB2
         go_wp2
         go_roundw
         case rel => exact ⟨i + 1, _, kvs ++ [kv], by omega, by go_num, HX2, hide (by rw [za HTK]; exact za HR2), HB2⟩
         case measure => simp [intOf]; omega
      ·have hie : i = o.length := by omega
       subst hie
       have HROWf : Hid (RowN Wi (W5.heap.size + 1) nvv (o.map (minNd ns (grpM ns) o)) kvs) := hide (by have := za HROW; rwa [List.take_of_length_le (Nat.le_refl _)] at this)
       have HKL := hide (za HROWf).kids_lt
       have HR0 := hide (World.ownsRow_nil Wi Wi.heap.size 3 1)
       have hWi := (za HX).lt
       obtain ⟨pr, hprd⟩ : ∃ pr, pr = rs.map fun r => zq o (gAt (grpM ns) r) := ⟨_, rfl⟩
       rw [← hprd] at HM
       have hpl : pr.length = rs.length := by simp [hprd]
       have HPRD := hide hprd
       clear hprd HROW
       go_wp2
       go_loopw [11] (fun jv' wr => ∃ (j : Nat) (rv : Value), j ≤ rs.length ∧ jv' = .int .i64 j ∧ Hid (AtC2 wr W5.heap.size nvv rv 71) ∧ Hid (RowN wr (W5.heap.size + 1) nvv (o.map (minNd ns (grpM ns) o)) kvs) ∧ Hid (wr.ownsRow Wi.heap.size 3 1 rv j (iv (pr.take j))) ∧ Hid (Below W5.heap.size W5 wr) ∧ Wi.heap.size ≤ wr.heap.size)
        (fun jv' _ => rs.length - (intOf jv').toNat)
       case atStart => exact ⟨0, _, by omega, rfl, HX, HROWf, hide (by simpa [iv] using za HR0), HBW, Nat.le_refl _⟩
       case round =>
        clear HX HROWf HBW HR0 p0 p1
        obtain ⟨j, rv, hjl, rfl, HX, HROW, HRV, HBJ, hWj⟩ := hrel
        obtain ⟨Wj, hWj'⟩ : ∃ Wj, Wj = wr := ⟨_, rfl⟩
        subst hWj'
        have p0 := ((za HP5).below (za HBJ)).n0
        have p1 := ((za HP5).below (za HBJ)).n1
        have e1 := (za HX).n1
        by_cases hjlt : j < rs.length
        ·obtain ⟨x, hx⟩ : ∃ x, rs[j]? = some x := ⟨_, List.getElem?_eq_getElem hjlt⟩
         have hxr := (za HRR) x (List.mem_of_getElem? hx)
         obtain ⟨bk, ok, rfl, hbk, hck⟩ := ((za HR5).below (za HBJ)).cell hx
         have hgx := qC (g := grpM ns) hxr.1 (by rw [qQ]; exact hxr.2)
         obtain ⟨bg, og, rfl, hbg, hcg⟩ := ((za HG5).below (za HBJ)).cell hgx
         have hxr1 := hxr.1
         have hxr2 := hxr.2
         have hplace : pr[j]? = some (zq o (gAt (grpM ns) x)) := by rw [za HPRD]; simp [hx]
         have HPL := hide (show pr.take (j + 1) = pr.take j ++ [zq o (gAt (grpM ns) x)] by rw [List.take_add_one, hplace]; rfl)
         have HO7 := hide (((za HO5).below (za HBJ)).below (Below.refl _ _).drew)
         obtain ⟨gx, hgxe⟩ : ∃ gx, gAt (grpM ns) x = gx := ⟨_, rfl⟩
         rw [hgxe] at hcg HPL
         have b1 := World.block_lt_of_cell? _ _ p1
         have b3 := World.block_lt_of_cell? _ _ hck
         have b4 := World.block_lt_of_cell? _ _ hcg
         have b5 := World.block_lt_of_cell? _ _ e1
         simp only at b1 b3 b4 b5
         have HS6 := hide (fun (W : World) (hW : Below Wj.heap.size Wj W) => (⟨(hW.cell (p := ⟨w.heap.size, 1, none⟩) b1).trans p1, (hW.cell (p := ⟨bk, ok + j, none⟩) b3).trans hck, (hW.cell (p := ⟨bg, og + x.toNat, none⟩) b4).trans hcg, (hW.cell (p := ⟨W5.heap.size, 1, none⟩) b5).trans e1⟩ : W.cell? ⟨w.heap.size, 1, none⟩ = some (.slice (some ⟨bk, ok, none⟩) rs.length cr) ∧ W.cell? ⟨bk, ok + j, none⟩ = some (.int .i64 x) ∧ W.cell? ⟨bg, og + x.toNat, none⟩ = some (.int .i64 gx) ∧ W.cell? ⟨W5.heap.size, 1, none⟩ = some rv))
         have HWI := hide hWi
         have HWJ := hide hWj
         clear hx hxr hgx hplace hgxe b1 b3 b4 b5 p0 hWi hWj
         go_upto_region 27 with fail
         go_region_law (first | ((refine step_append_lies _ (by rfl) _ _ _ (by rfl) Wi.heap.size 3 i0 (.int .i64 0) 1 8 Tryd.underlying59 hi hz0 hz1 hz2 rfl (by decide) rv j (iv (pr.take j)) (by rfl) ((zk (za HRV) (za HB8)).alloc _) ⟨w8.heap.size, 0, none⟩ 1 1 [.int .i64 (zq o gx)] (by rfl) (by rfl) (World.news_of_block (cs := #[.int .i64 (zq o gx)]) (t := 3) (fr := (0, 0)) (heap_alloc_new w8 _)) (by simp [Value.oneCell']) (by omega) (by unfold maxLen; omega) (by omega) (by have := (za HB8).size; have := za HWJ; simp; omega) (w8.heap.size + 1) (by simp) ?_; intro gg cap w9 hown9 hgrow9 hat hlt9; have q8 := zh (za HB8) (.cells #[.int .i64 (zq o gx)] 3); have A9 := AtC2.grown ((za HX).below q8) hgrow9 (q4 (za HRV) (za HWI)); have e9 := A9.n1; have g9 := A9.f 1; have HX9 := hide (A9.st1 (.slice (some ⟨gg, 0, none⟩) (j + 1) cap)); have HV9 := hide (zR (i := 1) (u := .slice (some ⟨gg, 0, none⟩) (j + 1) cap) hown9 (q4 hown9 (za HWI))); have HR9 := hide ((RowN.grown ((za HROW).below q8) (za HKL) (zk (za HRV) q8) hgrow9).far (a := ⟨W5.heap.size, 1, none⟩) (Nat.lt_succ_self _) (.slice (some ⟨gg, 0, none⟩) (j + 1) cap)); have HBL9 := hide ((zy (zi (za HBJ) q8) (qe (zk (za HRV) q8) (Nat.le_of_lt (za HWI))) hgrow9 (zi (za HBJ) q8).size).setCell (p := ⟨W5.heap.size, 1, none⟩) (Nat.le_refl _) (.slice (some ⟨gg, 0, none⟩) (j + 1) cap)); have HW9 : Hid (Wi.heap.size ≤ (w9.setCell ⟨W5.heap.size, 1, none⟩ (.slice (some ⟨gg, 0, none⟩) (j + 1) cap)).heap.size) := hide (by have h1 := hgrow9.size; have h2 := q8.size; have h3 := za HWJ; simp at h1 h2 ⊢; omega); clear hown9 hgrow9 hat hlt9 q8 A9)) | (go_simp; go_at_call 50; refine (qS _ o gx Wj.drew (by exact za HO7)).mono ?_; rintro e w8 ⟨rfl, hb8⟩; have HB8 : Hid (Below Wj.heap.size Wj w8) := hide (zi (Below.refl _ _).drew hb8); have h80 := (za HS6) w8 (za HB8); have h85 := h80.2.2.2; have h8a := ((za HS6) (w8.alloc (.cells #[.int .i64 (zq o gx)] 3)) (zh (za HB8) _)).2.2.2; clear hb8; (try dsimp only)))
         all_goals go_wp2
         all_goals go_roundw
         all_goals (first | (refine ⟨j + 1, _, by omega, by go_num, HX9, HR9, hide (by rw [za HPL]; simpa [iv] using za HV9), HBL9, za HW9⟩) | (simp [intOf]; omega))
        ·have hje : j = rs.length := by omega
         subst hje
         have e0 := (za HX).n0
         have hqj := (za HQ5).below (za HBJ)
         have q0 := hqj.n0
         have q1 := hqj.n1
         have qf := hqj.f
         have HQJ := hide hqj
         have hrv := za HRV
         rw [List.take_of_length_le (by omega)] at hrv
         have HRV2 : Hid (Wj.ownsRow Wi.heap.size 3 1 rv pr.length (iv pr)) := hide (by rw [hpl]; exact hrv)
         clear hqj hrv HRV
         obtain ⟨a1, n1, c1, rfl⟩ : ∃ a1 n1 c1, nvv = .slice a1 n1 c1 := by rcases (za HROW).2.1.2 with ⟨rfl, _⟩ | ⟨g, c, k, rfl, _⟩ <;> exact ⟨_, _, _, rfl⟩
         obtain ⟨a2, n2, c2, rfl⟩ : ∃ a2 n2 c2, rv = .slice a2 n2 c2 := by rcases (za HRV2).2 with ⟨rfl, _⟩ | ⟨g, c, k, rfl, _⟩ <;> exact ⟨_, _, _, rfl⟩
         have hq5 := (za HQ5).lt
         have HBF := hide (((zi (za HB5) (za HBJ)).setCell (p := ⟨w.heap.size + 1, 0, none⟩) (Nat.le_succ _) (.slice a1 n1 c1)).setCell (p := ⟨w.heap.size + 1, 1, none⟩) (Nat.le_succ _) (.slice a2 n2 c2))
         have HRF := hide (((za HROW).far (a := ⟨w.heap.size + 1, 0, none⟩) (by show w.heap.size + 1 < _; omega) (.slice a1 n1 c1)).far (a := ⟨w.heap.size + 1, 1, none⟩) (by show w.heap.size + 1 < _; omega) (.slice a2 n2 c2))
         have HIF := hide (zz (ownsRow_setCell_below (ownsRow_setCell_below (za HRV2) (a := ⟨w.heap.size + 1, 0, none⟩) (by show w.heap.size + 1 < _; omega) (.slice a1 n1 c1)) (a := ⟨w.heap.size + 1, 1, none⟩) (by show w.heap.size + 1 < _; omega) (.slice a2 n2 c2)))
         have HQF := hide (((za HQJ).st0 (.slice a1 n1 c1)).st1 (.slice a2 n2 c2))
         go_wp2
         have r0 := (za HQF).n0
         have r1 := (za HQF).n1
         refine bodyPost_ret (v := .agg #[.slice a1 n1 c1, .slice a2 n2 c2]) (by simp [results, Tryd.results40, go_sem, r0, r1]) rfl ⟨⟨_, _, rfl, by rw [za HM]; exact ⟨_, _, rfl, (za HRF).at, za HIF⟩⟩, za HBF⟩
end Go.Proofs.YtnenoaenjaghhaaDoor
namespace Go.Proofs.YtnenoaenjaghhaaDoor
open Go.RowKit Nt
structure Oth (w w' : World) : Prop where
 size : w.heap.size ≤ w'.heap.size
 oth : ∀ (b : Nat) (cs : Array Value) (T : TypeId) (fr : Nat × Nat), T ≠ 3 → T ≠ 87 → w.heap[b]? = some (.cells cs T fr) → w'.heap[b]? = some (.cells cs T fr)
theorem Oth.trans {a b c : World} (h : Oth a b) (k : Oth b c) : Oth a c := ⟨Nat.le_trans h.size k.size, fun b cs T fr h1 h2 e => k.oth b cs T fr h1 h2 (h.oth b cs T fr h1 h2 e)⟩
theorem Oth.below {w w' : World} (k : Below w.heap.size w w') : Oth w w' := ⟨k.size, fun b _ _ _ _ _ e => (k.block b (Array.getElem?_eq_some_iff.1 e).1).trans e⟩
theorem Oth.alloc (w : World) (o : Obj) : Oth w (w.alloc o) := Oth.below ((Below.refl _ _).alloc (Nat.le_refl _) o)
theorem Oth.at3 {w w' : World} (h : Oth w w') {b : Nat} {x y z : Value} (k : AtC3 w b x y z 76) : AtC3 w' b x y z 76 := h.oth b _ _ _ (by decide) (by decide) k
theorem Oth.at2 {w w' : World} (h : Oth w w') {b : Nat} {x y : Value} (k : AtC2 w b x y 71) : AtC2 w' b x y 71 := h.oth b _ _ _ (by decide) (by decide) k
theorem jr {w : World} {base n size k : Nat} {e : TypeId} {v : Value} {xs : List Value} (h : w.ownsRow base e size v n xs) (hk : v.ownBlock = some k) : ∃ cs fr, w.heap[k]? = some (.cells cs e fr) := by
 rcases h.2 with ⟨rfl, _⟩ | ⟨g, c, cur, rfl, _, hg, _⟩
 ·simp [Value.ownBlock] at hk
 ·simp [Value.ownBlock] at hk
  subst hk
  exact ⟨cur, _, hg⟩
structure WSt (W0 w : World) (vn va vm : Value) (us ms : List Int) (c : Int) (o : ByteArray) (ov : Bool) : Prop where
 box : w.heap[W0.heap.size]? = some (.cells #[vn, .bool false, va, vm, .int .i64 c, .string o, .bool ov] 87 (0, 0))
 ab : w.ownsRow (W0.heap.size + 1) 3 1 va us.length (iv us)
 mr : w.ownsRow (W0.heap.size + 1) 3 1 vm ms.length (iv ms)
 ap : ∀ k, va.ownBlock = some k → vm.ownBlock ≠ some k
 low : Below W0.heap.size W0 w
section
variable {W0 w w' : World} {vn va vm : Value} {us ms : List Int} {c : Int} {o : ByteArray} {ov : Bool}
theorem WSt.lt (h : WSt W0 w vn va vm us ms c o ov) : W0.heap.size < w.heap.size := (Array.getElem?_eq_some_iff.1 h.box).1
theorem WSt.n0 (h : WSt W0 w vn va vm us ms c o ov) : w.cell? ⟨W0.heap.size, 0, none⟩ = some vn := by simp [World.cell?, h.box]
theorem WSt.n1 (h : WSt W0 w vn va vm us ms c o ov) : w.cell? ⟨W0.heap.size, 1, none⟩ = some (.bool false) := by simp [World.cell?, h.box]
theorem WSt.n2 (h : WSt W0 w vn va vm us ms c o ov) : w.cell? ⟨W0.heap.size, 2, none⟩ = some va := by simp [World.cell?, h.box]
theorem WSt.n3 (h : WSt W0 w vn va vm us ms c o ov) : w.cell? ⟨W0.heap.size, 3, none⟩ = some vm := by simp [World.cell?, h.box]
theorem WSt.n4 (h : WSt W0 w vn va vm us ms c o ov) : w.cell? ⟨W0.heap.size, 4, none⟩ = some (.int .i64 c) := by simp [World.cell?, h.box]
theorem WSt.n5 (h : WSt W0 w vn va vm us ms c o ov) : w.cell? ⟨W0.heap.size, 5, none⟩ = some (.string o) := by simp [World.cell?, h.box]
theorem WSt.n6 (h : WSt W0 w vn va vm us ms c o ov) : w.cell? ⟨W0.heap.size, 6, none⟩ = some (.bool ov) := by simp [World.cell?, h.box]
theorem WSt.f (h : WSt W0 w vn va vm us ms c o ov) (j : Nat) : w.frozen? ⟨W0.heap.size, j, none⟩ = false := by simp [World.frozen?, h.box]
theorem WSt.below (h : WSt W0 w vn va vm us ms c o ov) (k : Below w.heap.size w w') : WSt W0 w' vn va vm us ms c o ov :=
 ⟨(k.block _ h.lt).trans h.box, zk h.ab k, zk h.mr k, h.ap, h.low.trans (k.mono (Nat.le_of_lt h.lt))⟩
theorem WSt.alloc (h : WSt W0 w vn va vm us ms c o ov) (x : Obj) : WSt W0 (w.alloc x) vn va vm us ms c o ov := h.below ((Below.refl _ _).alloc (Nat.le_refl _) x)
theorem WSt.drew (h : WSt W0 w vn va vm us ms c o ov) : WSt W0 w.drew vn va vm us ms c o ov := h.below (Below.refl _ _).drew
theorem WSt.nb (h : WSt W0 w vn va vm us ms c o ov) : va.ownBlock ≠ some W0.heap.size ∧ vm.ownBlock ≠ some W0.heap.size := ⟨q4 h.ab (Nat.lt_succ_self _), q4 h.mr (Nat.lt_succ_self _)⟩
theorem WSt.ob (h : WSt W0 w vn va vm us ms c o ov) (i : Nat) (u : Value) : Oth w (w.setCell ⟨W0.heap.size, i, none⟩ u) :=
 ⟨by simp [World.setCell], fun b cs T fr _ h2 e => (Below.heap_setCell _ _ _ _ (show b ≠ W0.heap.size from fun q => by
  subst q
  rw [h.box] at e
  simp only [Option.some.injEq, Obj.cells.injEq] at e
  exact h2 e.2.1.symm)).trans e⟩
theorem WSt.og (h : WSt W0 w vn va vm us ms c o ov) {r : Option Nat} (hg : w.grownBy w' r) (hr : ∀ k, r = some k → ∃ cs fr, w.heap[k]? = some (.cells cs 3 fr)) (i : Nat) (u : Value) : Oth w (w'.setCell ⟨W0.heap.size, i, none⟩ u) :=
 ⟨by have := hg.size; simp [World.setCell]; exact this, fun b cs T fr h1 h2 e => by
  have hb : b ≠ W0.heap.size := fun q => by
   subst q
   rw [h.box] at e
   simp only [Option.some.injEq, Obj.cells.injEq] at e
   exact h2 e.2.1.symm
  have hne : some b ≠ r := fun q => by
   obtain ⟨cs', fr', e'⟩ := hr b q.symm
   rw [e'] at e
   simp only [Option.some.injEq, Obj.cells.injEq] at e
   exact h1 e.2.1.symm
  exact ((Below.heap_setCell _ _ _ _ hb).trans (hg.block b (Array.getElem?_eq_some_iff.1 e).1 hne)).trans e⟩
theorem WSt.s4 (h : WSt W0 w vn va vm us ms c o ov) (c' : Int) : WSt W0 (w.setCell ⟨W0.heap.size, 4, none⟩ (.int .i64 c')) vn va vm us ms c' o ov :=
 ⟨by show (w.heap.modify W0.heap.size _)[W0.heap.size]? = _; rw [Array.getElem?_modify, if_pos rfl, h.box]; rfl, zR h.ab h.nb.1, zR h.mr h.nb.2, h.ap, h.low.setCell (Nat.le_refl _) _⟩
theorem WSt.s5 (h : WSt W0 w vn va vm us ms c o ov) (o' : ByteArray) : WSt W0 (w.setCell ⟨W0.heap.size, 5, none⟩ (.string o')) vn va vm us ms c o' ov :=
 ⟨by show (w.heap.modify W0.heap.size _)[W0.heap.size]? = _; rw [Array.getElem?_modify, if_pos rfl, h.box]; rfl, zR h.ab h.nb.1, zR h.mr h.nb.2, h.ap, h.low.setCell (Nat.le_refl _) _⟩
theorem WSt.s6 (h : WSt W0 w vn va vm us ms c o ov) (b : Bool) : WSt W0 (w.setCell ⟨W0.heap.size, 6, none⟩ (.bool b)) vn va vm us ms c o b :=
 ⟨by show (w.heap.modify W0.heap.size _)[W0.heap.size]? = _; rw [Array.getElem?_modify, if_pos rfl, h.box]; rfl, zR h.ab h.nb.1, zR h.mr h.nb.2, h.ap, h.low.setCell (Nat.le_refl _) _⟩
theorem WSt.s2 {va' : Value} {us' : List Int} (h : WSt W0 w vn va vm us ms c o ov) (hg : w.grownBy w' va.ownBlock) (ho : w'.ownsRow (W0.heap.size + 1) 3 1 va' us'.length (iv us')) (hl : va'.ownBlock = va.ownBlock ∨ va'.ownBlock = some w.heap.size) :
  WSt W0 (w'.setCell ⟨W0.heap.size, 2, none⟩ va') vn va' vm us' ms c o ov := by
 have hlt := h.lt
 have hb : w'.heap[W0.heap.size]? = w.heap[W0.heap.size]? := hg.block _ hlt h.nb.1.symm
 have hmk : w'.ownsRow (W0.heap.size + 1) 3 1 vm ms.length (iv ms) := h.mr.kept hg (by
  cases e : vm.ownBlock with
  | none => exact .inl rfl
  | some k => exact .inr fun e2 => h.ap k e2.symm e)
 have hap : ∀ k, va'.ownBlock = some k → vm.ownBlock ≠ some k := fun k hk e => by
  rcases hl with q | q
  ·exact h.ap k (q ▸ hk) e
  ·have := (h.mr.lt k e).2
   rw [q] at hk
   have := Option.some.inj hk
   omega
 have hlow : Below W0.heap.size W0 w' := h.low.trans ⟨hg.os, hg.tape, hg.output, hg.size, fun k hk => hg.block k (by omega) fun e => by have := (h.ab.lt k e.symm).1; omega⟩
 exact ⟨by show (w'.heap.modify W0.heap.size _)[W0.heap.size]? = _; rw [Array.getElem?_modify, if_pos rfl, hb, h.box]; rfl, zR ho (q4 ho (Nat.lt_succ_self _)), zR hmk h.nb.2, hap, hlow.setCell (Nat.le_refl _) _⟩
theorem WSt.s3 {vm' : Value} {ms' : List Int} (h : WSt W0 w vn va vm us ms c o ov) (hg : w.grownBy w' vm.ownBlock) (ho : w'.ownsRow (W0.heap.size + 1) 3 1 vm' ms'.length (iv ms')) (hl : vm'.ownBlock = vm.ownBlock ∨ vm'.ownBlock = some w.heap.size) :
  WSt W0 (w'.setCell ⟨W0.heap.size, 3, none⟩ vm') vn va vm' us ms' c o ov := by
 have hlt := h.lt
 have hb : w'.heap[W0.heap.size]? = w.heap[W0.heap.size]? := hg.block _ hlt h.nb.2.symm
 have hab : w'.ownsRow (W0.heap.size + 1) 3 1 va us.length (iv us) := h.ab.kept hg (by
  cases e : va.ownBlock with
  | none => exact .inl rfl
  | some k => exact .inr fun e2 => h.ap k e e2.symm)
 have hap : ∀ k, va.ownBlock = some k → vm'.ownBlock ≠ some k := fun k hk e => by
  rcases hl with q | q
  ·exact h.ap k hk (q.symm.trans e)
  ·have := (h.ab.lt k hk).2
   rw [q] at e
   have := Option.some.inj e
   omega
 have hlow : Below W0.heap.size W0 w' := h.low.trans ⟨hg.os, hg.tape, hg.output, hg.size, fun k hk => hg.block k (by omega) fun e => by have := (h.mr.lt k e.symm).1; omega⟩
 exact ⟨by show (w'.heap.modify W0.heap.size _)[W0.heap.size]? = _; rw [Array.getElem?_modify, if_pos rfl, hb, h.box]; rfl, zR hab h.nb.1, zR ho (q4 ho (Nat.lt_succ_self _)), hap, hlow.setCell (Nat.le_refl _) _⟩
theorem WSt.p2 {x : Int} {p : Option Addr} {cap : Nat} (h : WSt W0 w vn (.slice p (us.length + 1) cap) vm (us ++ [x]) ms c o ov) :
  WSt W0 (w.setCell ⟨W0.heap.size, 2, none⟩ (.slice p us.length cap)) vn (.slice p us.length cap) vm us ms c o ov := by
 have hab := h.ab
 have hl : (us ++ [x]).length = us.length + 1 := by simp
 rw [hl] at hab
 obtain ⟨g, cap', e⟩ : ∃ g cap', Value.slice p (us.length + 1) cap = .slice (some ⟨g, 0, none⟩) (us.length + 1) cap' := by
  rcases hab.2 with ⟨e, _⟩ | ⟨g, c', cur, e, _⟩
  ·cases e
  ·exact ⟨g, c', e⟩
 cases e
 have h1 := yQ hab us.length (by omega)
 rw [show (iv (us ++ [x])).take us.length = iv us by simp [iv]] at h1
 exact ⟨by show (w.heap.modify W0.heap.size _)[W0.heap.size]? = _; rw [Array.getElem?_modify, if_pos rfl, h.box]; rfl, zR h1 h.nb.1, zR h.mr h.nb.2, h.ap, h.low.setCell (Nat.le_refl _) _⟩
theorem WSt.p3 {x : Int} {p : Option Addr} {cap : Nat} (h : WSt W0 w vn va (.slice p (ms.length + 1) cap) us (ms ++ [x]) c o ov) :
  WSt W0 (w.setCell ⟨W0.heap.size, 3, none⟩ (.slice p ms.length cap)) vn va (.slice p ms.length cap) us ms c o ov := by
 have hmk := h.mr
 have hl : (ms ++ [x]).length = ms.length + 1 := by simp
 rw [hl] at hmk
 obtain ⟨g, cap', e⟩ : ∃ g cap', Value.slice p (ms.length + 1) cap = .slice (some ⟨g, 0, none⟩) (ms.length + 1) cap' := by
  rcases hmk.2 with ⟨e, _⟩ | ⟨g, c', cur, e, _⟩
  ·cases e
  ·exact ⟨g, c', e⟩
 cases e
 have h1 := yQ hmk ms.length (by omega)
 rw [show (iv (ms ++ [x])).take ms.length = iv ms by simp [iv]] at h1
 exact ⟨by show (w.heap.modify W0.heap.size _)[W0.heap.size]? = _; rw [Array.getElem?_modify, if_pos rfl, h.box]; rfl, zR h.ab h.nb.1, zR h1 h.nb.2, h.ap, h.low.setCell (Nat.le_refl _) _⟩
end
end Go.Proofs.YtnenoaenjaghhaaDoor
namespace Go.Proofs.YtnenoaenjaghhaaDoor
open Go.RowKit Nt
theorem kf (s : ByteArray) (a b : Nat) : (s.extract a b).size ≤ b - a := by simp; omega
theorem xQ (n : Nat) (hn : n < 16) (w : World) :
  Calls Tryd.prog 80 #[.int .i64 n] w fun e w' => (∃ s, e = .returned (.string s) ∧ s.size ≤ 1) ∧ w' = w := by
 have e2 : (n : Int).tmod 16 = (n : Int) := by rw [Int.tmod_eq_emod_of_nonneg (by omega)]; omega
 have e3 := wi64 ((n : Int) + 1) (by omega) (by omega)
 have h4 : ¬ (16 < (n : Int) + 1) := by omega
 have h5 : (n : Int) < 16 := by omega
 go_enter Tryd.func80, Tryd.ntmps80
 go_wp2
 go_ret
 exact ⟨⟨_, rfl, Nat.le_trans (kf _ _ _) (by omega)⟩, rfl⟩
theorem yL (n : Nat) (hn : n ≤ 255) (w : World) :
  Calls Tryd.prog 80 #[.int .i64 n] w fun e w' => (∃ s, e = .returned (.string s) ∧ s.size ≤ 2) ∧ w' = w := by
 by_cases h : n < 16
 ·exact (xQ n h w).mono fun e w' ⟨⟨s, h1, h2⟩, h3⟩ => ⟨⟨s, h1, by omega⟩, h3⟩
 ·obtain ⟨q, hq⟩ : ∃ q : Nat, n / 16 = q := ⟨_, rfl⟩
  obtain ⟨r, hr⟩ : ∃ r : Nat, n % 16 = r := ⟨_, rfl⟩
  have hc := xQ q (by omega)
  have HC := hide hc
  have e1 : (n : Int) / 16 = (q : Int) := by omega
  have e1' : (n : Int).tdiv 16 = (q : Int) := by rw [Int.tdiv_eq_ediv_of_nonneg (by omega)]; omega
  have e2 : (n : Int).tmod 16 = (r : Int) := by rw [Int.tmod_eq_emod_of_nonneg (by omega)]; omega
  have e3 := wi64 ((r : Int) + 1) (by omega) (by omega)
  have e4 := wi64 (q : Int) (by omega) (by omega)
  have h4 : ¬ (16 < (r : Int) + 1) := by omega
  have h5 : ¬ (n : Int) < 16 := by omega
  have h6 := kf (⟨#[48, 49, 50, 51, 52, 53, 54, 55, 56, 57, 97, 98, 99, 100, 101, 102]⟩ : ByteArray) r (r + 1)
  obtain ⟨d, hd⟩ : ∃ d, (⟨#[48, 49, 50, 51, 52, 53, 54, 55, 56, 57, 97, 98, 99, 100, 101, 102]⟩ : ByteArray).extract r (r + 1) = d := ⟨_, rfl⟩
  rw [hd] at h6
  have HD := hide hd
  clear hc hd hq hr
  go_enter Tryd.func80, Tryd.ntmps80
  go_wp2_with fail
  rw [za HD]
  refine (za HC _).mono ?_
  rintro e w1 ⟨⟨s, rfl, hs⟩, rfl⟩
  have hsz : ¬ 9223372036854775807 < s.size + d.size := by omega
  go_wp2_with fail
  go_ret
  exact ⟨⟨_, rfl, by rw [ByteArray.size_append]; omega⟩, rfl⟩
theorem yM (s : ByteArray) (hs : s.size ≤ 1048576) (w : World) :
  Calls Tryd.prog 66 #[.string s] w fun e w' => (∃ o, e = .returned (.string o) ∧ o.size ≤ 5 * s.size + 2) ∧ w' = w := by
 go_enter Tryd.func66, Tryd.ntmps66
 go_wp2
 go_loopw [3, 4] (fun vo vi wr => ∃ (j : Nat) (o : ByteArray), vo = .string o ∧ vi = .int .i64 j ∧ j ≤ s.size ∧ o.size ≤ 5 * j + 1 ∧ wr = w) (fun _ vi _ => s.size - (intOf vi).toNat)
 case atStart => exact ⟨0, _, rfl, rfl, by omega, by decide, rfl⟩
 case round =>
  obtain ⟨j, o, rfl, rfl, hj, ho, rfl⟩ := hrel
  by_cases hlt : j < s.size
  ·obtain ⟨d, hd⟩ : ∃ d, s[j] = d := ⟨_, rfl⟩
   obtain ⟨n, hn⟩ : ∃ n, d.toNat = n := ⟨_, rfl⟩
   have hn9 : n ≤ 255 := by have := d.toNat_lt; omega
   have hext := kf s j (j + 1)
   have e1 := wi64 ((j : Int) + 1) (by omega) (by omega)
   go_wp2_with fail
   all_goals first
    | (refine (yL n hn9 _).mono ?_
       rintro e w2 ⟨⟨x, rfl, hx⟩, rfl⟩
       have h1 : (⟨#[92, 120]⟩ : ByteArray).size = 2 := rfl
       have h2 : (⟨#[59]⟩ : ByteArray).size = 1 := rfl
       have h3 : ¬ 9223372036854775807 < (o ++ ⟨#[92, 120]⟩ : ByteArray).size + x.size := by rw [ByteArray.size_append]; omega
       have h4 : ¬ 9223372036854775807 < (o ++ ⟨#[92, 120]⟩ ++ x : ByteArray).size + 1 := by rw [ByteArray.size_append, ByteArray.size_append]; omega
       go_wp2_with fail
       refine ⟨⟨j + 1, _, rfl, by push_cast; rfl, by omega, ?_, trivial⟩, by simp [intOf]; omega⟩
       rw [ByteArray.size_append, ByteArray.size_append, ByteArray.size_append]; omega)
    | (refine ⟨⟨j + 1, _, rfl, by push_cast; rfl, by omega, ?_, trivial⟩, by simp [intOf]; omega⟩
       have h1 : (⟨#[92]⟩ : ByteArray).size = 1 := rfl
       have h2 : (⟨#[92, 110]⟩ : ByteArray).size = 2 := rfl
       have h3 : (⟨#[92, 116]⟩ : ByteArray).size = 2 := rfl
       (try rw [ByteArray.size_append]); (try rw [ByteArray.size_append]); omega)
  ·have h2 : (⟨#[34]⟩ : ByteArray).size = 1 := rfl
   go_wp2_with fail
   go_ret
   exact ⟨⟨_, rfl, by rw [ByteArray.size_append]; omega⟩, rfl⟩
theorem xh (s : ByteArray) (hs : s.size ≤ 1048576) (h0 : 0 < s.size) (w : World) :
  Calls Tryd.prog 67 #[.string s] w fun e w' => (∃ o, e = .returned (.string o) ∧ o.size ≤ s.size + 10) ∧ w' = w := by
 obtain ⟨d, hd⟩ : ∃ d, s[0] = d := ⟨_, rfl⟩
 obtain ⟨n, hn⟩ : ∃ n, d.toNat = n := ⟨_, rfl⟩
 have hn9 : n ≤ 255 := by have := d.toNat_lt; omega
 have k1 : (⟨#[35, 92, 120]⟩ : ByteArray).size = 3 := rfl
 have k2 : (⟨#[35, 92]⟩ : ByteArray).size = 2 := rfl
 go_enter Tryd.func67, Tryd.ntmps67
 go_wp2_with fail
 all_goals first
  | (go_ret
     exact ⟨⟨_, rfl, Nat.le_trans (by decide : _ ≤ 10) (by omega)⟩, rfl⟩)
  | (go_ret
     exact ⟨⟨_, rfl, by rw [ByteArray.size_append]; omega⟩, rfl⟩)
  | (refine (yL n hn9 _).mono ?_
     rintro e w2 ⟨⟨x, rfl, hx⟩, rfl⟩
     go_wp2_with fail
     go_ret
     exact ⟨⟨_, rfl, by rw [ByteArray.size_append]; omega⟩, rfl⟩)
theorem Zr (n : Nat) (hn : n ≤ 255) : (dec n).size ≤ 3 := by
 rw [zm]; exact zw (by omega) (by omega) (by omega)
theorem xT (s : ByteArray) (hs : s.size ≤ 1048576) (w : World) :
  Calls Tryd.prog 68 #[.string s] w fun e w' => (∃ o, e = .returned (.string o) ∧ o.size ≤ 4 * s.size + 5) ∧ Below w.heap.size w w' := by
 go_enter Tryd.func68, Tryd.ntmps68
 go_wp2
 go_loopw [3, 4] (fun vo vi wr => ∃ (j : Nat) (o : ByteArray), vo = .string o ∧ vi = .int .i64 j ∧ j ≤ s.size ∧ o.size ≤ 4 * j + 4 ∧ Below w.heap.size w wr) (fun _ vi _ => s.size - (intOf vi).toNat)
 case atStart => exact ⟨0, _, rfl, rfl, by omega, by decide, Below.refl _ _⟩
 case round =>
  obtain ⟨j, o, rfl, rfl, hj, ho, hb⟩ := hrel
  have k1 : (⟨#[32]⟩ : ByteArray).size = 1 := rfl
  have k2 : (⟨#[41]⟩ : ByteArray).size = 1 := rfl
  by_cases hlt : j < s.size
  ·obtain ⟨d, hd⟩ : ∃ d, s[j] = d := ⟨_, rfl⟩
   obtain ⟨n, hn⟩ : ∃ n, d.toNat = n := ⟨_, rfl⟩
   have hn9 : n ≤ 255 := by have := d.toNat_lt; omega
   have e1 := wi64 ((j : Int) + 1) (by omega) (by omega)
   have hdn := Zr n hn9
   have HB := hide hb
   clear hb
   by_cases hj0 : 0 < (j : Int)
   ·have h3 : ¬ 9223372036854775807 < (o ++ ⟨#[32]⟩ : ByteArray).size + (dec n).size := by rw [ByteArray.size_append]; omega
    go_wp2_with fail
    refine (zL n (by omega) _).mono ?_
    rintro e w2 ⟨rfl, hb2⟩
    have HB2 := hide (zi (za HB) hb2)
    clear hb2
    go_wp2_with fail
    refine ⟨⟨j + 1, _, rfl, by push_cast; rfl, by omega, ?_, za HB2⟩, by simp [intOf]; omega⟩
    rw [ByteArray.size_append, ByteArray.size_append]; omega
   ·have h3 : ¬ 9223372036854775807 < o.size + (dec n).size := by omega
    go_wp2_with fail
    refine (zL n (by omega) _).mono ?_
    rintro e w2 ⟨rfl, hb2⟩
    have HB2 := hide (zi (za HB) hb2)
    clear hb2
    go_wp2_with fail
    refine ⟨⟨j + 1, _, rfl, by push_cast; rfl, by omega, ?_, za HB2⟩, by simp [intOf]; omega⟩
    rw [ByteArray.size_append]; omega
  ·have HB := hide hb
   clear hb
   go_wp2_with fail
   go_ret
   exact ⟨⟨_, rfl, by rw [ByteArray.size_append]; omega⟩, za HB⟩
structure Cnt (m : Nat) (c : Int) (o : ByteArray) (ov : Bool) : Prop where
 lo : 0 ≤ c
 hi : c ≤ 4000 + m
 sz : o.size ≤ 4000
 le : ov = false → c ≤ o.size
structure Put (o : ByteArray) (ov : Bool) (k : Nat) (o' : ByteArray) (ov' : Bool) : Prop where
 sz : o'.size ≤ 4000
 up : ov' = false → ov = false ∧ o'.size = o.size + k
theorem Put.cnt {m : Nat} {c : Int} {o o' : ByteArray} {ov ov' : Bool} {k : Nat} (h : Put o ov k o' ov') (hc : Cnt m c o ov) : Cnt m c o' ov' :=
 ⟨hc.lo, hc.hi, h.sz, fun e => by have := h.up e; have := hc.le this.1; omega⟩
def WPut (W0 w w' : World) (vn va vm : Value) (us ms : List Int) (c : Int) (o : ByteArray) (ov : Bool) (k : Nat) : Prop := ∃ o' ov', WSt W0 w' vn va vm us ms c o' ov' ∧ Put o ov k o' ov' ∧ Oth w w'
theorem put_c (W0 w : World) (vn va vm : Value) (us ms : List Int) (c : Int) (o s : ByteArray) (ov : Bool) (h : WSt W0 w vn va vm us ms c o ov) (ho : o.size ≤ 4000) (hs : s.size ≤ 6000000) :
  Calls Tryd.prog 41 #[.pointer (some ⟨W0.heap.size, 0, none⟩), .string s] w fun e w' => (∃ u, e = .returned u) ∧ WPut W0 w w' vn va vm us ms c o ov s.size := by
 have H := hide h
 have n5 := h.n5
 have n6 := h.n6
 have f5 := h.f 5
 have f6 := h.f 6
 have e1 := wi64 ((o.size : Int) + (s.size : Int)) (by omega) (by omega)
 clear h
 by_cases hl : (4000 : Int) < (o.size : Int) + (s.size : Int)
 ·go_enter Tryd.func41, Tryd.ntmps41
  go_wp2_with fail
  refine bodyPost_ret (results_none rfl _ _ _) rfl ?_
  exact ⟨⟨_, rfl⟩, _, _, (za H).s6 true, ⟨ho, fun e => by cases e⟩, (za H).ob _ _⟩
 ·go_enter Tryd.func41, Tryd.ntmps41
  go_wp2_with fail
  go_end0
  exact ⟨⟨_, rfl⟩, _, _, (za H).s5 _, ⟨by rw [ByteArray.size_append]; omega, fun e => ⟨e, ByteArray.size_append ..⟩⟩, (za H).ob _ _⟩
theorem qo {a b : Int} (h : a = b) : (a == b) = true := by rw [beq_iff_eq]; exact h
theorem zF {a b : Int} (h : a ≠ b) : (a == b) = false := by rw [beq_eq_false_iff_ne]; exact h
theorem kK (W0 w : World) (vn va vm : Value) (us ms : List Int) (c : Int) (o : ByteArray) (ov : Bool) (x : Int) (h : WSt W0 w vn va vm us ms c o ov) (hl : us.length = ms.length) (hm : ∀ y ∈ ms, 0 ≤ y ∧ y ≤ 4001) :
  Calls Tryd.prog 52 #[.pointer (some ⟨W0.heap.size, 0, none⟩), .int .i64 x] w fun e w' => (∃ s, e = .returned (.tuple #[.string s, .bool (!decide (x ∈ us))]) ∧ s.size ≤ 20) ∧ Below w.heap.size w w' := by
 have H := hide h
 have HM := hide hm
 have HL := hide hl
 have n2 := h.n2
 have n3 := h.n3
 have hIA := zz h.ab
 have hIM := zz h.mr
 obtain ⟨a, ca, rfl, k1, k2, k3⟩ := id hIA
 obtain ⟨b, cb, rfl, l1, l2, l3⟩ := id hIM
 unfold maxLen at k2 l2
 have HA := hide hIA
 have HB := hide hIM
 clear h hm k3 l3 hIA hIM hl
 go_enter Tryd.func52, Tryd.ntmps52
 go_wp2_with fail
 go_loopw [6] (fun vi wr => ∃ j : Nat, vi = .int .i64 j ∧ j ≤ us.length ∧ Hid (∀ i y, i < j → us[i]? = some y → y ≠ x) ∧ wr = w) (fun vi _ => us.length - (intOf vi).toNat)
 case atStart => exact ⟨0, rfl, by omega, hide (fun i y h => by omega), rfl⟩
 case round =>
  obtain ⟨j, rfl, hj, hall, rfl⟩ := hrel
  by_cases hlt : j < us.length
  ·obtain ⟨y, hy⟩ : ∃ y, us[j]? = some y := ⟨_, List.getElem?_eq_getElem hlt⟩
   obtain ⟨ba, oa, ea, hba, hca⟩ := (za HA).cell hy
   subst ea
   by_cases hyx : y = x
   ·have hlb : j < ms.length := by have := za HL; omega
    obtain ⟨z, hz⟩ : ∃ z, ms[j]? = some z := ⟨_, List.getElem?_eq_getElem hlb⟩
    obtain ⟨bb, ob, eb, hbb, hcb⟩ := (za HB).cell hz
    subst eb
    have hz9 := (za HM) z (List.mem_of_getElem? hz)
    obtain ⟨q, rfl⟩ : ∃ q : Nat, z = (q : Int) := ⟨z.toNat, by omega⟩
    have he := qo hyx
    have HIN : Hid (decide (x ∈ us) = true) := hide (by rw [decide_eq_true_eq, ← hyx]; exact List.mem_of_getElem? hy)
    have hdq : (dec q).size ≤ 20 := by rw [zm]; exact Nat.le_trans (zw (k := 20) (by omega) (by omega) (by omega)) (by omega)
    clear hy hz hyx hall
    go_wp2_with fail
    refine (zL q (by omega) _).mono ?_
    rintro e w2 ⟨rfl, hb2⟩
    have HB2 := hide hb2
    clear hb2
    go_wp2_with fail
    go_ret2
    exact ⟨⟨_, by rw [za HIN]; rfl, hdq⟩, za HB2⟩
   ·have he := zF hyx
    have HALL : Hid (∀ i y, i < j + 1 → us[i]? = some y → y ≠ x) := hide (fun i z hi hz => by
     by_cases e : i = j
     ·subst e; rw [hy] at hz; cases hz; exact hyx
     ·exact (za hall) i z (by omega) hz)
    clear hy hyx hall
    go_wp2_with fail
    go_roundw
    case rel => exact ⟨j + 1, by go_num, by omega, HALL, trivial⟩
    case measure => simp [intOf]; omega
  ·have HIN : Hid (decide (x ∈ us) = false) := hide (by
    rw [decide_eq_false_iff_not]
    intro hm
    obtain ⟨i, hi⟩ := List.getElem?_of_mem hm
    exact (za hall) i x (by have := (List.getElem?_eq_some_iff.1 hi).1; omega) hi rfl)
   clear hall
   go_wp2_with fail
   go_ret2
   exact ⟨⟨_, by rw [za HIN]; rfl, by decide⟩, Below.refl _ _⟩
def nextS (us : List Int) (x : Int) : List Int → List Int → Option (List Int)
 | [], ss => some ss
 | y :: r, ss => if y = x then none else nextS us x r (if zq ss y < 0 ∧ zq us y < 0 then ss ++ [y] else ss)
def jc (ns : List Nd) (us : List Int) (x : Int) : Nat → Nat → List Int → Bool
 | 0, _, _ => false
 | f + 1, i, ss => match ss[i]? with
  | none => false
  | some g => match nextS us x (ndAt ns g.toNat).2.2 ss with
   | none => true
   | some s2 => jc ns us x f (i + 1) s2
def qL (ns : List Nd) (us : List Int) (x : Int) : Bool := jc ns us x (ns.length + 1) 0 [x]
theorem ZE {us : List Int} {x y : Int} {ks : List Int} {j : Nat} (h : ks[j]? = some y) (ss : List Int) : nextS us x (ks.drop j) ss = if y = x then none else nextS us x (ks.drop (j + 1)) (if zq ss y < 0 ∧ zq us y < 0 then ss ++ [y] else ss) := by
 obtain ⟨hj, he⟩ := List.getElem?_eq_some_iff.1 h
 rw [List.drop_eq_getElem_cons hj, he]
 rfl
theorem xv {o : List Int} {g : Int} (h : zq o g < 0) : g ∉ o := fun hm => by have := vr hm; omega
theorem jK (vn va : Value) (ns : List Nd) (us : List Int) (x : Int) (w : World) (hn : NodesAt w vn ns) (hk : NdsOk ns) (ha : IntsAt w va us) (hx0 : 0 ≤ x) (hx1 : x < ns.length) (hs : ns.length ≤ 1000) :
  Calls Tryd.prog 70 #[vn, .int .i64 x, va] w fun e w' => e = .returned (.bool (qL ns us x)) ∧ Below w.heap.size w w' := by
 obtain ⟨i0, hi, hz0, hz1, hz2⟩ := info_parts Tryd.infoInt
 obtain ⟨bn, on, cn, rfl, hn1, hn2, hbn⟩ := hn.form (by omega)
 obtain ⟨aa, ca, rfl, ha1, ha2⟩ := ha.form
 unfold maxLen at hn2 ha2
 have HN := hide hn
 have HK := hide hk
 have HU := hide ha
 have h0 : (w.alloc (.cells #[.int .i64 x] 3)).ownsRow w.heap.size 3 1 (.slice (some ⟨w.heap.size, 0, none⟩) 1 1) [x].length (iv [x]) := World.ownsRow_lit (base := w.heap.size) (e := 3) (size := 1) w #[.int .i64 x] 1 (Nat.le_refl _) (by decide) (by simp)
 have HO := hide h0
 have HB := hide (zh (Below.refl w.heap.size w) (.cells #[.int .i64 x] 3))
 have HI : Hid (InR ns.length [x]) := hide ⟨by simp, fun y hy => by simp at hy; subst hy; omega⟩
 clear hn hk ha h0
 go_enter Tryd.func70, Tryd.ntmps70
 go_wp2_with fail
 go_loopw [7, 8] (fun sv iv' wr => ∃ (ss : List Int) (i : Nat), iv' = .int .i64 i ∧ i ≤ ss.length ∧ Hid (wr.ownsRow w.heap.size 3 1 sv ss.length (iv ss)) ∧ Hid (Below w.heap.size w wr) ∧ Hid (InR ns.length ss) ∧ Hid (qL ns us x = jc ns us x (ns.length + 1 - i) i ss)) (fun _ iv' _ => ns.length - (intOf iv').toNat)
 case atStart => exact ⟨[x], 0, rfl, by omega, HO, HB, HI, hide rfl⟩
 case round =>
  clear HO HB HI
  obtain ⟨ss, i, rfl, hil, hown, hb, hin, hf⟩ := hrel
  have hlen := (za hin).len
  obtain ⟨oa, oc, rfl, ho1, ho2⟩ := (zz (za hown)).form
  unfold maxLen at ho2
  by_cases hlt : i < ss.length
  ·obtain ⟨g, hg⟩ : ∃ g, ss[i]? = some g := ⟨_, List.getElem?_eq_getElem hlt⟩
   obtain ⟨ob, oo, rfl, hob, hoc⟩ := (zz (za hown)).cell hg
   have hgr := (za hin).2 g (List.mem_of_getElem? hg)
   obtain ⟨q, rfl⟩ : ∃ q : Nat, g = (q : Int) := ⟨g.toNat, by omega⟩
   obtain ⟨nd, hnd⟩ : ∃ nd, ns[q]? = some nd := ⟨_, List.getElem?_eq_getElem (by omega)⟩
   obtain ⟨kv, c0, c1, c2', _, hkv⟩ := (za HN).node hnd
   have c2 := c2'
   rw [← (za hb).cell (p := ⟨bn, on + q * 3 + 2, none⟩) hbn] at c2
   obtain ⟨ka, kc, rfl, hkc1, hkc2⟩ := hkv.form
   unfold maxLen at hkc2
   have hks := (za HK).kids nd (List.mem_of_getElem? hnd)
   have HKS := hide hks
   obtain ⟨f, hfe⟩ : ∃ f, ns.length + 1 - i = f + 1 := ⟨ns.length - i, by omega⟩
   have hf2 := za hf
   rw [hfe] at hf2
   unfold jc at hf2
   rw [hg] at hf2
   dsimp only at hf2
   rw [Int.toNat_natCast, qr hnd] at hf2
   have HF := hide hf2
   have hff : f = ns.length + 1 - (i + 1) := by omega
   clear hf2 hfe hf
   have HKV := hide hkv
   have hq : q < ns.length := by omega
   obtain ⟨wk, hwk⟩ : ∃ wk, wk = wr := ⟨_, rfl⟩
   subst hwk
   clear hks hkv hg hnd c0 c1 c2' hgr
   go_wp2_with fail
   go_loopw [7, 10] (fun sv jv wr => ∃ (ss' : List Int) (j : Nat), jv = .int .i64 j ∧ j ≤ nd.2.2.length ∧ i < ss'.length ∧ Hid (wr.ownsRow w.heap.size 3 1 sv ss'.length (iv ss')) ∧ Hid (Below w.heap.size w wr) ∧ Hid (InR ns.length ss') ∧ Hid (nextS us x nd.2.2 ss = nextS us x (nd.2.2.drop j) ss')) (fun _ jv _ => nd.2.2.length - (intOf jv).toNat)
   case atStart => exact ⟨ss, 0, rfl, by omega, hlt, hown, hb, hin, hide rfl⟩
   case round =>
    clear hown hb hin hoc c2
    obtain ⟨s2, j, rfl, hj, hi2, hown, hb, hin, hnx⟩ := hrel
    have hlen2 := (za hin).len
    obtain ⟨pa, pc, rfl, hp1, hp2⟩ := (zz (za hown)).form
    unfold maxLen at hp2
    by_cases hj2 : j < nd.2.2.length
    ·obtain ⟨y, hy⟩ : ∃ y, nd.2.2[j]? = some y := ⟨_, List.getElem?_eq_getElem hj2⟩
     obtain ⟨kb, ko, rfl, hkb, hkc⟩ := ((za HKV).below (za hb)).cell hy
     have hyr := (za HKS) y (List.mem_of_getElem? hy)
     have hnx2 := za hnx
     rw [ZE hy] at hnx2
     by_cases hyx : y = x
     ·have he := qo hyx
      rw [if_pos hyx] at hnx2
      have HR : Hid (qL ns us x = true) := hide (by rw [za HF, hnx2])
      clear hy hnx2 hnx hyx
      go_wp2_with fail
      go_ret
      exact ⟨by rw [za HR]; rfl, za hb⟩
     ·have he := zF hyx
      rw [if_neg hyx] at hnx2
      have HNX := hide hnx2
      clear hy hnx2 hnx hyx
      go_wp2_with fail
      refine (qS _ s2 y _ (zz (za hown))).mono ?_
      rintro e w2 ⟨rfl, hb2⟩
      obtain ⟨z1, hz1'⟩ : ∃ z1, zq s2 y = z1 := ⟨_, rfl⟩
      rw [hz1']
      have HZ1 := hide hz1'
      have HB2 := hide ((za hb).trans (hb2.mono (za hb).size))
      have HO2 := hide (zk (za hown) hb2)
      have HU2 := hide ((za HU).below (za HB2))
      have hkc2' : w2.cell? ⟨kb, ko + j, none⟩ = some (.int .i64 y) := by rw [hb2.cell (p := ⟨kb, ko + j, none⟩) hkb]; exact hkc
      have HYR := hide hyr
      clear hz1' hb2 hown hb hkc hyr
      by_cases hz : z1 < 0
      ·go_wp2_with fail
       refine (qS _ us y _ (za HU2)).mono ?_
       rintro e w3 ⟨rfl, hb3⟩
       obtain ⟨z2, hz2'⟩ : ∃ z2, zq us y = z2 := ⟨_, rfl⟩
       rw [hz2']
       have HZ2 := hide hz2'
       have HB3 := hide ((za HB2).trans (hb3.mono (za HB2).size))
       have HO3 := hide (zk (za HO2) hb3)
       have hkb3 : kb < w2.heap.size := World.block_lt_of_cell? w2 _ hkc2'
       have hkc3 : w3.cell? ⟨kb, ko + j, none⟩ = some (.int .i64 y) := by rw [hb3.cell (p := ⟨kb, ko + j, none⟩) hkb3]; exact hkc2'
       clear hz2' hb3 HB2 HO2 HU2 hkc2'
       by_cases hzz : z2 < 0
       ·have hni : y ∉ s2 := xv (by rw [za HZ1]; exact hz)
        have HIN2 := hide ((za hin).snoc (g := y) (za HYR) hni)
        have hsz := (za HB3).size
        clear hni
        go_wp2_with (at_builtin; refine wpList_append_own _ rfl (.tmp 55) (.tmp 60) 59 rfl w.heap.size 3 i0 (.int .i64 0) 1 8 Tryd.underlying59 hi hz0 hz1 hz2 rfl (by decide) _ _ _ rfl ((za HO3).alloc _) ⟨w3.heap.size, 0, none⟩ 1 1 [.int .i64 y] rfl rfl (cell_one_new _ _ _) (by intro u hu; simp at hu; subst hu; rfl) (by unfold maxLen; omega) (by omega) (by simp; omega) ?_; intro v2 w4 hown2 hg2 hxx; clear hxx; have HOW := hide hown2; have HG := hide hg2; clear hown2 hg2)
        have HO4 : Hid (w4.ownsRow w.heap.size 3 1 v2 (s2 ++ [y]).length (iv (s2 ++ [y]))) := hide (by simpa [iv] using za HOW)
        have hb4 := zy ((za HB3).alloc hsz (.cells #[.int .i64 y] 3)) ((za HO3).alloc _) (za HG) (by simp; omega)
        have HB4 := hide hb4
        have HN4 : Hid (nextS us x nd.2.2 ss = nextS us x (nd.2.2.drop (j + 1)) (s2 ++ [y])) := hide (by rw [za HNX, za HZ1, za HZ2, if_pos ⟨hz, hzz⟩])
        exact ⟨⟨s2 ++ [y], j + 1, by go_num, by omega, by simp; omega, HO4, HB4, HIN2, HN4⟩, by simp [intOf]; omega⟩
       ·have HN4 : Hid (nextS us x nd.2.2 ss = nextS us x (nd.2.2.drop (j + 1)) s2) := hide (by rw [za HNX, za HZ1, za HZ2, if_neg (fun h => hzz h.2)])
        go_wp2_with fail
        go_roundw
        case rel => exact ⟨s2, j + 1, by go_num, by omega, hi2, HO3, HB3, hin, HN4⟩
        case measure => simp [intOf]; omega
      ·have HN4 : Hid (nextS us x nd.2.2 ss = nextS us x (nd.2.2.drop (j + 1)) s2) := hide (by rw [za HNX, za HZ1, if_neg (fun h => hz h.1)])
       go_wp2_with fail
       go_roundw
       case rel => exact ⟨s2, j + 1, by go_num, by omega, hi2, HO2, HB2, hin, HN4⟩
       case measure => simp [intOf]; omega
    ·have HF4 : Hid (qL ns us x = jc ns us x (ns.length + 1 - (i + 1)) (i + 1) s2) := hide (by rw [za HF, za hnx, List.drop_eq_nil_of_le (by omega), ← hff]; rfl)
     clear hnx hff
     go_wp2_with fail
     go_roundw
     case rel => exact ⟨s2, i + 1, by go_num, by omega, hown, hb, hin, HF4⟩
     case measure => simp [intOf]; omega
  ·have HR : Hid (qL ns us x = false) := hide (by
    rw [za hf]
    obtain ⟨f, hfe⟩ : ∃ f, ns.length + 1 - i = f + 1 := ⟨ns.length - i, by omega⟩
    rw [hfe]
    unfold jc
    rw [List.getElem?_eq_none (by omega)])
   clear hin hf
   go_wp2_with fail
   go_ret
   exact ⟨by rw [za HR]; rfl, za hb⟩
theorem kN {w : World} {base n : Nat} {e : TypeId} {p : Option Addr} {cap : Nat} {xs : List Value} (h : w.ownsRow base e 1 (.slice p n cap) n xs) : n ≤ cap ∧ cap ≤ maxLen := by
 rcases h.2 with ⟨e, rfl⟩ | ⟨g, c', cur, e, _, _, h1, h2, _⟩
 ·injection e with _ _ e; subst e; unfold maxLen; omega
 ·injection e with _ _ e; subst e; exact ⟨h1, h2⟩
theorem ym (W0 w : World) (vn : Value) (p q : Option Addr) (cp cq : Nat) (us ms : List Int) (x y c : Int) (o : ByteArray) (ov : Bool) (h : WSt W0 w vn (.slice p (us.length + 1) cp) (.slice q (ms.length + 1) cq) (us ++ [x]) (ms ++ [y]) c o ov) (hu : us.length ≤ 1000000) (hm : ms.length ≤ 1000000) :
  Calls Tryd.prog 56 #[.pointer (some ⟨W0.heap.size, 0, none⟩)] w fun e w' => (∃ u, e = .returned u) ∧ ∃ va' vm', WSt W0 w' vn va' vm' us ms c o ov ∧ Oth w w' := by
 have hab := h.ab
 have hmr := h.mr
 rw [List.length_append, List.length_singleton] at hab hmr
 have k1 := kN hab
 have k2 := kN hmr
 unfold maxLen at k1 k2
 have H2 := hide h.p2.drew
 have HQ2 := hide ((h.ob 2 (.slice p us.length cp)).trans (Oth.below (Below.refl _ _).drew))
 have n2 := h.n2
 have f2 := h.f 2
 clear h hab hmr
 obtain ⟨n, hn⟩ : ∃ n, us.length = n := ⟨_, rfl⟩
 obtain ⟨m, hm'⟩ : ∃ m, ms.length = m := ⟨_, rfl⟩
 rw [hn] at hu k1 n2 H2 HQ2
 have e1 : IntKind.i64.wrap (((n + 1 : Nat) : Int) - 1) = (n : Int) := by rw [show ((n + 1 : Nat) : Int) - 1 = (n : Int) by omega]; exact wi64 _ (by omega) (by omega)
 rw [hm'] at hm k2
 have e2 : IntKind.i64.wrap (((m + 1 : Nat) : Int) - 1) = (m : Int) := by rw [show ((m + 1 : Nat) : Int) - 1 = (m : Int) by omega]; exact wi64 _ (by omega) (by omega)
 have e3 : ((n + 1 : Nat) : Int) - 1 = (n : Int) := by omega
 have e4 : ((m + 1 : Nat) : Int) - 1 = (m : Int) := by omega
 have e5 := wi64 (n : Int) (by omega) (by omega)
 have e6 := wi64 (m : Int) (by omega) (by omega)
 clear hn
 have k3 : n ≤ cp := by omega
 have k4 : m ≤ cq := by omega
 go_enter Tryd.func56, Tryd.ntmps56
 go_wp2_with fail
 go_region
 have H3 := hide (za H2).p3.drew
 have HQ3 := hide ((za HQ2).trans (((za H2).ob 3 (.slice q ms.length cq)).trans (Oth.below (Below.refl _ _).drew)))
 have n3 := (za H2).n3
 have f3 := (za H2).f 3
 rw [hm'] at n3 H3 HQ3
 obtain ⟨W1, hW⟩ : ∃ W1, (w.setCell ⟨W0.heap.size, 2, none⟩ (.slice p n cp)).drew = W1 := ⟨_, rfl⟩
 rw [hW] at H3 n3 f3 HQ3 ⊢
 clear hW hm' n2 f2 H2 HQ2
 go_wp2_with fail
 go_region
 go_end0
 exact ⟨⟨_, rfl⟩, _, _, za H3, za HQ3⟩
theorem WSt.gn {W0 w w' : World} {vn va vm : Value} {us ms : List Int} {c : Int} {o : ByteArray} {ov : Bool} {r : Option Nat} (h : WSt W0 w vn va vm us ms c o ov) (hg : w.grownBy w' r) (hr : r ≠ some W0.heap.size) (j : Nat) :
  w'.cell? ⟨W0.heap.size, j, none⟩ = w.cell? ⟨W0.heap.size, j, none⟩ ∧ w'.frozen? ⟨W0.heap.size, j, none⟩ = false := by
 have e := (hg.block _ h.lt hr.symm).trans h.box
 constructor
 ·simp [World.cell?, e, h.box]
 ·simp [World.frozen?, e]
def WGo (W0 w w' : World) (vn : Value) (us ms : List Int) (ov : Bool) : Prop := ∃ va' vm' c' o' ov', WSt W0 w' vn va' vm' us ms c' o' ov' ∧ Cnt 1 c' o' ov' ∧ (ov = true → ov' = true) ∧ Oth w w'
theorem Cnt.mono {m n : Nat} {c : Int} {o : ByteArray} {ov : Bool} (h : Cnt m c o ov) (hm : m ≤ n) : Cnt n c o ov := ⟨h.lo, by have := h.hi; omega, h.sz, h.le⟩
theorem Put.ov {o o' : ByteArray} {ov ov' : Bool} {k : Nat} (h : Put o ov k o' ov') : ov = true → ov' = true := fun e => by
 cases e2 : ov' with
 | true => rfl
 | false => have := (h.up e2).1; rw [this] at e; cases e
theorem ZZ (q : Nat) (h : q ≤ 5000) : 1 ≤ (dec q).size ∧ (dec q).size ≤ 4 := by
 rw [zm]
 exact ⟨qz (by omega) _, zw (by omega) (by omega) (by omega)⟩
theorem ye (W0 w : World) (vn va vm : Value) (ns : List Nd) (us ms : List Int) (c x : Int) (o : ByteArray) (ov : Bool) (h : WSt W0 w vn va vm us ms c o ov) (hn : NodesAt W0 vn ns) (hk : NdsOk ns) (hx0 : 0 ≤ x) (hx1 : x < ns.length) (hs : ns.length ≤ 1000)
  (hc : Cnt 0 c o ov) (hul : us.length ≤ 1000) (hml : ms.length ≤ 1000) :
  Calls Tryd.prog 53 #[.pointer (some ⟨W0.heap.size, 0, none⟩), .int .i64 x] w fun e w' => (∃ u, e = .returned u) ∧ WGo W0 w w' vn (us ++ [x]) (ms ++ [c]) ov := by
 obtain ⟨i0, hi, hz0, hz1, hz2⟩ := info_parts Tryd.infoInt
 obtain ⟨ap, ac, rfl⟩ := zH h.ab
 obtain ⟨mp, mc, rfl⟩ := zH h.mr
 have H := hide h
 have HN : Hid (NodesAt w vn ns) := hide (hn.below h.low)
 have HU := hide (zz h.ab)
 have n0 := h.n0
 have n2 := h.n2
 have HC := hide hc
 have HK := hide hk
 clear h hn hc hk
 go_enter Tryd.func53, Tryd.ntmps53
 go_wp2_with fail
 go_region_with (go_at_call 70; refine (jK vn _ ns us x _ (by exact za HN) (za HK) (by exact za HU) hx0 hx1 hs).mono ?_; rintro e w1 ⟨rfl, hb1⟩; obtain ⟨ar, har⟩ : ∃ ar, qL ns us x = ar := ⟨_, rfl⟩; rw [har]; clear har; have hb1' : Below w.heap.size w w1 := zt hb1; have HB1 := hide hb1'; have HQ := hide (Oth.below hb1'); clear hb1 hb1')
 all_goals
  replace H := hide ((za H).below (za HB1))
  have m4 := (za H).n4
  clear HB1 n0 n2 HU HN
  cases ar
  case true =>
   obtain ⟨q, rfl⟩ : ∃ q : Nat, c = (q : Int) := ⟨c.toNat, by have := (za HC).lo; omega⟩
   have hq : q ≤ 4000 := by have := (za HC).hi; omega
   have hd1 := ZZ q (by omega)
   have k1 : (⟨#[35]⟩ : ByteArray).size = 1 := rfl
   have k2 : (⟨#[61]⟩ : ByteArray).size = 1 := rfl
   have k3 : ¬ 9223372036854775807 < (⟨#[35]⟩ ++ dec q : ByteArray).size + 1 := by rw [ByteArray.size_append]; omega
   go_wp2_with fail
   refine (zL q (by omega) _).mono ?_
   rintro e w2 ⟨rfl, hb2⟩
   replace H := hide ((za H).below hb2)
   replace HQ := hide ((za HQ).trans (Oth.below hb2))
   clear hb2 m4
   go_wp2_with fail
   refine (put_c W0 w2 vn _ _ us ms _ o _ ov (za H) (za HC).sz (by rw [ByteArray.size_append, ByteArray.size_append]; omega)).mono ?_
   rintro e w3 ⟨⟨u, rfl⟩, o3, ov3, h3, hp3, hq3⟩
   have H3 := hide h3
   replace HQ := hide ((za HQ).trans hq3)
   clear hq3
   have HC3 : Hid (Cnt 0 q o3 ov3 ∧ (ov3 = false → (q : Int) + 1 ≤ o3.size) ∧ (ov = true → ov3 = true)) := hide ⟨hp3.cnt (za HC), fun e => by have h1 := hp3.up e; have h2 := (za HC).le h1.1; rw [ByteArray.size_append, ByteArray.size_append] at h1; omega, hp3.ov⟩
   clear h3 hp3
   have hlt3 := (za H3).lt
   have n2 := (za H3).n2
   have f2 := (za H3).f 2
   go_wp2_with (at_builtin; refine wpList_append_own_at _ rfl (.tmp 29) (.tmp 31) 59 rfl (W0.heap.size + 1) 3 i0 (.int .i64 0) 1 8 Tryd.underlying59 hi hz0 hz1 hz2 rfl (by decide) _ _ _ rfl ((za H3).ab.alloc _) ⟨w3.heap.size, 0, none⟩ 1 1 [.int .i64 x] rfl rfl (cell_one_new _ _ _) (by intro u hu; simp at hu; subst hu; rfl) (by unfold maxLen; omega) (by omega) (by simp; omega) ?_; intro v4 w4 hown4 hgrow4 hnil4 hloc4; obtain ⟨pa, pc, rfl⟩ := zH hown4; have hal := (za H3).alloc (.cells #[.int .i64 x] 3); have m2 := (hal.gn hgrow4 hal.nb.1 2).1.trans hal.n2; have g2 := (hal.gn hgrow4 hal.nb.1 2).2; have HQ4 := hide (((za HQ).trans (Oth.alloc _ (.cells #[.int .i64 x] 3))).trans (hal.og hgrow4 (fun k hk => jr hal.ab hk) 2 (.slice pa (us.length + 1) pc))); have H4 := hide (hal.s2 (us' := us ++ [x]) hgrow4 (by simpa [iv] using hown4) hloc4); clear hown4 hgrow4 hnil4 hloc4 hal)
   obtain ⟨W4, hW4⟩ : ∃ W4, w4.setCell ⟨W0.heap.size, 2, none⟩ (.slice pa (us.length + 1) pc) = W4 := ⟨_, rfl⟩
   rw [hW4] at H4 HQ4 ⊢
   clear hW4 m2 g2 n2 f2 hlt3
   have n3 := (za H4).n3
   have n4 := (za H4).n4
   have f3 := (za H4).f 3
   have HAL := hide ((za H4).alloc (.cells #[.int .i64 (q : Int)] 3))
   have a3 := (za HAL).n3
   have a4 := (za HAL).n4
   have b3 := (za HAL).f 3
   have hlt4 := (za H4).lt
   go_wp2_with fail
   go_region_law (first | ((refine step_append_lies _ (by rfl) _ _ _ (by rfl) (W0.heap.size + 1) 3 i0 (.int .i64 0) 1 8 Tryd.underlying59 hi hz0 hz1 hz2 rfl (by decide) (.slice mp ms.length mc) ms.length (iv ms) (by rfl) (by exact (za H4).mr.alloc (.cells #[.int .i64 (q : Int)] 3)) ⟨W4.heap.size, 0, none⟩ 1 1 [.int .i64 (q : Int)] (by rfl) (by rfl) (by exact World.news_of_block (cs := #[.int .i64 (q : Int)]) (t := 3) (fr := (0, 0)) (heap_alloc_new W4 _)) (by simp [Value.oneCell']) (by omega) (by unfold maxLen; omega) (by omega) (by simp; omega) (W4.heap.size + 1) (by simp) ?_; intro gg cap w5 hown5 hgrow5 hat5 hlt5; have hal := (za HAL).drew; have p3 := (hal.gn hgrow5 hal.nb.2 3).1.trans hal.n3; have q3 := (hal.gn hgrow5 hal.nb.2 3).2; have HQ5 := hide (((za HQ4).trans ((Oth.alloc W4 (.cells #[.int .i64 (q : Int)] 3)).trans (Oth.below (Below.refl _ _).drew))).trans (hal.og hgrow5 (fun k hk => jr hal.mr hk) 3 (.slice (some ⟨gg, 0, none⟩) (ms.length + 1) cap))); have H5 := hide (hal.s3 (ms' := ms ++ [(q : Int)]) hgrow5 (by simpa [iv] using hown5) (by rcases hat5 with h | h; exact .inl h.symm; exact .inr (by simp [Value.ownBlock, h]))); clear hal hown5 hgrow5 hat5 hlt5)))
   all_goals
    clear p3 q3 n3 n4 f3 a3 a4 b3 HAL H4 hlt4
    obtain ⟨W5, hW5⟩ : ∃ W5, w5.setCell ⟨W0.heap.size, 3, none⟩ (.slice (some ⟨gg, 0, none⟩) (ms.length + 1) cap) = W5 := ⟨_, rfl⟩
    rw [hW5] at H5 HQ5 ⊢
    clear hW5
    have m4 := (za H5).n4
    have f4 := (za H5).f 4
    have e4 := wi64 ((q : Int) + 1) (by omega) (by omega)
    go_wp2_with fail
    go_end0
    refine ⟨⟨_, rfl⟩, _, _, _, _, _, (za H5).s4 _, ⟨by omega, by omega, (za HC3).1.sz, fun e => (za HC3).2.1 e⟩, (za HC3).2.2, (za HQ5).trans ((za H5).ob _ _)⟩
  case false =>
   clear m4
   have hlt3 := (za H).lt
   have n2 := (za H).n2
   have f2 := (za H).f 2
   go_wp2_with (at_builtin; refine wpList_append_own_at _ rfl (.tmp 29) (.tmp 31) 59 rfl (W0.heap.size + 1) 3 i0 (.int .i64 0) 1 8 Tryd.underlying59 hi hz0 hz1 hz2 rfl (by decide) _ _ _ rfl ((za H).ab.alloc _) ⟨w1.heap.size, 0, none⟩ 1 1 [.int .i64 x] rfl rfl (cell_one_new _ _ _) (by intro u hu; simp at hu; subst hu; rfl) (by unfold maxLen; omega) (by omega) (by simp; omega) ?_; intro v4 w4 hown4 hgrow4 hnil4 hloc4; obtain ⟨pa, pc, rfl⟩ := zH hown4; have hal := (za H).alloc (.cells #[.int .i64 x] 3); have m2 := (hal.gn hgrow4 hal.nb.1 2).1.trans hal.n2; have g2 := (hal.gn hgrow4 hal.nb.1 2).2; have HQ4 := hide (((za HQ).trans (Oth.alloc _ (.cells #[.int .i64 x] 3))).trans (hal.og hgrow4 (fun k hk => jr hal.ab hk) 2 (.slice pa (us.length + 1) pc))); have H4 := hide (hal.s2 (us' := us ++ [x]) hgrow4 (by simpa [iv] using hown4) hloc4); clear hown4 hgrow4 hnil4 hloc4 hal)
   obtain ⟨W4, hW4⟩ : ∃ W4, w4.setCell ⟨W0.heap.size, 2, none⟩ (.slice pa (us.length + 1) pc) = W4 := ⟨_, rfl⟩
   rw [hW4] at H4 HQ4 ⊢
   clear hW4 m2 g2 n2 f2 hlt3
   have n3 := (za H4).n3
   have n4 := (za H4).n4
   have f3 := (za H4).f 3
   have HAL := hide ((za H4).alloc (.cells #[.int .i64 c] 3))
   have a3 := (za HAL).n3
   have a4 := (za HAL).n4
   have b3 := (za HAL).f 3
   have hlt4 := (za H4).lt
   go_wp2_with fail
   go_region_law (first | ((refine step_append_lies _ (by rfl) _ _ _ (by rfl) (W0.heap.size + 1) 3 i0 (.int .i64 0) 1 8 Tryd.underlying59 hi hz0 hz1 hz2 rfl (by decide) (.slice mp ms.length mc) ms.length (iv ms) (by rfl) (by exact (za H4).mr.alloc (.cells #[.int .i64 c] 3)) ⟨W4.heap.size, 0, none⟩ 1 1 [.int .i64 c] (by rfl) (by rfl) (by exact World.news_of_block (cs := #[.int .i64 c]) (t := 3) (fr := (0, 0)) (heap_alloc_new W4 _)) (by simp [Value.oneCell']) (by omega) (by unfold maxLen; omega) (by omega) (by simp; omega) (W4.heap.size + 1) (by simp) ?_; intro gg cap w5 hown5 hgrow5 hat5 hlt5; have hal := (za HAL).drew; have p3 := (hal.gn hgrow5 hal.nb.2 3).1.trans hal.n3; have q3 := (hal.gn hgrow5 hal.nb.2 3).2; have HQ5 := hide (((za HQ4).trans ((Oth.alloc W4 (.cells #[.int .i64 c] 3)).trans (Oth.below (Below.refl _ _).drew))).trans (hal.og hgrow5 (fun k hk => jr hal.mr hk) 3 (.slice (some ⟨gg, 0, none⟩) (ms.length + 1) cap))); have H5 := hide (hal.s3 (ms' := ms ++ [c]) hgrow5 (by simpa [iv] using hown5) (by rcases hat5 with h | h; exact .inl h.symm; exact .inr (by simp [Value.ownBlock, h]))); clear hal hown5 hgrow5 hat5 hlt5)))
   all_goals
    clear p3 q3 n3 n4 f3 a3 a4 b3 HAL H4 hlt4
    obtain ⟨W5, hW5⟩ : ∃ W5, w5.setCell ⟨W0.heap.size, 3, none⟩ (.slice (some ⟨gg, 0, none⟩) (ms.length + 1) cap) = W5 := ⟨_, rfl⟩
    rw [hW5] at H5 HQ5 ⊢
    clear hW5
    go_wp2_with fail
    go_end0
    refine ⟨⟨_, rfl⟩, _, _, _, _, _, za H5, (za HC).mono (by omega), id, za HQ5⟩
theorem ZU (W0 w : World) (vn va vm : Value) (us ms : List Int) (c : Int) (o : ByteArray) (ov : Bool) (s : Int) (t : List UInt8) (ka : Option Addr) (kl kc : Nat) (h : WSt W0 w vn va vm us ms c o ov) (hc : Cnt 1 c o ov) (ht : t.length ≤ 1048576) (h4 : s = 4 → t ≠ []) :
  Calls Tryd.prog 51 #[.pointer (some ⟨W0.heap.size, 0, none⟩), .agg #[.int .i64 s, .string (B t), .slice ka kl kc]] w fun e w' => (∃ u, e = .returned u) ∧ WGo W0 w w' vn us ms ov := by
 have H := hide (h.alloc (.cells #[.int .i64 s, .string (B t), .slice ka kl kc] 76))
 have HC := hide hc
 have HQ := hide (Oth.alloc w (.cells #[.int .i64 s, .string (B t), .slice ka kl kc] 76))
 have hlt := h.lt
 have n1 := (za H).n1
 have hz : (B t).size ≤ 1048576 := by rw [ze]; exact ht
 clear h hc
 by_cases h3 : s = 3
 ·subst h3
  go_enter Tryd.func51, Tryd.ntmps51
  go_wp2_with fail
  refine (yM (B t) hz _).mono ?_
  rintro e w2 ⟨⟨x, rfl, hx⟩, rfl⟩
  go_wp2_with fail
  refine (put_c W0 _ vn _ _ us ms c o x ov (za H) (za HC).sz (by omega)).mono ?_
  rintro e w3 ⟨⟨u, rfl⟩, o3, ov3, h3, hp3, hq3⟩
  have HE : Hid (WGo W0 w w3 vn us ms ov) := hide ⟨_, _, _, _, _, h3, hp3.cnt (za HC), hp3.ov, (za HQ).trans hq3⟩
  clear h3 hp3 hq3
  go_wp2_with fail
  first | go_end0 | refine bodyPost_ret (results_none rfl _ _ _) rfl ?_
  exact ⟨⟨_, rfl⟩, za HE⟩
 ·have e3 := zF h3
  clear h3
  by_cases h3 : s = 4
  ·subst h3
   have h0 : 0 < (B t).size := by
    have := h4 rfl
    rw [ze]
    exact List.length_pos_iff.2 this
   go_enter Tryd.func51, Tryd.ntmps51
   go_wp2_with fail
   refine (xh (B t) hz h0 _).mono ?_
   rintro e w2 ⟨⟨x, rfl, hx⟩, rfl⟩
   go_wp2_with fail
   refine (put_c W0 _ vn _ _ us ms c o x ov (za H) (za HC).sz (by omega)).mono ?_
   rintro e w3 ⟨⟨u, rfl⟩, o3, ov3, h3, hp3, hq3⟩
   have HE : Hid (WGo W0 w w3 vn us ms ov) := hide ⟨_, _, _, _, _, h3, hp3.cnt (za HC), hp3.ov, (za HQ).trans hq3⟩
   clear h3 hp3 hq3
   go_wp2_with fail
   first | go_end0 | refine bodyPost_ret (results_none rfl _ _ _) rfl ?_
   exact ⟨⟨_, rfl⟩, za HE⟩
  ·have e4 := zF h3
   clear h3 h4
   by_cases h3 : s = 5
   ·subst h3
    go_enter Tryd.func51, Tryd.ntmps51
    go_wp2_with fail
    refine (put_c W0 _ vn _ _ us ms c o _ ov (za H) (za HC).sz (by rw [ByteArray.size_append]; have : (⟨#[35]⟩ : ByteArray).size = 1 := rfl; omega)).mono ?_
    rintro e w3 ⟨⟨u, rfl⟩, o3, ov3, h3, hp3, hq3⟩
    have HE : Hid (WGo W0 w w3 vn us ms ov) := hide ⟨_, _, _, _, _, h3, hp3.cnt (za HC), hp3.ov, (za HQ).trans hq3⟩
    clear h3 hp3 hq3
    go_wp2_with fail
    first | go_end0 | refine bodyPost_ret (results_none rfl _ _ _) rfl ?_
    exact ⟨⟨_, rfl⟩, za HE⟩
   ·have e5 := zF h3
    clear h3
    by_cases h3 : s = 6
    ·subst h3
     go_enter Tryd.func51, Tryd.ntmps51
     go_wp2_with fail
     refine (put_c W0 _ vn _ _ us ms c o _ ov (za H) (za HC).sz (by decide)).mono ?_
     rintro e w3 ⟨⟨u, rfl⟩, o3, ov3, h3, hp3, hq3⟩
     have HE : Hid (WGo W0 w w3 vn us ms ov) := hide ⟨_, _, _, _, _, h3, hp3.cnt (za HC), hp3.ov, (za HQ).trans hq3⟩
     clear h3 hp3 hq3
     go_wp2_with fail
     first | go_end0 | refine bodyPost_ret (results_none rfl _ _ _) rfl ?_
     exact ⟨⟨_, rfl⟩, za HE⟩
    ·have e6 := zF h3
     clear h3
     by_cases h3 : s = 9
     ·subst h3
      go_enter Tryd.func51, Tryd.ntmps51
      go_wp2_with fail
      refine (xT (B t) hz _).mono ?_
      rintro e w2 ⟨⟨x, rfl, hx⟩, hb2⟩
      replace H := hide ((za H).below hb2)
      replace HQ := hide ((za HQ).trans (Oth.below hb2))
      clear hb2
      go_wp2_with fail
      refine (put_c W0 w2 vn _ _ us ms c o x ov (za H) (za HC).sz (by omega)).mono ?_
      rintro e w3 ⟨⟨u, rfl⟩, o3, ov3, h3, hp3, hq3⟩
      have HE : Hid (WGo W0 w w3 vn us ms ov) := hide ⟨_, _, _, _, _, h3, hp3.cnt (za HC), hp3.ov, (za HQ).trans hq3⟩
      clear h3 hp3 hq3
      go_wp2_with fail
      first | go_end0 | refine bodyPost_ret (results_none rfl _ _ _) rfl ?_
      exact ⟨⟨_, rfl⟩, za HE⟩
     ·have e9 := zF h3
      clear h3
      go_enter Tryd.func51, Tryd.ntmps51
      go_wp2_with fail
      refine (put_c W0 _ vn _ _ us ms c o _ ov (za H) (za HC).sz (by omega)).mono ?_
      rintro e w3 ⟨⟨u, rfl⟩, o3, ov3, h3, hp3, hq3⟩
      have HE : Hid (WGo W0 w w3 vn us ms ov) := hide ⟨_, _, _, _, _, h3, hp3.cnt (za HC), hp3.ov, (za HQ).trans hq3⟩
      clear h3 hp3 hq3
      go_wp2_with fail
      first | go_end0 | refine bodyPost_ret (results_none rfl _ _ _) rfl ?_
      exact ⟨⟨_, rfl⟩, za HE⟩
structure Way (ns : List Nd) (us ms : List Int) (m : Nat) : Prop where
 inr : InR ns.length us
 len : us.length = ms.length
 mrk : ∀ y ∈ ms, 0 ≤ y ∧ y ≤ 4001
 few : ns.length ≤ m + us.length
theorem Way.snoc {ns : List Nd} {us ms : List Int} {m : Nat} {x c : Int} (h : Way ns us ms (m + 1)) (h0 : 0 ≤ x) (h1 : x < ns.length) (hn : x ∉ us) (c0 : 0 ≤ c) (c1 : c ≤ 4001) : Way ns (us ++ [x]) (ms ++ [c]) m :=
 ⟨h.inr.snoc ⟨h0, h1⟩ hn, by simp [h.len], fun y hy => by
  rcases List.mem_append.1 hy with e | e
  ·exact h.mrk y e
  ·rw [List.mem_singleton.1 e]; exact ⟨c0, c1⟩, by have := h.few; simp; omega⟩
theorem Way.all {ns : List Nd} {us ms : List Int} {x : Int} (h : Way ns us ms 0) (h0 : 0 ≤ x) (h1 : x < ns.length) : x ∈ us := by
 refine Decidable.byContradiction fun hn => ?_
 have := (h.inr.snoc ⟨h0, h1⟩ hn).len
 have := h.few
 simp at *
 omega
def NodeC (W0 : World) (vn : Value) (ns : List Nd) (m : Nat) : Prop := ∀ (w : World) (va vm : Value) (us ms : List Int) (c x : Int) (o : ByteArray) (ov : Bool), WSt W0 w vn va vm us ms c o ov → Way ns us ms m → 0 ≤ x → x < ns.length → Cnt 1 c o ov →
 Calls Tryd.prog 42 #[.pointer (some ⟨W0.heap.size, 0, none⟩), .int .i64 x] w fun e w' => (∃ u, e = .returned u) ∧ WGo W0 w w' vn us ms ov
def v7 (W0 : World) (vn : Value) (ns : List Nd) (m : Nat) : Prop := ∀ (w : World) (va vm : Value) (us ms : List Int) (c x : Int) (o : ByteArray) (ov : Bool), WSt W0 w vn va vm us ms c o ov → Way ns us ms m → 0 ≤ x → x < ns.length → Cnt 1 c o ov → (∀ nd, ns[x.toNat]? = some nd → nd.1 = 7) →
 Calls Tryd.prog 55 #[.pointer (some ⟨W0.heap.size, 0, none⟩), .int .i64 x] w fun e w' => (∃ u, e = .returned u) ∧ WGo W0 w w' vn us ms ov
theorem row_c (W0 : World) (vn : Value) (ns : List Nd) (m : Nat) (hN : NodeC W0 vn ns m) (w : World) (va vm : Value) (us ms ks : List Int) (c : Int) (o : ByteArray) (ov : Bool) (s : Int) (t : List UInt8) (ka : Option Addr) (kc : Nat) (h : WSt W0 w vn va vm us ms c o ov) (hw : Way ns us ms m) (hc : Cnt 1 c o ov)
  (hk : ∀ k ∈ ks, 0 ≤ k ∧ k < ns.length) (hkl : ks.length ≤ 40) (hkv : IntsAt W0 (.slice ka ks.length kc) ks) :
  Calls Tryd.prog 54 #[.pointer (some ⟨W0.heap.size, 0, none⟩), .agg #[.int .i64 s, .string (B t), .slice ka ks.length kc]] w fun e w' => (∃ u, e = .returned u) ∧ WGo W0 w w' vn us ms ov := by
 have H := hide (h.alloc (.cells #[.int .i64 s, .string (B t), .slice ka ks.length kc] 76))
 have HA := hide (AtC3.new w (.int .i64 s) (.string (B t)) (.slice ka ks.length kc) 76)
 have HQ := hide (Oth.alloc w (.cells #[.int .i64 s, .string (B t), .slice ka ks.length kc] 76))
 have HC := hide hc
 have HN := hide hN
 have HW := hide hw
 have HK := hide hk
 have HKV := hide hkv
 clear h hc hN hw hk hkv
 go_enter Tryd.func54, Tryd.ntmps54
 go_wp2_with fail
 refine (put_c W0 _ vn _ _ us ms c o _ ov (za H) (za HC).sz (by decide)).mono ?_
 rintro e w3 ⟨⟨u, rfl⟩, o3, ov3, h3, hp3, hq3⟩
 have HE : Hid (WGo W0 w w3 vn us ms ov) := hide ⟨_, _, _, _, _, h3, hp3.cnt (za HC), hp3.ov, (za HQ).trans hq3⟩
 replace HA := hide (hq3.at3 (za HA))
 clear h3 hp3 hq3 HQ HC H
 go_wp2_with fail
 go_loopw [4] (fun vi wr => ∃ j : Nat, vi = .int .i64 j ∧ j ≤ ks.length ∧ Hid (WGo W0 w wr vn us ms ov) ∧ Hid (AtC3 wr w.heap.size (.int .i64 s) (.string (B t)) (.slice ka ks.length kc) 76)) (fun vi _ => ks.length - (intOf vi).toNat)
 case atStart => exact ⟨0, rfl, by omega, HE, HA⟩
 case round =>
  clear HE HA
  obtain ⟨j, rfl, hj, hgo, ha⟩ := hrel
  obtain ⟨va1, vm1, c1, o1, ov1, h1, hc1, hov1, hq1⟩ := za hgo
  have H1 := hide h1
  have HC1 := hide hc1
  have HOV1 := hide hov1
  have HQ1 := hide hq1
  have a2 := (za ha).n2
  clear h1 hc1 hov1 hq1 hgo
  by_cases hlt : j < ks.length
  ·obtain ⟨k, hk⟩ : ∃ k, ks[j]? = some k := ⟨_, List.getElem?_eq_getElem hlt⟩
   obtain ⟨kb, ko, rfl, hkb, hkc⟩ := (za HKV).cell hk
   have hkr := (za HK) k (List.mem_of_getElem? hk)
   have e1 := wi64 ((j : Int) + 1) (by omega) (by omega)
   by_cases hj0 : 0 < (j : Int)
   ·go_wp2_with fail
    refine (put_c W0 _ vn _ _ us ms c1 o1 _ ov1 (za H1) (za HC1).sz (by decide)).mono ?_
    rintro e w4 ⟨⟨u, rfl⟩, o4, ov4, h4, hp4, hq4⟩
    have HA4 := hide (hq4.at3 (za ha))
    have b2 := (za HA4).n2
    have hkc4 : w4.cell? ⟨kb, ko + j, none⟩ = some (.int .i64 k) := (h4.low.cell (p := ⟨kb, ko + j, none⟩) hkb).trans hkc
    have H4 := hide h4
    have HC4 := hide (hp4.cnt (za HC1))
    have HOV4 : Hid (ov = true → ov4 = true) := hide (fun e => hp4.ov ((za HOV1) e))
    have HQ4 := hide ((za HQ1).trans hq4)
    clear h4 hp4 hq4 hkc a2 hk
    go_wp2_with fail
    refine ((za HN) w4 va1 vm1 us ms c1 k o4 ov4 (za H4) (za HW) hkr.1 hkr.2 (za HC4)).mono ?_
    rintro e w5 ⟨⟨u5, rfl⟩, va5, vm5, c5, o5, ov5, h5, hc5, hov5, hq5⟩
    have HE5 : Hid (WGo W0 w w5 vn us ms ov) := hide ⟨_, _, _, _, _, h5, hc5, fun e => hov5 ((za HOV4) e), (za HQ4).trans hq5⟩
    have HA5 := hide (hq5.at3 (za HA4))
    clear h5 hc5 hov5 hq5 b2 hkc4
    go_wp2_with fail
    go_roundw
    case rel => exact ⟨j + 1, by go_num, by omega, HE5, HA5⟩
    case measure => simp [intOf]; omega
   ·have hkc4 : wr.cell? ⟨kb, ko + j, none⟩ = some (.int .i64 k) := ((za H1).low.cell (p := ⟨kb, ko + j, none⟩) hkb).trans hkc
    clear hkc hk
    go_wp2_with fail
    refine ((za HN) wr va1 vm1 us ms c1 k o1 ov1 (za H1) (za HW) hkr.1 hkr.2 (za HC1)).mono ?_
    rintro e w5 ⟨⟨u5, rfl⟩, va5, vm5, c5, o5, ov5, h5, hc5, hov5, hq5⟩
    have HE5 : Hid (WGo W0 w w5 vn us ms ov) := hide ⟨_, _, _, _, _, h5, hc5, fun e => hov5 ((za HOV1) e), (za HQ1).trans hq5⟩
    have HA5 := hide (hq5.at3 (za ha))
    clear h5 hc5 hov5 hq5 a2 hkc4
    go_wp2_with fail
    go_roundw
    case rel => exact ⟨j + 1, by go_num, by omega, HE5, HA5⟩
    case measure => simp [intOf]; omega
  ·go_wp2_with fail
   refine (put_c W0 _ vn _ _ us ms c1 o1 _ ov1 (za H1) (za HC1).sz (by decide)).mono ?_
   rintro e w4 ⟨⟨u, rfl⟩, o4, ov4, h4, hp4, hq4⟩
   have HE4 : Hid (WGo W0 w w4 vn us ms ov) := hide ⟨_, _, _, _, _, h4, hp4.cnt (za HC1), fun e => hp4.ov ((za HOV1) e), (za HQ1).trans hq4⟩
   clear h4 hp4 hq4
   go_wp2_with fail
   go_end0
   exact ⟨⟨_, rfl⟩, za HE4⟩
end Go.Proofs.YtnenoaenjaghhaaDoor
