/- A part of the proof, put together out of smaller texts: each piece says what it is for. -/
import Derived.Test.YtpbnmhnbkfnaeaaGreatDoorM6
import Derived.Lib.DecodeN
import Derived.Lib.ValidLaws
import Derived.Lib.RuneCount
import Derived.Lib.Bytealg
import Derived.BigQuiet
import Derived.Laws.IdiomStrings
import Derived.Laws.Runes
import Derived.Lib.Strings
import Derived.Deep.RegionWith
import Derived.Deep.RegionHeld3
import Derived.Deep.Cut
import Derived.Deep.CutRange
import Derived.Deep.QuietTactic
import Derived.Laws.StructEq
/- The field, plain: adding, multiplying, taking, dividing in lowest terms, and what holds of them. -/
namespace Go.Proofs.YtpbnmhnbkfnaeaaGreatDoor
open Go.RowKit Nt

abbrev Rt := Bool × Nat × Nat
def okP (p : Rt) : Bool := okM p.1 (txl 10 p.2.1) (txl 10 p.2.2)
def zP (p : Rt) : Int := sgn (p.1, p.2.1)
def addP (p q : Rt) : Option Rt := lowZ (zP p * (q.2.2 : Int) + zP q * (p.2.2 : Int)) (p.2.2 * q.2.2)
def subP (p q : Rt) : Option Rt := lowZ (zP p * (q.2.2 : Int) - zP q * (p.2.2 : Int)) (p.2.2 * q.2.2)
def mulP (p q : Rt) : Option Rt := lowZ (zP p * zP q) (p.2.2 * q.2.2)

theorem sgn_mul (n : Bool) (x y : Nat) : sgn (n, x * y) = sgn (n, x) * (y : Int) := by
  unfold sgn; cases n <;> simp [Int.neg_mul]
theorem sgn_not (n : Bool) (x : Nat) : sgn (!n, x) = - sgn (n, x) := by
  unfold sgn; cases n <;> simp
theorem sgn_prod (n m : Bool) (x y : Nat) : sgn (n != m, x * y) = sgn (n, x) * sgn (m, y) := by
  unfold sgn; cases n <;> cases m <;> simp [Int.neg_mul, Int.mul_neg]
theorem add_low (n1 n2 : Bool) (x1 y1 x2 y2 : Nat) : lowest (plusW (n1, x1 * y2) (n2, x2 * y1)).1 (plusW (n1, x1 * y2) (n2, x2 * y1)).2 (y1 * y2) = addP (n1, x1, y1) (n2, x2, y2) := by
  rw [lowest_sgn]
  unfold addP zP
  rw [show ((plusW (n1, x1 * y2) (n2, x2 * y1)).1, (plusW (n1, x1 * y2) (n2, x2 * y1)).2) = plusW (n1, x1 * y2) (n2, x2 * y1) from rfl, plusW_sgn, sgn_mul, sgn_mul]
theorem sub_low (n1 n2 : Bool) (x1 y1 x2 y2 : Nat) : lowest (plusW (n1, x1 * y2) (!n2, x2 * y1)).1 (plusW (n1, x1 * y2) (!n2, x2 * y1)).2 (y1 * y2) = subP (n1, x1, y1) (n2, x2, y2) := by
  rw [lowest_sgn]
  unfold subP zP
  rw [show ((plusW (n1, x1 * y2) (!n2, x2 * y1)).1, (plusW (n1, x1 * y2) (!n2, x2 * y1)).2) = plusW (n1, x1 * y2) (!n2, x2 * y1) from rfl, plusW_sgn, sgn_mul, sgn_mul, sgn_not, Int.neg_mul]
  rfl
theorem mul_low (n1 n2 : Bool) (x1 y1 x2 y2 : Nat) : lowest (n1 != n2) (x1 * x2) (y1 * y2) = mulP (n1, x1, y1) (n2, x2, y2) := by
  rw [lowest_sgn, sgn_prod]; rfl

theorem okP_pos {p : Rt} (h : okP p = true) : 0 < p.2.2 := by
  have := (ok_parts h).2.2.2.2.1
  rw [valDec_txl] at this
  omega
theorem okP_low {p : Rt} (h : okP p = true) : lowZ (zP p) p.2.2 = some p := lowZ_ok h
theorem lowZ_okP {z : Int} {d : Nat} {p : Rt} (h : lowZ z d = some p) : okP p = true := lowest_ok (n := p.1) (x := p.2.1) (y := p.2.2) h
theorem lowZ_cross {z : Int} {d : Nat} {p : Rt} (h : lowZ z d = some p) : 0 < d ∧ 0 < p.2.2 ∧ zP p * (d : Int) = z * (p.2.2 : Int) := lowZ_val (n := p.1) (x := p.2.1) (y := p.2.2) h

theorem addP_comm (p q : Rt) : addP p q = addP q p := by unfold addP; rw [Int.add_comm, Nat.mul_comm]
theorem mulP_comm (p q : Rt) : mulP p q = mulP q p := by unfold mulP; rw [Int.mul_comm, Nat.mul_comm]

theorem poly_assoc (zp zq zr zs zt yp yq yr ys yt : Int) (hq : yq ≠ 0) (h1 : zs * (yp * yq) = (zp * yq + zq * yp) * ys) (h2 : zt * (yq * yr) = (zq * yr + zr * yq) * yt) : (zs * yr + zr * ys) * (yp * yt) = (zp * yt + zt * yp) * (ys * yr) := by
  have h : yq * ((zs * yr + zr * ys) * (yp * yt)) = yq * ((zp * yt + zt * yp) * (ys * yr)) := by grind
  exact Int.eq_of_mul_eq_mul_left hq h
theorem poly_dist (zp zq zr zt zv zw yp yq yr yt yv yw : Int) (hp : yp ≠ 0) (hq : yq ≠ 0) (hr : yr ≠ 0) (h1 : zt * (yq * yr) = (zq * yr + zr * yq) * yt) (h2 : zv * (yp * yq) = (zp * zq) * yv) (h3 : zw * (yp * yr) = (zp * zr) * yw) : (zp * zt) * (yv * yw) = (zv * yw + zw * yv) * (yp * yt) := by
  have h : (yp * yq * yr) * ((zp * zt) * (yv * yw)) = (yp * yq * yr) * ((zv * yw + zw * yv) * (yp * yt)) := by
    have e1 : (yp * yq * yr) * ((zp * zt) * (yv * yw)) = (zt * (yq * yr)) * (yp * zp * yv * yw) := by grind
    have e2 : (yp * yq * yr) * ((zv * yw + zw * yv) * (yp * yt)) = (zv * (yp * yq)) * yr * yw * yp * yt + (zw * (yp * yr)) * yq * yv * yp * yt := by grind
    rw [e1, e2, h1, h2, h3]; grind
  have h0 : yp * yq * yr ≠ 0 := Int.mul_ne_zero (Int.mul_ne_zero hp hq) hr
  exact Int.eq_of_mul_eq_mul_left h0 h
theorem poly_back (zp zq zs yp yq ys : Int) (h1 : zs * (yp * yq) = (zp * yq + zq * yp) * ys) : (zs * yq - zq * ys) * yp = zp * (ys * yq) := by grind

theorem addP_assoc {p q r s t : Rt} (hp : okP p = true) (hq : okP q = true) (hr : okP r = true) (h1 : addP p q = some s) (h2 : addP q r = some t) : addP s r = addP p t := by
  have yp := okP_pos hp
  have yq := okP_pos hq
  have yr := okP_pos hr
  obtain ⟨_, ys, e1⟩ := lowZ_cross h1
  obtain ⟨_, yt, e2⟩ := lowZ_cross h2
  unfold addP
  apply lowZ_eq (Nat.mul_pos ys yr) (Nat.mul_pos yp yt)
  rw [Int.natCast_mul] at e1 e2 ⊢
  rw [Int.natCast_mul]
  exact poly_assoc _ _ _ _ _ _ _ _ _ _ (by omega) e1 e2
theorem mulP_addP {p q r t v z : Rt} (hp : okP p = true) (hq : okP q = true) (hr : okP r = true) (h1 : addP q r = some t) (h2 : mulP p q = some v) (h3 : mulP p r = some z) : mulP p t = addP v z := by
  have yp := okP_pos hp
  have yq := okP_pos hq
  have yr := okP_pos hr
  obtain ⟨_, yt, e1⟩ := lowZ_cross h1
  obtain ⟨_, yv, e2⟩ := lowZ_cross h2
  obtain ⟨_, yz, e3⟩ := lowZ_cross h3
  unfold addP mulP
  apply lowZ_eq (Nat.mul_pos yp yt) (Nat.mul_pos yv yz)
  rw [Int.natCast_mul] at e1 e2 e3 ⊢
  rw [Int.natCast_mul]
  exact poly_dist _ _ _ _ _ _ _ _ _ _ _ _ (by omega) (by omega) (by omega) e1 e2 e3
theorem subP_back {p q s : Rt} (hp : okP p = true) (hq : okP q = true) (h : addP p q = some s) : subP s q = some p := by
  have yp := okP_pos hp
  have yq := okP_pos hq
  obtain ⟨_, ys, e1⟩ := lowZ_cross h
  rw [← okP_low hp]
  unfold subP
  apply lowZ_eq (Nat.mul_pos ys yq) yp
  rw [Int.natCast_mul] at e1 ⊢
  exact poly_back _ _ _ _ _ _ e1
theorem addP_zero {p : Rt} (hp : okP p = true) : addP p (false, 0, 1) = some p := by
  rw [← okP_low hp]
  unfold addP
  congr 1
  · simp [zP, sgn]
  · simp
theorem mulP_one {p : Rt} (hp : okP p = true) : mulP p (false, 1, 1) = some p := by
  rw [← okP_low hp]
  unfold mulP
  congr 1
  · simp [zP, sgn]
  · simp
theorem ok_one : okP (false, 1, 1) = true := by decide +kernel
theorem ok_zero : okP (false, 0, 1) = true := by decide +kernel
/-- turned over: ok too -/
theorem okP_turn {p : Rt} (hp : okP p = true) (hz : p.2.1 ≠ 0) : okP (p.1, p.2.2, p.2.1) = true := by
  obtain ⟨h1, h2, h3, h4, h5, h6, h7⟩ := ok_parts hp
  rw [valDec_txl] at h5 h6
  rw [valDec_txl, valDec_txl] at h7
  refine okM_mk h4 h3 h2 h1 ?_ ?_ ?_
  · rw [valDec_txl]; exact hz
  · intro _; rw [valDec_txl]; exact h5
  · rw [valDec_txl, valDec_txl, Nat.gcd_comm]; exact h7
theorem mulP_turn {p : Rt} (hp : okP p = true) (hz : p.2.1 ≠ 0) : mulP p (p.1, p.2.2, p.2.1) = some (false, 1, 1) := by
  have yp := okP_pos hp
  rw [← okP_low ok_one]
  unfold mulP
  apply lowZ_eq (Nat.mul_pos yp (by show 0 < p.2.1; omega)) (by decide)
  obtain ⟨n, x, y⟩ := p
  unfold zP sgn
  cases n <;> simp [Int.mul_comm, Int.mul_neg]
end Go.Proofs.YtpbnmhnbkfnaeaaGreatDoor
/- The field on what a Num holds: three texts of bytes, ok or not. -/
namespace Go.Proofs.YtpbnmhnbkfnaeaaGreatDoor
open Go.RowKit Nt

abbrev T3 := Bool × List UInt8 × List UInt8
def numT (t : T3) : Value := .agg #[.bool t.1, .string (B t.2.1), .string (B t.2.2)]
def okT (t : T3) : Bool := okM t.1 t.2.1 t.2.2
def valT (t : T3) : Rt := (t.1, valDec t.2.1, valDec t.2.2)
def putT (p : Rt) : T3 := (p.1, txl 10 p.2.1, txl 10 p.2.2)
def nilT : T3 := (false, [], [])
def optT : Option Rt → T3 × Int
  | some s => (putT s, 0)
  | none => (nilT, 3)
def fld (f : Rt → Rt → Option Rt) (a b : T3) : T3 × Int := if okT a && okT b then optT (f (valT a) (valT b)) else (nilT, 1)
def ansT (r : T3 × Int) : Value := .tuple #[numT r.1, .int .i64 r.2]
def divT (a b : T3) : T3 × Int := if b.2.1 = [48] then (nilT, 2) else fld mulP a (b.1, b.2.2, b.2.1)

theorem valT_put (p : Rt) : valT (putT p) = p := by
  unfold valT putT; simp only [valDec_txl]
theorem putT_val {t : T3} (h : okT t = true) : putT (valT t) = t := by
  obtain ⟨h1, h2, _⟩ := ok_parts h
  unfold putT valT
  simp only
  rw [← isDec_val h1, ← isDec_val h2]
theorem okP_val {t : T3} (h : okT t = true) : okP (valT t) = true := by
  have := putT_val h
  unfold okP
  rw [show okM (valT t).1 (txl 10 (valT t).2.1) (txl 10 (valT t).2.2) = okT (putT (valT t)) from rfl, this]
  exact h
theorem okT_put {p : Rt} (h : okP p = true) : okT (putT p) = true := h
theorem okT_nil : okT nilT = false := by decide +kernel
theorem okT_len {t : T3} (h : okT t = true) : t.2.1.length ≤ 60 ∧ t.2.2.length ≤ 60 := by
  obtain ⟨_, _, h3, h4, _⟩ := ok_parts h
  exact ⟨h3, h4⟩

/-- each answer of the field is in lowest terms -/
def Low (f : Rt → Rt → Option Rt) : Prop := ∀ p q s, f p q = some s → okP s = true
theorem low_add : Low addP := fun _ _ _ h => lowZ_okP h
theorem low_sub : Low subP := fun _ _ _ h => lowZ_okP h
theorem low_mul : Low mulP := fun _ _ _ h => lowZ_okP h

theorem fld_no {f : Rt → Rt → Option Rt} {a b : T3} (h : (okT a && okT b) = false) : fld f a b = (nilT, 1) := by
  unfold fld; rw [h]; rfl
theorem fld_yes {f : Rt → Rt → Option Rt} {a b : T3} (ha : okT a = true) (hb : okT b = true) : fld f a b = optT (f (valT a) (valT b)) := by
  unfold fld; rw [ha, hb]; rfl
theorem fld_code {f : Rt → Rt → Option Rt} {a b : T3} (ha : okT a = true) (hb : okT b = true) : (fld f a b).2 = 0 ∨ (fld f a b).2 = 3 := by
  rw [fld_yes ha hb]
  cases f (valT a) (valT b)
  · exact .inr rfl
  · exact .inl rfl
theorem fld_zero {f : Rt → Rt → Option Rt} {a b : T3} (h : (fld f a b).2 = 0) : okT a = true ∧ okT b = true ∧ ∃ s, f (valT a) (valT b) = some s ∧ (fld f a b).1 = putT s := by
  unfold fld at h ⊢
  split at h
  · rename_i hh
    rw [Bool.and_eq_true] at hh
    refine ⟨hh.1, hh.2, ?_⟩
    rw [if_pos (by rw [hh.1, hh.2]; rfl)]
    cases hs : f (valT a) (valT b) with
    | none => rw [hs] at h; cases h
    | some s => exact ⟨s, rfl, rfl⟩
  · cases h
theorem fld_ok {f : Rt → Rt → Option Rt} (hf : Low f) {a b : T3} : okT (fld f a b).1 = decide ((fld f a b).2 = 0) := by
  by_cases h : (fld f a b).2 = 0
  · obtain ⟨_, _, s, hs, he⟩ := fld_zero h
    rw [he, decide_eq_true h]
    exact okT_put (hf _ _ _ hs)
  · rw [decide_eq_false h]
    unfold fld at h ⊢
    split
    · rename_i hh
      rw [if_pos hh] at h
      cases hs : f (valT a) (valT b) with
      | none => exact okT_nil
      | some s => rw [hs] at h; exact absurd rfl h
    · exact okT_nil
theorem fld_len (f : Rt → Rt → Option Rt) (hf : Low f) (a b : T3) : (fld f a b).1.2.1.length ≤ 60 ∧ (fld f a b).1.2.2.length ≤ 60 := by
  have h := fld_ok hf (a := a) (b := b)
  by_cases h0 : (fld f a b).2 = 0
  · rw [decide_eq_true h0] at h
    exact okT_len h
  · have : (fld f a b).1 = nilT := by
      unfold fld at h0 ⊢
      split
      · rename_i hh
        rw [if_pos hh] at h0
        cases hs : f (valT a) (valT b) with
        | none => rfl
        | some s => rw [hs] at h0; exact absurd rfl h0
      · rfl
    rw [this]; exact ⟨Nat.zero_le _, Nat.zero_le _⟩

theorem add_comm_t (a b : T3) : fld addP a b = fld addP b a := by
  unfold fld; rw [addP_comm, Bool.and_comm]
theorem mul_comm_t (a b : T3) : fld mulP a b = fld mulP b a := by
  unfold fld; rw [mulP_comm, Bool.and_comm]

/-- one behind the other: what is asked of two answers -/
def sameT (l r : T3 × Int) : Prop := l.2 = 3 ∨ r.2 = 3 ∨ l = r
theorem assoc_t {a b c : T3} (hc : okT c = true) (h1 : (fld addP a b).2 = 0) (h2 : (fld addP b c).2 = 0) : fld addP (fld addP a b).1 c = fld addP a (fld addP b c).1 := by
  obtain ⟨ha, hb, s, hs, e1⟩ := fld_zero h1
  obtain ⟨_, _, t, ht, e2⟩ := fld_zero h2
  rw [e1, e2, fld_yes (okT_put (low_add _ _ _ hs)) hc, fld_yes ha (okT_put (low_add _ _ _ ht)), valT_put, valT_put, addP_assoc (okP_val ha) (okP_val hb) (okP_val hc) hs ht]
theorem dist_t {a b c : T3} (h1 : (fld addP b c).2 = 0) (h2 : (fld mulP a b).2 = 0) (h3 : (fld mulP a c).2 = 0) : fld mulP a (fld addP b c).1 = fld addP (fld mulP a b).1 (fld mulP a c).1 := by
  obtain ⟨hb, hc, t, ht, e1⟩ := fld_zero h1
  obtain ⟨ha, _, v, hv, e2⟩ := fld_zero h2
  obtain ⟨_, _, z, hz, e3⟩ := fld_zero h3
  rw [e1, e2, e3, fld_yes ha (okT_put (low_add _ _ _ ht)), fld_yes (okT_put (low_mul _ _ _ hv)) (okT_put (low_mul _ _ _ hz)), valT_put, valT_put, valT_put, mulP_addP (okP_val ha) (okP_val hb) (okP_val hc) ht hv hz]
theorem back_t {a b : T3} (h : (fld addP a b).2 = 0) : fld subP (fld addP a b).1 b = (a, 0) := by
  obtain ⟨ha, hb, s, hs, e⟩ := fld_zero h
  rw [e, fld_yes (okT_put (low_add _ _ _ hs)) hb, valT_put, subP_back (okP_val ha) (okP_val hb) hs]
  show (putT (valT a), (0 : Int)) = _
  rw [putT_val ha]
def zeroT : T3 := (false, [48], [49])
def oneT : T3 := (false, [49], [49])
theorem okT_zero : okT zeroT = true := by decide +kernel
theorem okT_one : okT oneT = true := by decide +kernel
theorem val_zero : valT zeroT = (false, 0, 1) := by decide +kernel
theorem val_one : valT oneT = (false, 1, 1) := by decide +kernel
theorem add_zero_t {a : T3} (ha : okT a = true) : fld addP a zeroT = (a, 0) := by
  rw [fld_yes ha okT_zero, val_zero, addP_zero (okP_val ha)]
  show (putT (valT a), (0 : Int)) = _
  rw [putT_val ha]
theorem mul_one_t {a : T3} (ha : okT a = true) : fld mulP a oneT = (a, 0) := by
  rw [fld_yes ha okT_one, val_one, mulP_one (okP_val ha)]
  show (putT (valT a), (0 : Int)) = _
  rw [putT_val ha]
theorem isDec_zero {l : List UInt8} (h : isDec l = true) : l = [48] ↔ valDec l = 0 := by
  constructor
  · rintro rfl; decide +kernel
  · intro h0
    rw [isDec_val h, h0]; exact txl_zero 10
theorem zero_iff {a : T3} (ha : okT a = true) : a.2.1 = [48] ↔ a = zeroT := by
  obtain ⟨h1, h2, h3, h4, h5, h6, h7⟩ := ok_parts ha
  constructor
  · intro h
    have h0 := (isDec_zero h1).1 h
    rw [h0, Nat.gcd_zero_left] at h7
    obtain ⟨n, u, d⟩ := a
    simp only at *
    have hn : n = false := by
      cases n
      · rfl
      · exact absurd h0 (h6 rfl)
    rw [isDec_val h2, h7, h, hn]
    rfl
  · rintro rfl; rfl
theorem put_one : putT (false, 1, 1) = oneT := by decide +kernel
theorem div_self_t {a : T3} (ha : okT a = true) : divT a a = if a = zeroT then (nilT, 2) else (oneT, 0) := by
  unfold divT
  by_cases h : a.2.1 = [48]
  · rw [if_pos h, if_pos ((zero_iff ha).1 h)]
  · rw [if_neg h, if_neg (fun h' => h ((zero_iff ha).2 h'))]
    have hz : (valT a).2.1 ≠ 0 := fun h0 => h ((isDec_zero (ok_parts ha).1).2 h0)
    have hb : okT (a.1, a.2.2, a.2.1) = true := by
      have := okT_put (okP_turn (okP_val ha) hz)
      have e := putT_val ha
      have e1 : txl 10 (valT a).2.1 = a.2.1 := congrArg (fun t : T3 => t.2.1) e
      have e2 : txl 10 (valT a).2.2 = a.2.2 := congrArg (fun t : T3 => t.2.2) e
      unfold putT at this
      simp only [e1, e2] at this
      exact this
    rw [fld_yes ha hb, show valT (a.1, a.2.2, a.2.1) = ((valT a).1, (valT a).2.2, (valT a).2.1) from rfl, mulP_turn (okP_val ha) hz]
    show (putT (false, 1, 1), (0 : Int)) = (oneT, 0)
    rw [put_one]
end Go.Proofs.YtpbnmhnbkfnaeaaGreatDoor
/- Characters and lines of a text, plain: what a character is to Go's reader and to the specification; where a line ends. -/
namespace Go.Proofs.YtpbnmhnbkfnaeaaGreatDoor
open Nt

theorem get!_lt (s : ByteArray) (k : Nat) (h : k < s.size) : s.get! k = s[k]'h := by
  cases s with
  | mk d => exact getElem!_pos d k h

/-- the first character -/
theorem dec_facts (s : ByteArray) (h : 0 < s.size) : 1 ≤ (Utf8.decode s 0).2 ∧ (Utf8.decode s 0).2 ≤ s.size ∧
    ((Utf8.decode s 0).1 = 10 → (Utf8.decode s 0).2 = 1 ∧ (s.get! 0).toNat = 10) ∧ ((Utf8.decode s 0).1 ≠ 10 → ∀ i, i < (Utf8.decode s 0).2 → (s.get! i).toNat ≠ 10) := by
  rw [Lib.decode_at]
  simp only [Nat.sub_zero, Nat.zero_add]
  have l0 := (s.get! 0).toNat_lt
  have l1 := (s.get! 1).toNat_lt
  have l2 := (s.get! 2).toNat_lt
  have l3 := (s.get! 3).toNat_lt
  have key : ∀ (n b0 b1 b2 b3 : Nat), 0 < n → b0 < 256 → b1 < 256 → b2 < 256 → b3 < 256 → ∀ d, d = Lib.decodeN n b0 b1 b2 b3 → 1 ≤ d.2 ∧ d.2 ≤ n ∧ d.2 ≤ 4 ∧ (d.1 = 10 → d.2 = 1 ∧ b0 = 10) ∧ (d.1 ≠ 10 → b0 ≠ 10 ∧ (1 < d.2 → b1 ≠ 10) ∧ (2 < d.2 → b2 ≠ 10) ∧ (3 < d.2 → b3 ≠ 10)) := by
    intro n b0 b1 b2 b3 hn h0 h1 h2 h3 d hd
    subst hd
    unfold Lib.decodeN
    repeat' split
    all_goals (refine ⟨?_, ?_, ?_, fun h => ?_, fun h => ⟨?_, fun _ => ?_, fun _ => ?_, fun _ => ?_⟩⟩ <;> dsimp only at * <;> first | omega | exact h)
  obtain ⟨a1, a2, a3, a4, a5⟩ := key _ _ _ _ _ h l0 l1 l2 l3 _ rfl
  refine ⟨a1, a2, a4, fun hne i hi => ?_⟩
  obtain ⟨c0, c1, c2, c3⟩ := a5 hne
  match i, hi with
  | 0, _ => exact c0
  | 1, hi => exact c1 hi
  | 2, hi => exact c2 hi
  | 3, hi => exact c3 hi
  | i + 4, hi => omega

/-- how many bytes the specification gives the first character, none being none -/
abbrev badC (s : ByteArray) : Prop := s.size < 3 ∨ s.extract 0 3 ≠ ⟨#[239, 191, 189]⟩
def sizeM (s : ByteArray) : Nat :=
  if s.size = 0 ∨ (Utf8.decode s 0).1 = 65533 ∧ badC s then 0 else (Utf8.encode ((Utf8.decode s 0).1 : Nat)).size

theorem encode_size (c : Nat) : (Utf8.encode (c : Int)).size = if c < 128 then 1 else if c < 2048 then 2 else if 65536 ≤ c ∧ c ≤ 1114111 then 4 else 3 := by
  unfold Utf8.encode Utf8.valid Utf8.runeError
  simp only [Bool.or_eq_true, Bool.and_eq_true, decide_eq_true_eq, Int.toNat_natCast]
  repeat' split
  all_goals first | rfl | (exfalso; omega)

theorem extract3 (s : ByteArray) (h : 3 ≤ s.size) : s.extract 0 3 = ⟨#[s.get! 0, s.get! 1, s.get! 2]⟩ := by
  apply ByteArray.ext_getElem
  · rw [ByteArray.size_extract]; show _ = 3; omega
  · intro i h1 h2
    have hi : i < 3 := h2
    rw [ByteArray.getElem_extract, ← get!_lt]
    match i, hi with
    | 0, _ => rfl
    | 1, _ => rfl
    | 2, _ => rfl

theorem sizeM_eq (s : ByteArray) (h : 0 < s.size) : (if sizeM s = 0 then 1 else sizeM s) = (Utf8.decode s 0).2 := by
  have he : ∀ a b c : UInt8, ((⟨#[a, b, c]⟩ : ByteArray) = ⟨#[239, 191, 189]⟩) ↔ a.toNat = 239 ∧ b.toNat = 191 ∧ c.toNat = 189 := by
    intro a b c
    simp only [ByteArray.mk.injEq, Array.mk.injEq, List.cons.injEq, and_true, ← UInt8.toNat_inj]
    rfl
  have hx : badC s ↔ ¬ (3 ≤ s.size ∧ (s.get! 0).toNat = 239 ∧ (s.get! 1).toNat = 191 ∧ (s.get! 2).toNat = 189) := by
    unfold badC
    by_cases h3 : 3 ≤ s.size
    · rw [extract3 s h3, Ne, he]
      constructor
      · rintro (h | h)
        · omega
        · exact fun k => h k.2
      · exact fun k => .inr fun m => k ⟨h3, m⟩
    · constructor
      · exact fun _ k => h3 k.1
      · exact fun _ => .inl (by omega)
  unfold sizeM
  simp only [hx, encode_size]
  have l0 := (s.get! 0).toNat_lt
  have l1 := (s.get! 1).toNat_lt
  have l2 := (s.get! 2).toNat_lt
  have l3 := (s.get! 3).toNat_lt
  have key : ∀ (n b0 b1 b2 b3 : Nat), 0 < n → b0 < 256 → b1 < 256 → b2 < 256 → b3 < 256 → ∀ d, d = Lib.decodeN n b0 b1 b2 b3 →
      (if (if n = 0 ∨ d.1 = 65533 ∧ ¬ (3 ≤ n ∧ b0 = 239 ∧ b1 = 191 ∧ b2 = 189) then 0 else (if d.1 < 128 then 1 else if d.1 < 2048 then 2 else if 65536 ≤ d.1 ∧ d.1 ≤ 1114111 then 4 else 3)) = 0 then 1
        else (if n = 0 ∨ d.1 = 65533 ∧ ¬ (3 ≤ n ∧ b0 = 239 ∧ b1 = 191 ∧ b2 = 189) then 0 else (if d.1 < 128 then 1 else if d.1 < 2048 then 2 else if 65536 ≤ d.1 ∧ d.1 ≤ 1114111 then 4 else 3))) = d.2 := by
    intro n b0 b1 b2 b3 hn h0 h1 h2 h3 d hd
    have hd' : d = (d.1, d.2) := rfl
    generalize hu : d.1 = u at hd' ⊢
    generalize hv : d.2 = v at hd' ⊢
    rw [hd'] at hd
    clear hu hv hd'
    unfold Lib.decodeN at hd
    repeat' split at hd
    all_goals (simp only [Prod.mk.injEq] at hd; obtain ⟨e1, e2⟩ := hd; repeat' split)
    all_goals omega
  exact key _ _ _ _ _ h l0 l1 l2 l3 _ (by rw [Lib.decode_at]; simp only [Nat.sub_zero, Nat.zero_add])

/-- the line from a place on ends here -/
structure IsLine (t : ByteArray) (p j : Nat) : Prop where
  lo : p ≤ j
  hi : j ≤ t.size
  no : ∀ i, p ≤ i → i < j → (t.get! i).toNat ≠ 10
  nl : j < t.size → (t.get! j).toNat = 10
theorem IsLine.one {t : ByteArray} {p j k : Nat} (h : IsLine t p j) (m : IsLine t p k) : j = k := by
  rcases Nat.lt_trichotomy j k with c | c | c
  · exact absurd (h.nl (by have := m.hi; omega)) (m.no j h.lo c)
  · exact c
  · exact absurd (m.nl (by have := h.hi; omega)) (h.no k m.lo c)

theorem isLine_ex (t : ByteArray) : ∀ (n p : Nat), p ≤ t.size → t.size - p = n → ∃ j, IsLine t p j
  | 0, p, h, e => ⟨p, Nat.le_refl _, h, fun i h1 h2 => by omega, fun h => by omega⟩
  | n + 1, p, h, e => by
    by_cases h10 : (t.get! p).toNat = 10
    · exact ⟨p, Nat.le_refl _, h, fun i h1 h2 => by omega, fun _ => h10⟩
    · obtain ⟨j, h1, h2, h3, h4⟩ := isLine_ex t n (p + 1) (by omega) (by omega)
      refine ⟨j, by omega, h2, fun i a b => ?_, h4⟩
      by_cases hi : i = p
      · subst hi; exact h10
      · exact h3 i (by omega) b

theorem ext_get (t : ByteArray) (p i : Nat) (h : p + i < t.size) : (t.extract p t.size).get! i = t.get! (p + i) := by
  have hs : (t.extract p t.size).size = t.size - p := by simp
  rw [get!_lt _ i (by rw [hs]; omega), get!_lt _ (p + i) h]
  exact ByteArray.getElem_extract ..
theorem IsLine.lift {t : ByteArray} {p k : Nat} (hp : p ≤ t.size) (h : IsLine (t.extract p t.size) 0 k) : IsLine t p (p + k) := by
  have hs : (t.extract p t.size).size = t.size - p := by simp
  have hk := h.hi
  rw [hs] at hk
  refine ⟨by omega, by omega, fun i h1 h2 => ?_, fun h1 => ?_⟩
  · have := h.no (i - p) (by omega) (by omega)
    rwa [ext_get t p (i - p) (by omega), show p + (i - p) = i by omega] at this
  · have := h.nl (by rw [hs]; omega)
    rwa [ext_get t p k (by omega)] at this
theorem ext_ext (t : ByteArray) (p k : Nat) (h : p + k ≤ t.size) : (t.extract p t.size).extract 0 k = t.extract p (p + k) := by
  rw [ByteArray.extract_extract]
  congr 1
  omega
end Go.Proofs.YtpbnmhnbkfnaeaaGreatDoor
/- Plain: characters of a text: what the specification's and the library's ways of looking at them say of each other. -/
namespace Go.Proofs.YtpbnmhnbkfnaeaaGreatDoor
open Nt

/-- the character at a place: below 128 it is its one byte; else all its bytes are from 128 on -/
theorem dec_asc (s : ByteArray) (k : Nat) (h : k < s.size) : 1 ≤ (Utf8.decode s k).2 ∧ k + (Utf8.decode s k).2 ≤ s.size ∧
    ((Utf8.decode s k).1 < 128 → (Utf8.decode s k).2 = 1 ∧ (s.get! k).toNat = (Utf8.decode s k).1) ∧ (128 ≤ (Utf8.decode s k).1 → ∀ i, k ≤ i → i < k + (Utf8.decode s k).2 → 128 ≤ (s.get! i).toNat) := by
  rw [Lib.decode_at]
  have l0 := (s.get! k).toNat_lt
  have l1 := (s.get! (k + 1)).toNat_lt
  have l2 := (s.get! (k + 2)).toNat_lt
  have l3 := (s.get! (k + 3)).toNat_lt
  have key : ∀ (n b0 b1 b2 b3 : Nat), 0 < n → b0 < 256 → b1 < 256 → b2 < 256 → b3 < 256 → ∀ d, d = Lib.decodeN n b0 b1 b2 b3 → 1 ≤ d.2 ∧ d.2 ≤ n ∧ d.2 ≤ 4 ∧ (d.1 < 128 → d.2 = 1 ∧ b0 = d.1) ∧ (128 ≤ d.1 → 128 ≤ b0 ∧ (1 < d.2 → 128 ≤ b1) ∧ (2 < d.2 → 128 ≤ b2) ∧ (3 < d.2 → 128 ≤ b3)) := by
    intro n b0 b1 b2 b3 hn h0 h1 h2 h3 d hd
    subst hd
    unfold Lib.decodeN
    repeat' split
    all_goals (refine ⟨?_, ?_, ?_, fun h => ?_, fun h => ⟨?_, fun _ => ?_, fun _ => ?_, fun _ => ?_⟩⟩ <;> dsimp only at * <;> omega)
  obtain ⟨a1, a2, a3, a4, a5⟩ := key _ _ _ _ _ (by omega : 0 < s.size - k) l0 l1 l2 l3 _ rfl
  refine ⟨a1, by omega, a4, fun hge i h1 h2 => ?_⟩
  obtain ⟨c0, c1, c2, c3⟩ := a5 hge
  obtain rfl | rfl | rfl | rfl : i = k ∨ i = k + 1 ∨ i = k + 2 ∨ i = k + 3 := by omega
  · exact c0
  · exact c1 (by omega)
  · exact c2 (by omega)
  · exact c3 (by omega)

theorem encode_big (c : Nat) (h : c = 65533) : (Utf8.encode ((c : Nat) : Int)).size = 3 := by subst h; rfl
theorem sizeM_zero (s : ByteArray) (h : 0 < s.size) : sizeM s = 0 ↔ ((Utf8.decode s 0).1 = 65533 ∧ (Utf8.decode s 0).2 = 1) := by
  have e := sizeM_eq s h
  constructor
  · intro h0
    rw [if_pos h0] at e
    refine ⟨?_, e.symm⟩
    unfold sizeM at h0
    split at h0
    · rename_i hh
      rcases hh with hh | hh
      · omega
      · exact hh.1
    · rw [encode_size] at h0
      repeat' split at h0
      all_goals omega
  · rintro ⟨e1, e2⟩
    refine Decidable.byContradiction fun h0 => ?_
    rw [if_neg h0] at e
    unfold sizeM at e h0
    split at e
    · rename_i hh
      rw [if_pos hh] at h0
      exact h0 rfl
    · rw [encode_big _ e1] at e
      omega
theorem sizeM_size (s : ByteArray) (h : 0 < s.size) (h0 : sizeM s ≠ 0) : sizeM s = (Utf8.decode s 0).2 := by
  have e := sizeM_eq s h
  rwa [if_neg h0] at e
theorem sizeM_nil : sizeM ⟨#[]⟩ = 0 := by
  unfold sizeM
  rw [if_pos (.inl rfl)]

/-- characters alone: one by one -/
theorem valid_step (l : List UInt8) (hne : l ≠ []) : Lib.validD l = if sizeM (B l) = 0 then false else Lib.validD (l.drop (sizeM (B l))) := by
  have hs : 0 < (B l).size := by rw [B_size]; exact List.length_pos_iff.2 hne
  rw [Lib.validD_step l hne]
  have e : Lib.decodeL l = Utf8.decode (B l) 0 := rfl
  rw [e]
  by_cases h0 : sizeM (B l) = 0
  · rw [if_pos h0, if_pos ((sizeM_zero _ hs).1 h0)]
  · rw [if_neg h0, if_neg (fun h => h0 ((sizeM_zero _ hs).2 h)), sizeM_size _ hs h0]

/-- just one character -/
def oneM (t : List UInt8) : Bool := decide (0 < sizeM (B t)) && decide (sizeM (B t) = t.length)
theorem count_from_le (s : ByteArray) (fuel pos : Nat) (h : Lib.runeCountFrom s (fuel + 1) pos = 0) : ¬ pos < s.size := fun hp => by
  unfold Lib.runeCountFrom at h
  rw [if_pos hp] at h
  omega
theorem oneM_eq (t : List UInt8) : oneM t = (Lib.validD t && decide (Lib.runeCount (B t) = 1)) := by
  by_cases hne : t = []
  · subst hne
    have : sizeM (B []) = 0 := sizeM_nil
    unfold oneM
    rw [this]
    rfl
  · have hl : 0 < t.length := List.length_pos_iff.2 hne
    have hs : 0 < (B t).size := by rw [B_size]; exact hl
    rw [valid_step t hne]
    unfold oneM
    by_cases h0 : sizeM (B t) = 0
    · rw [if_pos h0, h0]; rfl
    · rw [if_neg h0]
      have e := sizeM_size _ hs h0
      have a := dec_asc (B t) 0 hs
      rw [Nat.zero_add, ← e, B_size] at a
      have hp : decide (0 < sizeM (B t)) = true := by simp; omega
      rw [hp, Bool.true_and]
      obtain ⟨n, hn⟩ : ∃ n, (B t).size = n + 1 := ⟨(B t).size - 1, by omega⟩
      have hc : Lib.runeCount (B t) = 1 + Lib.runeCountFrom (B t) n (sizeM (B t)) := by
        unfold Lib.runeCount
        rw [hn]
        show (if 0 < (B t).size then _ else _) = _
        rw [if_pos hs, Nat.zero_add, ← e]
      by_cases hz : sizeM (B t) = t.length
      · have hd : t.drop (sizeM (B t)) = [] := by rw [hz]; simp
        have h1 : Lib.runeCountFrom (B t) n (sizeM (B t)) = 0 := Lib.runeCountFrom_end _ _ _ (by rw [B_size]; omega)
        rw [hd, hc, h1]
        simp [hz, Lib.validD_nil]
      · have h1 : Lib.runeCountFrom (B t) n (sizeM (B t)) ≠ 0 := by
          intro h
          obtain ⟨m, rfl⟩ : ∃ m, n = m + 1 := ⟨n - 1, by rw [B_size] at hn; omega⟩
          have := count_from_le _ _ _ h
          rw [B_size] at this
          omega
        have h2 : decide (Lib.runeCount (B t) = 1) = false := by simp; omega
        rw [h2, Bool.and_false]
        simp [hz]
/-- texts held against each other -/
theorem less_cmp : ∀ (a b : List UInt8), (Op.bytesLess a b = decide (Lib.compareBytes a b = -1)) ∧ (Op.bytesLess b a = decide (Lib.compareBytes a b = 1)) ∧ (Lib.compareBytes a b = 0 ↔ a = b) ∧ (Lib.compareBytes a b = -1 ∨ Lib.compareBytes a b = 0 ∨ Lib.compareBytes a b = 1)
  | [], [] => by simp [Op.bytesLess, Lib.compareBytes]
  | [], _ :: _ => by simp [Op.bytesLess, Lib.compareBytes]
  | _ :: _, [] => by simp [Op.bytesLess, Lib.compareBytes]
  | a :: x, b :: y => by
    obtain ⟨h1, h2, h3, h4⟩ := less_cmp x y
    unfold Op.bytesLess Lib.compareBytes
    rw [h1, h2]
    by_cases e1 : a < b
    · have e2 : ¬ b < a := by rw [UInt8.lt_iff_toNat_lt] at *; omega
      have e3 : ¬ a = b := fun e => by subst e; exact e2 e1
      have e4 : (b == a) = false := beq_eq_false_iff_ne.2 (fun e => e3 e.symm)
      simp [e1, e2, e3, e4]
    · by_cases e2 : b < a
      · have e3 : ¬ a = b := fun e => by subst e; exact e1 e2
        have e4 : (a == b) = false := beq_eq_false_iff_ne.2 e3
        simp [e1, e2, e3, e4]
      · have e3 : a = b := by rw [UInt8.lt_iff_toNat_lt] at *; exact UInt8.toNat_inj.1 (by omega)
        subst e3
        simp [e1, h3]
        rw [← h3]
        exact h4
end Go.Proofs.YtpbnmhnbkfnaeaaGreatDoor
/- Plain: texts of atoms: what is a number's text, a symbol; a text taken as a word. -/
namespace Go.Proofs.YtpbnmhnbkfnaeaaGreatDoor
open Nt

/-- what ends a word; what no symbol has; what none begins with -/
def endN (c : Nat) : Bool := c == 32 || c == 9 || c == 10 || c == 13 || c == 40 || c == 41 || c == 34 || c == 59 || c == 39
def badN (c : Nat) : Bool := endN c || decide (c < 33) || c == 127 || c == 92 || c == 124
def headN (c : Nat) : Bool := c == 35 || c == 44 || c == 96 || (decide (48 ≤ c) && decide (c ≤ 57))
def wordM (t : List UInt8) : Bool := match t with
  | [] => false
  | c :: _ => !headN c.toNat && decide (t.length ≤ 200) && Lib.validD t && t.all fun c => !badN c.toNat
def symM (t : List UInt8) : Bool := (parseM t 10).isNone && decide (t ≠ [46]) && wordM t
def printT (p : Bool × Nat × Nat) : List UInt8 := printM p.1 (txl 10 p.2.1) (txl 10 p.2.2) 10
def numTextM (t : List UInt8) : Bool := match parseM t 10 with
  | some p => decide (printT p = t)
  | none => false
/-- how many bytes stand ahead of the first one that is asked for -/
def untilM (p : Nat → Bool) (l : List UInt8) : Nat := (l.takeWhile fun c => !p c.toNat).length
def headW (t : List UInt8) : List UInt8 := t.takeWhile fun c => !endN c.toNat
def spellsM (s : Int) (t : List UInt8) : Bool :=
  if headW t = [46] then false else match parseM (headW t) 10 with
    | some p => decide (s = 1) && decide (printT p = t)
    | none => decide (s = 2) && decide (headW t = t) && wordM (headW t)

theorem headW_eq (t : List UInt8) : headW t = t.take (untilM endN t) := by
  unfold headW untilM
  exact List.prefix_iff_eq_take.1 (List.takeWhile_prefix _)
/-- the place of the first one that is asked for -/
theorem until_eq {p : Nat → Bool} : ∀ {l : List UInt8} {k : Nat}, (∀ i (h : i < l.length), i < k → p (l[i]'h).toNat = false) → (∀ h : k < l.length, p (l[k]'h).toNat = true) → k ≤ l.length → untilM p l = k
  | [], k, _, _, hk => by
    have : k = 0 := by simpa using hk
    subst this
    rfl
  | c :: t, 0, _, h1, _ => by
    have := h1 (by simp)
    simp only [List.getElem_cons_zero] at this
    unfold untilM
    rw [List.takeWhile_cons_of_neg (by simp [this])]
    rfl
  | c :: t, k + 1, h0, h1, hk => by
    have h2 := h0 0 (by simp) (by omega)
    simp only [List.getElem_cons_zero] at h2
    have ih := until_eq (p := p) (l := t) (k := k) (fun i h hik => h0 (i + 1) (by simp; omega) (by omega)) (fun h => h1 (by simp; omega)) (by simpa using hk)
    unfold untilM at ih ⊢
    rw [List.takeWhile_cons_of_pos (by simp [h2]), List.length_cons, ih]
theorem headW_all : ∀ {t : List UInt8}, (∀ c ∈ t, endN c.toNat = false) → headW t = t
  | [], _ => rfl
  | c :: t, h => by
    have ih := headW_all (t := t) (fun d hd => h d (List.mem_cons_of_mem _ hd))
    unfold headW at ih ⊢
    rw [List.takeWhile_cons_of_pos (by simp [h c List.mem_cons_self]), ih]
theorem headW_mem : ∀ {t : List UInt8} {c : UInt8}, c ∈ headW t → endN c.toNat = false
  | [], c, h => by simp [headW] at h
  | d :: t, c, h => by
    unfold headW at h
    rw [List.takeWhile_cons] at h
    split at h
    · rename_i e
      rcases List.mem_cons.1 h with h | h
      · subst h; simpa using e
      · exact headW_mem (t := t) h
    · simp at h

theorem txl_digit {n : Nat} {c : UInt8} (h : c ∈ txl 10 n) : 48 ≤ c.toNat ∧ c.toNat ≤ 57 := by
  have h0 := isDec_txl n
  unfold isDec at h0
  simp only [Bool.and_eq_true, List.all_eq_true, decide_eq_true_eq, UInt8.le_iff_toNat_le] at h0
  exact h0.1.2 c h
/-- what is written of a number has digits, and '-', and '/' -/
theorem printT_sign {p : Bool × Nat × Nat} {c : UInt8} (h : c ∈ printT p) : c.toNat = 45 ∨ c.toNat = 47 ∨ (48 ≤ c.toNat ∧ c.toNat ≤ 57) := by
  unfold printT printM at h
  split at h
  · unfold prM at h
    simp only [List.mem_append] at h
    rcases h with (h | h) | h
    · split at h
      · have : c = 45 := by simpa using h
        subst this
        exact .inl rfl
      · simp at h
    · exact .inr (.inr (txl_digit h))
    · split at h
      · simp at h
      · rcases List.mem_cons.1 h with h | h
        · subst h
          exact .inr (.inl rfl)
        · exact .inr (.inr (txl_digit h))
  · simp at h
theorem printT_end {p : Bool × Nat × Nat} {c : UInt8} (h : c ∈ printT p) : endN c.toNat = false := by
  rcases printT_sign h with h | h | h
  · rw [h]; rfl
  · rw [h]; rfl
  · unfold endN
    simp only [Bool.or_eq_false_iff, beq_eq_false_iff_ne]
    omega
theorem spells_num (t : List UInt8) : spellsM 1 t = numTextM t := by
  unfold spellsM numTextM
  have key : ∀ q, printT q = t → headW t = t ∧ headW t ≠ [46] := fun q h => by
    have h1 : headW t = t := headW_all (fun c hc => printT_end (p := q) (by rw [h]; exact hc))
    refine ⟨h1, fun e => ?_⟩
    rw [h1] at e
    have := printT_sign (p := q) (c := 46) (by rw [h, e]; simp)
    simp at this
  cases e : parseM t 10 with
  | some p =>
    by_cases hp : printT p = t
    · obtain ⟨h1, h2⟩ := key p hp
      rw [if_neg h2, h1, e]
      simp
    · simp only [hp, decide_false]
      split
      · rfl
      · cases e2 : parseM (headW t) 10 with
        | none => rfl
        | some q =>
          by_cases hq : printT q = t
          · have := (key q hq).1
            rw [this, e] at e2
            have := Option.some.inj e2
            subst this
            exact absurd hq hp
          · simp [hq]
  | none =>
    split
    · rfl
    · cases e2 : parseM (headW t) 10 with
      | none => rfl
      | some q =>
        by_cases hq : printT q = t
        · have := (key q hq).1
          rw [this, e] at e2
          cases e2
        · simp [hq]
theorem bad_end {c : Nat} (h : endN c = true) : badN c = true := by unfold badN; rw [h]; rfl
theorem spells_sym (t : List UInt8) : spellsM 2 t = symM t := by
  unfold spellsM symM
  by_cases h : headW t = t
  · rw [h]
    by_cases h46 : t = [46]
    · rw [if_pos h46]; simp [h46]
    · rw [if_neg h46]
      cases parseM t 10 with
      | none => simp [h46]
      | some p => simp
  · have hb : wordM t = false := by
      have : ∃ c ∈ t, endN c.toNat = true := by
        refine Decidable.byContradiction fun hn => h (headW_all (fun c hc => ?_))
        cases e : endN c.toNat with
        | false => rfl
        | true => exact absurd ⟨c, hc, e⟩ hn
      obtain ⟨c, hc, e⟩ := this
      unfold wordM
      cases t with
      | nil => rfl
      | cons a r =>
        have : ((a :: r).all fun c => !badN c.toNat) = false := by
          rw [List.all_eq_false]
          exact ⟨c, hc, by simp [bad_end e]⟩
        simp only [this, Bool.and_false]
    rw [hb, Bool.and_false]
    split
    · rfl
    · cases parseM (headW t) 10 with
      | none => simp [h]
      | some p => rfl
/-- whether a text is one of a sort -/
def textM (s : Int) (t : List UInt8) : Bool :=
  if s = 1 then numTextM t else if s = 2 then symM t else if s = 3 then decide (t.length ≤ 200) && Lib.validD t else if s = 4 then oneM t
  else if s = 5 then decide (t = [116]) || decide (t = [102]) else if s = 9 then decide (t.length ≤ 200) else decide (t = [])
end Go.Proofs.YtpbnmhnbkfnaeaaGreatDoor
/- ReadMin, as the specification has it: small parts. -/
namespace Go.Proofs.YtpbnmhnbkfnaeaaGreatDoor
open Go.RowKit Nt

def cntOk (s : Int) (m : Nat) : Bool := if s = 7 then m == 2 else if s = 8 then decide (m ≤ 40) else m == 0
def inR (k : Int) (n : Nat) : Bool := decide (0 ≤ k) && decide (k < n)
def kidsOk (nd : Nd) (n : Nat) : Bool := cntOk nd.1 nd.2.2.length && nd.2.2.all (inR · n)
def gAt (g : List Int) (k : Int) : Int := g.getD k.toNat 0
def alikeM (a b : Nd) (g : List Int) : Bool := decide (a.1 = b.1) && decide (a.2.1 = b.2.1) && decide (a.2.2.map (gAt g) = b.2.2.map (gAt g))

set_option maxRecDepth 100000 in
set_option maxHeartbeats 4000000 in
theorem l1In_c (k : Int) (n : Nat) (w : World) :
    Calls Tryz.prog 34 #[.int .i64 k, .int .i64 0, .int .i64 ((n : Int) - 1)] w fun e w' => e = .returned (.bool (inR k n)) ∧ w' = w := by
  by_cases h0 : 0 ≤ k
  · have d0 : decide (0 ≤ k) = true := decide_eq_true h0
    have hr : Hid (inR k n = decide (k ≤ (n : Int) - 1)) := by
      show _ = _; unfold inR; rw [d0, Bool.true_and]; congr 1; rw [eq_iff_iff]; omega
    go_enter Tryz.func34, Tryz.ntmps34
    go_wp2
    go_ret
    exact ⟨by rw [unhide hr]; rfl, rfl⟩
  · have d0 : decide (0 ≤ k) = false := decide_eq_false h0
    have hr : Hid (inR k n = false) := by show _ = _; unfold inR; rw [d0, Bool.false_and]
    go_enter Tryz.func34, Tryz.ntmps34
    go_wp2
    go_ret
    exact ⟨by rw [unhide hr]; rfl, rfl⟩

theorem all_take_step {xs : List Int} {p : Int → Bool} {j : Nat} {x : Int} (h : xs[j]? = some x) : (xs.take (j + 1)).all p = ((xs.take j).all p && p x) := by
  rw [List.take_add_one, h]; simp
theorem all_false {xs : List Int} {p : Int → Bool} {j : Nat} {x : Int} (h : xs[j]? = some x) (hp : p x = false) : xs.all p = false := by
  rw [List.all_eq_false]; exact ⟨x, List.mem_of_getElem? h, by simp [hp]⟩

set_option maxRecDepth 100000 in
set_option maxHeartbeats 4000000 in
theorem l12KidsOk_c (v : Value) (nd : Nd) (n : Nat) (w : World) (h : NdAt w v nd) (hn : n ≤ 1048576) :
    Calls Tryz.prog 36 #[v, .int .i64 n] w fun e w' => e = .returned (.bool (kidsOk nd n)) ∧ Below w.heap.size w w' := by
  obtain ⟨s, text, kids⟩ := nd
  obtain ⟨kv, rfl, _, hk⟩ := h
  obtain ⟨a, cap, rfl, h1, h2⟩ := hk.form
  unfold maxLen at h2
  have hbb := (Below.refl w.heap.size w).alloc (Nat.le_refl _) (.cells #[.int .i64 s, .string (B text), .slice a kids.length cap] 56)
  have HK := hide (hk.below hbb)
  have HBB := hide hbb
  clear hk hbb
  simp only at *
  by_cases h7 : s = 7
  · subst h7
    by_cases hm : kids.length = 2
    · have HC : Hid (cntOk 7 kids.length = true) := by show _ = _; unfold cntOk; rw [if_pos rfl, hm]; rfl
      have HLEN := hide hm
      rw [hm] at h1 HK HBB
      rw [show (Value.slice a kids.length cap) = Value.slice a 2 cap from by rw [hm]]
      clear hm
      go_enter Tryz.func36, Tryz.ntmps36
      go_wp2
      -- the kids one by one
      go_loopw [5] (fun i wr => ∃ j : Nat, j ≤ 2 ∧ i = .int .i64 j ∧ Hid ((kids.take j).all (inR · n) = true) ∧ wr = w.alloc (.cells #[.int .i64 7, .string (B text), .slice a 2 cap] 56))
        (fun i _ => 2 - (intOf i).toNat)
      case atStart => exact ⟨0, by omega, rfl, hide (by simp), rfl⟩
      case round =>
        obtain ⟨j, hj, rfl, hall, rfl⟩ := hrel
        by_cases hlt : j < 2
        · obtain ⟨x, hx⟩ : ∃ x, kids[j]? = some x := ⟨_, List.getElem?_eq_getElem (by have := unhide HLEN; omega)⟩
          obtain ⟨b, off, rfl, hb, hc⟩ := (unhide HK).cell hx
          have hst := all_take_step (p := (inR · n)) hx
          rw [unhide hall, Bool.true_and] at hst
          have hfa := fun h => all_false (p := (inR · n)) hx h
          have HST := hide (And.intro hst hfa)
          clear hst hfa hx
          go_wp2_with fail
          refine (l1In_c x n _).mono ?_
          rintro e w1 ⟨rfl, rfl⟩
          cases hxr : inR x n with
          | false =>
            have HXR := hide hxr
            clear hxr
            go_wp2
            go_ret
            exact ⟨by unfold kidsOk; rw [(unhide HST).2 (unhide HXR), Bool.and_false]; rfl, unhide HBB⟩
          | true =>
            have HXR := hide hxr
            clear hxr
            go_wp2
            go_roundw
            case rel => exact ⟨j + 1, by omega, by go_num, hide (by rw [(unhide HST).1]; exact unhide HXR), by first | rfl | trivial⟩
            case measure => simp [intOf]; omega
        · go_wp2
          go_ret
          have := unhide hall
          rw [List.take_of_length_le (by have := unhide HLEN; omega)] at this
          exact ⟨by unfold kidsOk; rw [this]; simp only at *; rw [unhide HC]; rfl, unhide HBB⟩
    · have HC : Hid (cntOk 7 kids.length = false) := by show _ = _; unfold cntOk; rw [if_pos rfl]; simpa using hm
      have hmI : ¬ (kids.length : Int) = 2 := by omega
      go_enter Tryz.func36, Tryz.ntmps36
      go_wp2
      go_ret
      exact ⟨by unfold kidsOk; rw [unhide HC]; rfl, unhide HBB⟩
  · by_cases h8 : s = 8
    · subst h8
      by_cases hm : kids.length ≤ 40
      · have HC : Hid (cntOk 8 kids.length = true) := by show _ = _; unfold cntOk; rw [if_neg (by decide), if_pos rfl]; simpa using hm
        have hmI : ¬ (40 < (kids.length : Int)) := by omega
        go_enter Tryz.func36, Tryz.ntmps36
        go_wp2
        have HLEN : Hid (kids.length = kids.length) := rfl
        -- the kids one by one
        go_loopw [5] (fun i wr => ∃ j : Nat, j ≤ kids.length ∧ i = .int .i64 j ∧ Hid ((kids.take j).all (inR · n) = true) ∧ wr = w.alloc (.cells #[.int .i64 8, .string (B text), .slice a kids.length cap] 56))
          (fun i _ => kids.length - (intOf i).toNat)
        case atStart => exact ⟨0, by omega, rfl, hide (by simp), rfl⟩
        case round =>
          obtain ⟨j, hj, rfl, hall, rfl⟩ := hrel
          by_cases hlt : j < kids.length
          · obtain ⟨x, hx⟩ : ∃ x, kids[j]? = some x := ⟨_, List.getElem?_eq_getElem (by have := unhide HLEN; omega)⟩
            obtain ⟨b, off, rfl, hb, hc⟩ := (unhide HK).cell hx
            have hst := all_take_step (p := (inR · n)) hx
            rw [unhide hall, Bool.true_and] at hst
            have hfa := fun h => all_false (p := (inR · n)) hx h
            have HST := hide (And.intro hst hfa)
            clear hst hfa hx
            go_wp2_with fail
            refine (l1In_c x n _).mono ?_
            rintro e w1 ⟨rfl, rfl⟩
            cases hxr : inR x n with
            | false =>
              have HXR := hide hxr
              clear hxr
              go_wp2
              go_ret
              exact ⟨by unfold kidsOk; rw [(unhide HST).2 (unhide HXR), Bool.and_false]; rfl, unhide HBB⟩
            | true =>
              have HXR := hide hxr
              clear hxr
              go_wp2
              go_roundw
              case rel => exact ⟨j + 1, by omega, by go_num, hide (by rw [(unhide HST).1]; exact unhide HXR), by first | rfl | trivial⟩
              case measure => simp [intOf]; omega
          · go_wp2
            go_ret
            have := unhide hall
            rw [List.take_of_length_le (by have := unhide HLEN; omega)] at this
            exact ⟨by unfold kidsOk; rw [this]; simp only at *; rw [unhide HC]; rfl, unhide HBB⟩
      · have HC : Hid (cntOk 8 kids.length = false) := by show _ = _; unfold cntOk; rw [if_neg (by decide), if_pos rfl]; simpa using hm
        have hmI : 40 < (kids.length : Int) := by omega
        go_enter Tryz.func36, Tryz.ntmps36
        go_wp2
        go_ret
        exact ⟨by unfold kidsOk; rw [unhide HC]; rfl, unhide HBB⟩
    · by_cases hm : kids.length = 0
      · have hk0 : kids = [] := List.length_eq_zero_iff.1 hm
        subst hk0
        have HC : Hid (kidsOk (s, text, []) n = true) := by show _ = _; unfold kidsOk cntOk; simp [h7, h8]
        go_enter Tryz.func36, Tryz.ntmps36
        go_wp2
        go_loopw [5] (fun i wr => i = .int .i64 0 ∧ wr = w.alloc (.cells #[.int .i64 s, .string (B text), .slice a 0 cap] 56)) (fun _ _ => 0)
        case atStart => exact ⟨rfl, rfl⟩
        case round =>
          obtain ⟨rfl, rfl⟩ := hrel
          go_wp2
          go_ret
          exact ⟨by rw [unhide HC]; rfl, unhide HBB⟩
      · have HC : Hid (cntOk s kids.length = false) := by show _ = _; unfold cntOk; rw [if_neg h7, if_neg h8]; simpa using hm
        have hmI : 0 < (kids.length : Int) := by omega
        go_enter Tryz.func36, Tryz.ntmps36
        go_wp2
        go_ret
        exact ⟨by unfold kidsOk; rw [unhide HC]; rfl, unhide HBB⟩

theorem map_get {g : List Int} {xs ys : List Int} {j : Nat} {x y : Int} (hx : xs[j]? = some x) (hy : ys[j]? = some y) (h : gAt g x ≠ gAt g y) : xs.map (gAt g) ≠ ys.map (gAt g) := by
  intro e
  have := congrArg (fun l => l[j]?) e
  simp [hx, hy] at this
  exact h this
theorem map_all {g : List Int} {xs ys : List Int} (hl : xs.length = ys.length) (h : ∀ (j : Nat) x y, xs[j]? = some x → ys[j]? = some y → gAt g x = gAt g y) : xs.map (gAt g) = ys.map (gAt g) := by
  apply List.ext_getElem?
  intro j
  rw [List.getElem?_map, List.getElem?_map]
  rcases Nat.lt_or_ge j xs.length with hj | hj
  · obtain ⟨x, hx⟩ : ∃ x, xs[j]? = some x := ⟨_, List.getElem?_eq_getElem hj⟩
    obtain ⟨y, hy⟩ : ∃ y, ys[j]? = some y := ⟨_, List.getElem?_eq_getElem (by omega)⟩
    rw [hx, hy]; simp [h j x y hx hy]
  · rw [List.getElem?_eq_none hj, List.getElem?_eq_none (by omega)]
theorem gAt_get {g : List Int} {x : Int} (h0 : 0 ≤ x) (h1 : x < g.length) : g[x.toNat]? = some (gAt g x) := by
  unfold gAt
  rw [List.getD_eq_getElem?_getD, List.getElem?_eq_getElem (by omega)]; rfl

end Go.Proofs.YtpbnmhnbkfnaeaaGreatDoor
/- Plain: a list without repeats whose elements all stand in another is no longer than that. -/
namespace Go.Proofs.YtpbnmhnbkfnaeaaGreatDoor

theorem nodup_len {α : Type} [BEq α] [LawfulBEq α] : ∀ {l m : List α}, l.Nodup → (∀ x ∈ l, x ∈ m) → l.length ≤ m.length
  | [], _, _, _ => Nat.zero_le _
  | x :: l, m, h, hs => by
    have hx := hs x (by simp)
    rw [List.nodup_cons] at h
    have := nodup_len (l := l) (m := m.erase x) h.2 (fun y hy => by
      have := hs y (by simp [hy])
      rw [List.mem_erase_of_ne]
      · exact this
      · intro e; subst e; exact h.1 hy)
    rw [List.length_erase_of_mem hx] at this
    have : 0 < m.length := List.length_pos_of_mem hx
    simp; omega
end Go.Proofs.YtpbnmhnbkfnaeaaGreatDoor
/- Plain: which pairs of nodes are held against each other, and in which order: a list of pairs without repeats that grows. For TabCmp of both sides. -/
namespace Go.Proofs.YtpbnmhnbkfnaeaaGreatDoor

/-- the pairs that a node's parts add to the list -/
def nxtP (l : List (Int × Int)) : List (Int × Int) → List (Int × Int)
  | [] => l
  | x :: ks => nxtP (if x ∈ l then l else l ++ [x]) ks
/-- the first pair on the list that c tells apart says how; c and the parts by place -/
def walkP (c : Int → Int → Int) (kids : Int → Int → List (Int × Int)) : Nat → Nat → List (Int × Int) → Int
  | 0, _, _ => 0
  | f + 1, i, l => match l[i]? with
    | none => 0
    | some (a, b) => if c a b = 0 then walkP c kids f (i + 1) (nxtP l (kids a b)) else c a b

def InP (n m : Nat) (x : Int × Int) : Prop := (0 ≤ x.1 ∧ x.1 < n) ∧ 0 ≤ x.2 ∧ x.2 < m
theorem nxtP_ok {n m : Nat} : ∀ {ks l : List (Int × Int)}, l.Nodup → (∀ x ∈ l, InP n m x) → (∀ x ∈ ks, InP n m x) → (nxtP l ks).Nodup ∧ (∀ x ∈ nxtP l ks, InP n m x) ∧ ∃ r, nxtP l ks = l ++ r
  | [], l, hn, hl, _ => ⟨hn, hl, [], by simp [nxtP]⟩
  | x :: ks, l, hn, hl, hk => by
    unfold nxtP
    have hk' : ∀ y ∈ ks, InP n m y := fun y hy => hk y (List.mem_cons_of_mem _ hy)
    by_cases e : x ∈ l
    · rw [if_pos e]
      exact nxtP_ok hn hl hk'
    · rw [if_neg e]
      have h1 : (l ++ [x]).Nodup := by
        rw [List.nodup_append]
        refine ⟨hn, by simp, fun a ha b hb => ?_⟩
        have : b = x := by simpa using hb
        subst this
        exact fun e' => e (e' ▸ ha)
      have h2 : ∀ y ∈ l ++ [x], InP n m y := fun y hy => by
        rcases List.mem_append.1 hy with hy | hy
        · exact hl y hy
        · have : y = x := by simpa using hy
          subst this
          exact hk _ List.mem_cons_self
      obtain ⟨a, b, r, hr⟩ := nxtP_ok h1 h2 hk'
      exact ⟨a, b, [x] ++ r, by rw [hr, List.append_assoc]⟩
/-- all pairs of places -/
def allP (n m : Nat) : List (Int × Int) := (List.range n).flatMap fun (a : Nat) => (List.range m).map fun (b : Nat) => ((a : Int), (b : Int))
theorem allP_len (n m : Nat) : (allP n m).length = n * m := by
  unfold allP
  induction n with
  | zero => simp
  | succ n ih => rw [List.range_succ, List.flatMap_append, List.length_append, ih]; simp [Nat.succ_mul]
theorem allP_mem {n m : Nat} {x : Int × Int} (h : InP n m x) : x ∈ allP n m := by
  obtain ⟨a, b⟩ := x
  obtain ⟨⟨a0, a1⟩, b0, b1⟩ := h
  simp only at a0 a1 b0 b1
  unfold allP
  rw [List.mem_flatMap]
  refine ⟨a.toNat, List.mem_range.2 (by omega), ?_⟩
  rw [List.mem_map]
  refine ⟨b.toNat, List.mem_range.2 (by omega), ?_⟩
  rw [Prod.mk.injEq]
  omega
/-- no more pairs than there are -/
theorem pairs_few {n m : Nat} {l : List (Int × Int)} (hn : l.Nodup) (hl : ∀ x ∈ l, InP n m x) : l.length ≤ n * m := by
  rw [← allP_len]
  exact nodup_len hn (fun x hx => allP_mem (hl x hx))
/-- enough rounds are enough -/
theorem walkP_fuel {c : Int → Int → Int} {kids : Int → Int → List (Int × Int)} {n m : Nat} (hk : ∀ a b, InP n m (a, b) → ∀ x ∈ kids a b, InP n m x) :
    ∀ {f g i : Nat} {l : List (Int × Int)}, l.Nodup → (∀ x ∈ l, InP n m x) → n * m < f + i → n * m < g + i → walkP c kids f i l = walkP c kids g i l := by
  intro f
  induction f with
  | zero =>
    intro g i l hn hl hf hg
    have := pairs_few hn hl
    cases g with
    | zero => rfl
    | succ g =>
      unfold walkP
      rw [List.getElem?_eq_none (by omega)]
  | succ f ih =>
    intro g i l hn hl hf hg
    cases g with
    | zero =>
      have := pairs_few hn hl
      unfold walkP
      rw [List.getElem?_eq_none (by omega)]
    | succ g =>
      unfold walkP
      cases e : l[i]? with
      | none => rfl
      | some x =>
        obtain ⟨a, b⟩ := x
        simp only
        by_cases e0 : c a b = 0
        · rw [if_pos e0, if_pos e0]
          obtain ⟨h1, h2, _⟩ := nxtP_ok hn hl (hk a b (hl _ (List.mem_of_getElem? e)))
          exact ih h1 h2 (by omega) (by omega)
        · rw [if_neg e0, if_neg e0]
end Go.Proofs.YtpbnmhnbkfnaeaaGreatDoor
/- Plain: the walk over pairs without repeats finds the same first difference as the walk with repeats. -/
namespace Go.Proofs.YtpbnmhnbkfnaeaaGreatDoor

/-- with repeats -/
def walkQ (c : Int → Int → Int) (kids : Int → Int → List (Int × Int)) : Nat → Nat → List (Int × Int) → Int
  | 0, _, _ => 0
  | f + 1, j, q => match q[j]? with
    | none => 0
    | some (a, b) => if c a b = 0 then walkQ c kids f (j + 1) (q ++ kids a b) else c a b

theorem nxtP_append : ∀ {q ks l : List (Int × Int)}, nxtP l (q ++ ks) = nxtP (nxtP l q) ks
  | [], _, _ => rfl
  | x :: q, ks, l => by
    show nxtP _ (q ++ ks) = _
    rw [nxtP_append]
    rfl
theorem nxtP_mem : ∀ {ks l : List (Int × Int)} {x : Int × Int}, x ∈ nxtP l ks ↔ x ∈ l ∨ x ∈ ks
  | [], l, x => by simp [nxtP]
  | y :: ks, l, x => by
    unfold nxtP
    rw [nxtP_mem, List.mem_cons]
    by_cases e : y ∈ l
    · rw [if_pos e]
      constructor
      · rintro (h | h)
        · exact .inl h
        · exact .inr (.inr h)
      · rintro (h | rfl | h)
        · exact .inl h
        · exact .inl e
        · exact .inr h
    · rw [if_neg e, List.mem_append, List.mem_singleton]
      constructor
      · rintro ((h | h) | h)
        · exact .inl h
        · exact .inr (.inl h)
        · exact .inr (.inr h)
      · rintro (h | h | h)
        · exact .inl (.inl h)
        · exact .inl (.inr h)
        · exact .inr h
theorem nxtP_same : ∀ {ks l : List (Int × Int)}, (∀ x ∈ ks, x ∈ l) → nxtP l ks = l
  | [], _, _ => rfl
  | x :: ks, l, h => by
    unfold nxtP
    rw [if_pos (h x List.mem_cons_self)]
    exact nxtP_same (fun y hy => h y (List.mem_cons_of_mem _ hy))
theorem nxtP_nd : ∀ {ks l : List (Int × Int)}, l.Nodup → (nxtP l ks).Nodup
  | [], _, h => h
  | x :: ks, l, h => by
    unfold nxtP
    by_cases e : x ∈ l
    · rw [if_pos e]; exact nxtP_nd h
    · rw [if_neg e]
      refine nxtP_nd ?_
      rw [List.nodup_append]
      refine ⟨h, by simp, fun a ha b hb => ?_⟩
      have : b = x := by simpa using hb
      subst this
      exact fun e' => e (e' ▸ ha)
theorem nxtP_pre : ∀ {ks l : List (Int × Int)}, ∃ r, nxtP l ks = l ++ r
  | [], l => ⟨[], by simp [nxtP]⟩
  | x :: ks, l => by
    unfold nxtP
    by_cases e : x ∈ l
    · rw [if_pos e]; exact nxtP_pre
    · rw [if_neg e]
      obtain ⟨r, hr⟩ := nxtP_pre (ks := ks) (l := l ++ [x])
      exact ⟨[x] ++ r, by rw [hr, List.append_assoc]⟩

/-- q with its repeats is l without; the first j of q are the first i of l; what those lead to is there -/
structure WInv (c : Int → Int → Int) (kids : Int → Int → List (Int × Int)) (i : Nat) (l : List (Int × Int)) (j : Nat) (q : List (Int × Int)) : Prop where
  all : nxtP [] q = l
  fst : nxtP [] (q.take j) = l.take i
  il : i ≤ l.length
  jl : j ≤ q.length
  done : ∀ p ∈ l.take i, c p.1 p.2 = 0 ∧ ∀ k ∈ kids p.1 p.2, k ∈ l
theorem WInv.start (c : Int → Int → Int) (kids : Int → Int → List (Int × Int)) (x : Int × Int) : WInv c kids 0 [x] 0 [x] :=
  ⟨rfl, rfl, by simp, by simp, fun p hp => by simp at hp⟩
/-- a pair that was met: nothing turns -/
theorem WInv.skip {c : Int → Int → Int} {kids : Int → Int → List (Int × Int)} {i j : Nat} {l q : List (Int × Int)} (h : WInv c kids i l j q) {a b : Int} (hq : q[j]? = some (a, b)) (hm : (a, b) ∈ l.take i) :
    c a b = 0 ∧ WInv c kids i l (j + 1) (q ++ kids a b) := by
  obtain ⟨h0, hk⟩ := h.done _ hm
  have hjl := (List.getElem?_eq_some_iff.1 hq).1
  refine ⟨h0, ?_, ?_, h.il, by simp; omega, h.done⟩
  · rw [nxtP_append, h.all]; exact nxtP_same hk
  · rw [List.take_append_of_le_length (by omega), List.take_add_one, hq, nxtP_append, h.fst]
    exact nxtP_same (fun y hy => by
      have : y = (a, b) := by simpa using hy
      rw [this]; exact hm)
/-- a new pair: it is the next one -/
theorem WInv.new {c : Int → Int → Int} {kids : Int → Int → List (Int × Int)} {i j : Nat} {l q : List (Int × Int)} (h : WInv c kids i l j q) {a b : Int} (hq : q[j]? = some (a, b)) (hm : (a, b) ∉ l.take i) :
    l[i]? = some (a, b) ∧ (c a b = 0 → WInv c kids (i + 1) (nxtP l (kids a b)) (j + 1) (q ++ kids a b)) := by
  have hjl := (List.getElem?_eq_some_iff.1 hq).1
  have e1 : nxtP [] (q.take (j + 1)) = l.take i ++ [(a, b)] := by
    rw [List.take_add_one, hq, nxtP_append, h.fst]
    show nxtP _ [(a, b)] = _
    unfold nxtP
    rw [if_neg hm]
    rfl
  obtain ⟨r, hr⟩ := nxtP_pre (ks := q.drop (j + 1)) (l := l.take i ++ [(a, b)])
  have e2 : l = l.take i ++ [(a, b)] ++ r := by
    rw [← hr, ← e1, ← nxtP_append, List.take_append_drop]
    exact h.all.symm
  have hil := h.il
  have hlen : (l.take i).length = i := by rw [List.length_take]; omega
  have e3 : l[i]? = some (a, b) := by
    rw [e2, List.append_assoc, List.getElem?_append_right (by omega), hlen]
    simp
  have hlt := (List.getElem?_eq_some_iff.1 e3).1
  refine ⟨e3, fun h0 => ?_⟩
  obtain ⟨s, hs⟩ := nxtP_pre (ks := kids a b) (l := l)
  have e4 : (nxtP l (kids a b)).take (i + 1) = l.take i ++ [(a, b)] := by
    rw [hs, List.take_append_of_le_length (by omega), List.take_add_one, e3]; rfl
  refine ⟨by rw [nxtP_append, h.all], ?_, by rw [hs]; simp; omega, by simp; omega, fun p hp => ?_⟩
  · rw [List.take_append_of_le_length (by omega), e1, e4]
  · rw [e4] at hp
    rcases List.mem_append.1 hp with hp | hp
    · obtain ⟨d0, d1⟩ := h.done p hp
      exact ⟨d0, fun k hk => nxtP_mem.2 (.inl (d1 k hk))⟩
    · have : p = (a, b) := by simpa using hp
      subst this
      exact ⟨h0, fun k hk => nxtP_mem.2 (.inr hk)⟩
/-- what the walk with repeats finds, the other one finds -/
theorem walkQ_walkP {c : Int → Int → Int} {kids : Int → Int → List (Int × Int)} : ∀ {f i j : Nat} {l q : List (Int × Int)}, WInv c kids i l j q → walkQ c kids f j q ≠ 0 → ∃ g, walkP c kids g i l = walkQ c kids f j q := by
  intro f
  induction f with
  | zero => intro i j l q _ h; exact absurd rfl h
  | succ f ih =>
    intro i j l q h hne
    unfold walkQ at hne ⊢
    cases e : q[j]? with
    | none => rw [e] at hne; exact absurd rfl hne
    | some x =>
      obtain ⟨a, b⟩ := x
      rw [e] at hne
      simp only at hne ⊢
      by_cases hm : (a, b) ∈ l.take i
      · obtain ⟨h0, h1⟩ := h.skip e hm
        rw [if_pos h0] at hne ⊢
        exact ih h1 hne
      · obtain ⟨e3, h1⟩ := h.new e hm
        by_cases h0 : c a b = 0
        · rw [if_pos h0] at hne ⊢
          obtain ⟨g, hg⟩ := ih (h1 h0) hne
          refine ⟨g + 1, ?_⟩
          unfold walkP
          rw [e3]
          simp only
          rw [if_pos h0]
          exact hg
        · rw [if_neg h0]
          refine ⟨1, ?_⟩
          unfold walkP
          rw [e3]
          simp only
          rw [if_neg h0]
theorem advance {c : Int → Int → Int} {kids : Int → Int → List (Int × Int)} : ∀ (n : Nat) {i j : Nat} {l q : List (Int × Int)}, WInv c kids i l j q → ∀ x, q[j + n]? = some x → x ∉ l.take i →
    ∃ k j' q' y, WInv c kids i l j' q' ∧ q'[j']? = some y ∧ y ∉ l.take i ∧ ∀ F, walkQ c kids (F + k) j q = walkQ c kids F j' q'
  | 0, i, j, l, q, h, x, hx, hm => ⟨0, j, q, x, h, hx, hm, fun F => rfl⟩
  | n + 1, i, j, l, q, h, x, hx, hm => by
    have hlt := (List.getElem?_eq_some_iff.1 hx).1
    obtain ⟨z, hz⟩ : ∃ z, q[j]? = some z := ⟨_, List.getElem?_eq_getElem (by omega)⟩
    by_cases hzm : z ∈ l.take i
    · obtain ⟨a, b⟩ := z
      obtain ⟨h0, h1⟩ := h.skip hz hzm
      obtain ⟨k, j', q', y, g1, g2, g3, g4⟩ := advance n h1 x (by rw [List.getElem?_append_left (by omega), show j + 1 + n = j + (n + 1) by omega]; exact hx) hm
      refine ⟨k + 1, j', q', y, g1, g2, g3, fun F => ?_⟩
      rw [← g4 F, ← Nat.add_assoc]
      conv => lhs; unfold walkQ
      rw [hz]
      simp only
      rw [if_pos h0]
    · exact ⟨0, j, q, z, h, hz, hzm, fun F => rfl⟩
/-- and the other way round -/
theorem walkP_walkQ {c : Int → Int → Int} {kids : Int → Int → List (Int × Int)} : ∀ {g i j : Nat} {l q : List (Int × Int)}, l.Nodup → WInv c kids i l j q → walkP c kids g i l ≠ 0 → ∃ f, walkQ c kids f j q = walkP c kids g i l := by
  intro g
  induction g with
  | zero => intro i j l q _ _ h; exact absurd rfl h
  | succ g ih =>
    intro i j l q hn h hne
    unfold walkP at hne ⊢
    cases e : l[i]? with
    | none => rw [e] at hne; exact absurd rfl hne
    | some x =>
      rw [e] at hne
      have hxq : x ∈ q := by
        have h1 : x ∈ nxtP [] q := by rw [h.all]; exact List.mem_of_getElem? e
        rcases nxtP_mem.1 h1 with h1 | h1
        · simp at h1
        · exact h1
      have hxm : x ∉ l.take i := fun hm => by
        obtain ⟨t, ht⟩ := List.getElem?_of_mem hm
        have htl := (List.getElem?_eq_some_iff.1 ht).1
        rw [List.length_take] at htl
        rw [List.getElem?_take, if_pos (by omega)] at ht
        obtain ⟨g1, g2⟩ := List.getElem?_eq_some_iff.1 ht
        obtain ⟨g3, g4⟩ := List.getElem?_eq_some_iff.1 e
        have := (List.getElem_inj hn (h₀ := g1) (h₁ := g3)).1 (g2.trans g4.symm)
        omega
      obtain ⟨n, hnq⟩ : ∃ n, q[j + n]? = some x := by
        obtain ⟨t, ht⟩ := List.getElem?_of_mem hxq
        by_cases htj : t < j
        · exfalso
          apply hxm
          rw [← h.fst, nxtP_mem]
          exact .inr (List.mem_of_getElem? (i := t) (by rw [List.getElem?_take, if_pos htj]; exact ht))
        · exact ⟨t - j, by rw [show j + (t - j) = t by omega]; exact ht⟩
      obtain ⟨k, j', q', y, g1, g2, g3, g4⟩ := advance n h x hnq hxm
      obtain ⟨a, b⟩ := y
      obtain ⟨e3, h1⟩ := g1.new g2 g3
      obtain rfl := Option.some.inj (e.symm.trans e3)
      simp only at hne ⊢
      have hstep : ∀ F, walkQ c kids (F + 1) j' q' = if c a b = 0 then walkQ c kids F (j' + 1) (q' ++ kids a b) else c a b := fun F => by
        conv => lhs; unfold walkQ
        rw [g2]
      by_cases h0 : c a b = 0
      · rw [if_pos h0] at hne ⊢
        have hn2 : (nxtP l (kids a b)).Nodup := nxtP_nd hn
        obtain ⟨f, hf⟩ := ih hn2 (h1 h0) hne
        exact ⟨f + 1 + k, by rw [g4, hstep, if_pos h0]; exact hf⟩
      · rw [if_neg h0]
        exact ⟨0 + 1 + k, by rw [g4, hstep, if_neg h0]⟩
end Go.Proofs.YtpbnmhnbkfnaeaaGreatDoor
/- Plain: two data as trees that may go on for ever: labels in level order; the first difference. -/
namespace Go.Proofs.YtpbnmhnbkfnaeaaGreatDoor

/-- nodes by place: what a node is, and its parts -/
structure Dat (L : Type) where
  kids : Int → List Int
  lab : Int → L
/-- level by level, with repeats: what waits after t nodes -/
def Dat.que {L : Type} (D : Dat L) (a : Int) : Nat → List Int
  | 0 => [a]
  | t + 1 => match (D.que a t)[t]? with
    | none => D.que a t
    | some x => D.que a t ++ D.kids x
def Dat.lb {L : Type} (D : Dat L) (a : Int) (t : Nat) : Option L := ((D.que a t)[t]?).map D.lab
def cO {L : Type} (cmp : L → L → Int) : Option L → Option L → Int
  | some x, some y => cmp x y
  | _, _ => 0
section
variable {L : Type} {cmp : L → L → Int} {ar : L → Nat} {D E : Dat L} {a b : Int}
theorem que_len (hD : ∀ x, (D.kids x).length = ar (D.lab x)) (hE : ∀ x, (E.kids x).length = ar (E.lab x)) (hc : ∀ x y, cmp x y = 0 → ar x = ar y) :
    ∀ t, (∀ s, s < t → cO cmp (D.lb a s) (E.lb b s) = 0) → (D.que a t).length = (E.que b t).length
  | 0, _ => rfl
  | t + 1, h => by
    have h1 := que_len hD hE hc t (fun s hs => h s (by omega))
    have h2 := h t (by omega)
    unfold Dat.lb at h2
    unfold Dat.que
    cases e : (D.que a t)[t]? with
    | none =>
      have : (E.que b t)[t]? = none := by rw [List.getElem?_eq_none_iff] at e ⊢; omega
      rw [this]
      exact h1
    | some x =>
      have hl := (List.getElem?_eq_some_iff.1 e).1
      obtain ⟨y, hy⟩ : ∃ y, (E.que b t)[t]? = some y := ⟨_, List.getElem?_eq_getElem (by omega)⟩
      rw [e, hy] at h2
      rw [hy]
      simp only [List.length_append, h1, hD, hE]
      rw [hc _ _ h2]
/-- the first difference from the place j on, in f places -/
def firstO (c : Nat → Int) : Nat → Nat → Int
  | 0, _ => 0
  | f + 1, j => if c j = 0 then firstO c f (j + 1) else c j
theorem lb_none : ∀ {t : Nat}, (D.que a t)[t]? = none → D.que a (t + 1) = D.que a t ∧ (D.que a (t + 1))[t + 1]? = none := fun {t} h => by
  have e : D.que a (t + 1) = D.que a t := by
    conv => lhs; unfold Dat.que
    rw [h]
  refine ⟨e, ?_⟩
  rw [e, List.getElem?_eq_none_iff]
  rw [List.getElem?_eq_none_iff] at h
  omega
theorem first_none : ∀ {f t : Nat}, (D.que a t)[t]? = none → firstO (fun s => cO cmp (D.lb a s) (E.lb b s)) f t = 0
  | 0, _, _ => rfl
  | f + 1, t, h => by
    unfold firstO
    have h0 : cO cmp (D.lb a t) (E.lb b t) = 0 := by
      unfold Dat.lb
      rw [h]
      rfl
    rw [if_pos h0]
    exact first_none (lb_none h).2
theorem walkQ_first (hD : ∀ x, (D.kids x).length = ar (D.lab x)) (hE : ∀ x, (E.kids x).length = ar (E.lab x)) (hc : ∀ x y, cmp x y = 0 → ar x = ar y) :
    ∀ {f j : Nat}, (∀ s, s < j → cO cmp (D.lb a s) (E.lb b s) = 0) →
      walkQ (fun x y => cmp (D.lab x) (E.lab y)) (fun x y => (D.kids x).zip (E.kids y)) f j ((D.que a j).zip (E.que b j)) = firstO (fun s => cO cmp (D.lb a s) (E.lb b s)) f j
  | 0, _, _ => rfl
  | f + 1, j, h => by
    have hl := que_len hD hE hc j h
    cases e : (D.que a j)[j]? with
    | none =>
      rw [first_none e]
      unfold walkQ
      rw [List.getElem?_eq_none (by rw [List.getElem?_eq_none_iff] at e; rw [List.length_zip]; omega)]
    | some x =>
      have hlt := (List.getElem?_eq_some_iff.1 e).1
      obtain ⟨y, hy⟩ : ∃ y, (E.que b j)[j]? = some y := ⟨_, List.getElem?_eq_getElem (by omega)⟩
      have hz : ((D.que a j).zip (E.que b j))[j]? = some (x, y) := by rw [List.getElem?_zip_eq_some]; exact ⟨e, hy⟩
      have hcO : cO cmp (D.lb a j) (E.lb b j) = cmp (D.lab x) (E.lab y) := by
        unfold Dat.lb
        rw [e, hy]
        rfl
      unfold walkQ firstO
      rw [hz]
      simp only [hcO]
      by_cases h0 : cmp (D.lab x) (E.lab y) = 0
      · rw [if_pos h0, if_pos h0]
        rw [← walkQ_first hD hE hc (f := f) (j := j + 1) (fun s hs => by
          by_cases e' : s = j
          · subst e'; rw [hcO]; exact h0
          · exact h s (by omega))]
        have e1 : D.que a (j + 1) = D.que a j ++ D.kids x := by
          conv => lhs; unfold Dat.que
          rw [e]
        have e2 : E.que b (j + 1) = E.que b j ++ E.kids y := by
          conv => lhs; unfold Dat.que
          rw [hy]
        rw [e1, e2, List.zip_append hl]
      · rw [if_neg h0, if_neg h0]
end
end Go.Proofs.YtpbnmhnbkfnaeaaGreatDoor
/- Plain: nodes held against each other with all that is in them: an order of trees. -/
namespace Go.Proofs.YtpbnmhnbkfnaeaaGreatDoor

/-- r is the first difference of c, 0 if there is none -/
def IsFirst (c : Nat → Int) (r : Int) : Prop := (r = 0 ∧ ∀ s, c s = 0) ∨ ∃ t, (∀ s, s < t → c s = 0) ∧ c t ≠ 0 ∧ r = c t
theorem IsFirst.at {c : Nat → Int} {r : Int} (h : IsFirst c r) {t : Nat} (ht : ∀ s, s < t → c s = 0) (hn : c t ≠ 0) : r = c t := by
  rcases h with ⟨_, h⟩ | ⟨u, h1, h2, h3⟩
  · exact absurd (h t) hn
  · rcases Nat.lt_trichotomy u t with e | e | e
    · exact absurd (ht u e) h2
    · rw [h3, e]
    · exact absurd (h1 t e) hn
theorem IsFirst.zero {c : Nat → Int} {r : Int} (h : IsFirst c r) (hz : ∀ s, c s = 0) : r = 0 := by
  rcases h with ⟨e, _⟩ | ⟨u, _, h2, _⟩
  · exact e
  · exact absurd (hz u) h2
theorem firstO_ne {c : Nat → Int} : ∀ {f j : Nat}, firstO c f j ≠ 0 → ∃ t, j ≤ t ∧ (∀ s, j ≤ s → s < t → c s = 0) ∧ c t ≠ 0 ∧ firstO c f j = c t
  | 0, _, h => absurd rfl h
  | f + 1, j, h => by
    unfold firstO at h ⊢
    by_cases e : c j = 0
    · rw [if_pos e] at h ⊢
      obtain ⟨t, h1, h2, h3, h4⟩ := firstO_ne h
      exact ⟨t, by omega, fun s hs hst => by
        by_cases e' : s = j
        · rw [e']; exact e
        · exact h2 s (by omega) hst, h3, h4⟩
    · rw [if_neg e]
      exact ⟨j, Nat.le_refl _, fun s hs hst => absurd hst (by omega), e, rfl⟩
theorem firstO_at {c : Nat → Int} {t : Nat} (hn : c t ≠ 0) : ∀ {f j : Nat}, j ≤ t → t < j + f → (∀ s, j ≤ s → s < t → c s = 0) → firstO c f j = c t
  | 0, _, _, h2, _ => absurd h2 (by omega)
  | f + 1, j, h1, h2, h3 => by
    unfold firstO
    by_cases e : j = t
    · subst e; rw [if_neg hn]
    · rw [if_pos (h3 j (Nat.le_refl _) (by omega))]
      exact firstO_at hn (by omega) (by omega) (fun s hs hst => h3 s (by omega) hst)
theorem walkP_more {c : Int → Int → Int} {kids : Int → Int → List (Int × Int)} : ∀ {g k i : Nat} {l : List (Int × Int)}, walkP c kids g i l ≠ 0 → walkP c kids (g + k) i l = walkP c kids g i l
  | 0, _, _, _, h => absurd rfl h
  | g + 1, k, i, l, h => by
    rw [show g + 1 + k = (g + k) + 1 by omega]
    unfold walkP at h ⊢
    cases e : l[i]? with
    | none => rfl
    | some x =>
      obtain ⟨a, b⟩ := x
      rw [e] at h
      simp only at h ⊢
      by_cases h0 : c a b = 0
      · rw [if_pos h0] at h ⊢
        rw [if_pos h0]
        exact walkP_more h
      · rw [if_neg h0, if_neg h0]
section
variable {L : Type} {cmp : L → L → Int} {ar : L → Nat} {D E F : Dat L} {a b d : Int}
/-- the walk over pairs without repeats, with enough rounds, tells the first difference -/
theorem walkP_first (hD : ∀ x, (D.kids x).length = ar (D.lab x)) (hE : ∀ x, (E.kids x).length = ar (E.lab x)) (hc : ∀ x y, cmp x y = 0 → ar x = ar y) {n m g : Nat}
    (hk : ∀ x y, InP n m (x, y) → ∀ z ∈ (D.kids x).zip (E.kids y), InP n m z) (hab : InP n m (a, b)) (hg : n * m < g) :
    IsFirst (fun s => cO cmp (D.lb a s) (E.lb b s)) (walkP (fun x y => cmp (D.lab x) (E.lab y)) (fun x y => (D.kids x).zip (E.kids y)) g 0 [(a, b)]) := by
  have hq : ∀ f, walkQ (fun x y => cmp (D.lab x) (E.lab y)) (fun x y => (D.kids x).zip (E.kids y)) f 0 [(a, b)] = firstO (fun s => cO cmp (D.lb a s) (E.lb b s)) f 0 := fun f =>
    walkQ_first (a := a) (b := b) hD hE hc (f := f) (j := 0) (fun s hs => absurd hs (by omega))
  by_cases h0 : walkP (fun x y => cmp (D.lab x) (E.lab y)) (fun x y => (D.kids x).zip (E.kids y)) g 0 [(a, b)] = 0
  · refine .inl ⟨h0, ?_⟩
    apply Classical.byContradiction
    intro hne
    have hne' : ∃ s, cO cmp (D.lb a s) (E.lb b s) ≠ 0 := by
      apply Classical.byContradiction
      intro h
      exact hne (fun s => Classical.byContradiction fun h' => h ⟨s, h'⟩)
    have hmin : ∀ s, cO cmp (D.lb a s) (E.lb b s) ≠ 0 → ∃ t, (∀ s, s < t → cO cmp (D.lb a s) (E.lb b s) = 0) ∧ cO cmp (D.lb a t) (E.lb b t) ≠ 0 := by
      intro s
      induction s using Nat.strongRecOn with
      | _ s ih =>
        intro hs
        by_cases h : ∃ u, u < s ∧ cO cmp (D.lb a u) (E.lb b u) ≠ 0
        · obtain ⟨u, hu, hu2⟩ := h
          exact ih u hu hu2
        · exact ⟨s, fun u hu => Classical.byContradiction fun h' => h ⟨u, hu, h'⟩, hs⟩
    obtain ⟨s, hs⟩ := hne'
    obtain ⟨t, ht, htn⟩ := hmin s hs
    have h1 := hq (t + 1)
    rw [firstO_at (c := fun s => cO cmp (D.lb a s) (E.lb b s)) (t := t) htn (Nat.zero_le _) (by omega) (fun s _ hst => ht s hst)] at h1
    obtain ⟨g', hg'⟩ := walkQ_walkP (WInv.start _ _ (a, b)) (by rw [h1]; exact htn)
    rw [h1] at hg'
    have h2 := walkP_more (k := n * m + 1) (by rw [hg']; exact htn)
    rw [walkP_fuel hk (f := g' + (n * m + 1)) (g := g) (by simp) (fun x hx => by
      have : x = (a, b) := by simpa using hx
      rw [this]; exact hab) (by omega) (by omega), h0] at h2
    rw [hg'] at h2
    exact htn h2.symm
  · obtain ⟨f, hf⟩ := walkP_walkQ (by simp) (WInv.start _ _ (a, b)) h0
    rw [hq] at hf
    obtain ⟨t, _, h2, h3, h4⟩ := firstO_ne (by rw [hf]; exact h0)
    exact .inr ⟨t, fun s hs => h2 s (Nat.zero_le _) hs, h3, by rw [← hf, h4]⟩
end
end Go.Proofs.YtpbnmhnbkfnaeaaGreatDoor
/- Plain: how nodes and data are held against each other: numbers by their value, texts, how many parts; which data are ok. -/
namespace Go.Proofs.YtpbnmhnbkfnaeaaGreatDoor
open Go.RowKit Nt

def sgI (z : Int) : Int := if z < 0 then -1 else if 0 < z then 1 else 0
def cmpI (a b : Int) : Int := if a < b then -1 else if b < a then 1 else 0
def cmpRt (p q : Rt) : Int := sgI (zP p * (q.2.2 : Int) - zP q * (p.2.2 : Int))
def cmpT (a b : T3) : Int := if okT a && okT b then cmpRt (valT a) (valT b) else 0
def numTx (t : List UInt8) : T3 := match parseM t 10 with
  | some p => putT p
  | none => nilT
/-- two nodes, without what is in their parts -/
def labCmp (a b : Nd) : Int :=
  if a.1 ≠ b.1 then cmpI a.1 b.1 else if a.1 = 1 then cmpT (numTx a.2.1) (numTx b.2.1) else if a.2.1 ≠ b.2.1 then Lib.compareBytes a.2.1 b.2.1 else cmpI a.2.2.length b.2.2.length

theorem numO_T (o : Option Rt) : numO o = numT (match o with | some p => putT p | none => nilT) := by
  cases o with
  | none => rfl
  | some p => obtain ⟨n, u, d⟩ := p; rfl
theorem numO_tx (t : List UInt8) : numO (parseM t 10) = numT (numTx t) := numO_T _
theorem cmpI_self (a : Int) : cmpI a a = 0 := by unfold cmpI; simp
theorem cmpI_eq {a b : Int} : cmpI a b = 0 ↔ a = b := by unfold cmpI; split <;> (try split) <;> omega
theorem sgI_neg (z : Int) : sgI (-z) = - sgI z := by unfold sgI; split <;> split <;> (try split) <;> omega
theorem sgI_self (z : Int) : sgI (z - z) = 0 := by unfold sgI; simp
theorem cmpT_self (a : T3) : cmpT a a = 0 := by unfold cmpT cmpRt; split <;> simp [sgI]

/-- which nodes, which data are ok -/
def ndOk (n : Nat) (nd : Nd) : Bool := (decide (1 ≤ nd.1) && decide (nd.1 ≤ 9)) && textM nd.1 nd.2.1 && kidsOk nd n
def smallD (d : Dt) : Bool := decide (d.1.length ≤ 80) && decide (d.2.length ≤ 12)
def okD (d : Dt) : Bool := smallD d && d.1.all (ndOk d.1.length) && d.2.all (inR · d.1.length)

theorem ok_kids {n : Nat} {nd : Nd} (h : ndOk n nd = true) : ∀ x ∈ nd.2.2, 0 ≤ x ∧ x < n := by
  unfold ndOk kidsOk at h
  simp only [Bool.and_eq_true, List.all_eq_true] at h
  intro x hx
  have := h.2.2 x hx
  unfold inR at this
  simpa using this
theorem ok_cnt {n : Nat} {nd : Nd} (h : ndOk n nd = true) : cntOk nd.1 nd.2.2.length = true := by
  unfold ndOk kidsOk at h
  simp only [Bool.and_eq_true] at h
  exact h.2.1
theorem cnt_num {m : Nat} (h : cntOk 1 m = true) : m = 0 := by
  unfold cntOk at h
  simpa using h
/-- what compares as the same has as many parts -/
theorem labCmp_len {n m : Nat} {a b : Nd} (ha : ndOk n a = true) (hb : ndOk m b = true) (h : labCmp a b = 0) : a.2.2.length = b.2.2.length := by
  unfold labCmp at h
  by_cases h1 : a.1 ≠ b.1
  · rw [if_pos h1] at h
    exact absurd (cmpI_eq.1 h) h1
  · rw [if_neg h1] at h
    have h1 : a.1 = b.1 := Decidable.not_not.1 h1
    by_cases h2 : a.1 = 1
    · have c1 := ok_cnt ha
      have c2 := ok_cnt hb
      rw [h2] at c1
      rw [← h1, h2] at c2
      rw [cnt_num c1, cnt_num c2]
    · rw [if_neg h2] at h
      by_cases h3 : a.2.1 ≠ b.2.1
      · rw [if_pos h3] at h
        exact absurd ((less_cmp _ _).2.2.1.1 h) h3
      · rw [if_neg h3] at h
        have := cmpI_eq.1 h
        omega

/-- nodes by place, held against each other with all that is in them -/
def ndI (ns : List Nd) (x : Int) : Nd := ns.getD x.toNat (0, [], [])
theorem ndI_get {ns : List Nd} {x : Int} {nd : Nd} (h : ns[x.toNat]? = some nd) : ndI ns x = nd := by
  unfold ndI; rw [List.getD_eq_getElem?_getD, h]; rfl
def kidsP (ns ms : List Nd) (x y : Int) : List (Int × Int) := (ndI ns x).2.2.zip (ndI ms y).2.2
def labP (ns ms : List Nd) (x y : Int) : Int := labCmp (ndI ns x) (ndI ms y)
def cmpAt (ns ms : List Nd) (a b : Int) : Int := walkP (labP ns ms) (kidsP ns ms) (ns.length * ms.length + 1) 0 [(a, b)]
def tabM (d e : Dt) : Int :=
  if okD d && okD e then match d.2, e.2 with
    | a :: _, b :: _ => cmpAt d.1 e.1 a b
    | _, _ => 0
  else 0
theorem ndI_mem {ns : List Nd} {x : Int} (h : 0 ≤ x ∧ x < ns.length) : ndI ns x ∈ ns := by
  have : ns[x.toNat]? = some (ns[x.toNat]'(by omega)) := List.getElem?_eq_getElem _
  rw [ndI_get this]
  exact List.getElem_mem _
theorem kidsP_in {ns ms : List Nd} (hn : ns.all (ndOk ns.length) = true) (hm : ms.all (ndOk ms.length) = true) : ∀ a b, InP ns.length ms.length (a, b) → ∀ x ∈ kidsP ns ms a b, InP ns.length ms.length x := by
  intro a b hab x hx
  obtain ⟨x1, x2⟩ := x
  have h := List.of_mem_zip hx
  exact ⟨ok_kids (List.all_eq_true.1 hn _ (ndI_mem hab.1)) x1 h.1, ok_kids (List.all_eq_true.1 hm _ (ndI_mem hab.2)) x2 h.2⟩
end Go.Proofs.YtpbnmhnbkfnaeaaGreatDoor
/- The specification's width of a character. -/
namespace Go.Proofs.YtpbnmhnbkfnaeaaGreatDoor
open Go.RowKit Nt

theorem runes_keep (s : ByteArray) : ∀ (n i : Nat) (acc : Array Value) (j : Nat), j < acc.size → (Conv.runesFrom s n i acc)[j]? = acc[j]?
  | 0, _, acc, j, _ => rfl
  | n + 1, i, acc, j, h => by
    unfold Conv.runesFrom
    split
    · rw [runes_keep s n _ _ j (by simp; omega), Array.getElem?_push_lt h, Array.getElem?_eq_getElem h]
    · rfl
theorem runes_head (s : ByteArray) (h : 0 < s.size) : (Conv.runesFrom s s.size 0 #[])[0]? = some (.int .i32 ((Utf8.decode s 0).1 : Nat)) := by
  obtain ⟨n, hn⟩ : ∃ n, s.size = n + 1 := ⟨s.size - 1, by omega⟩
  rw [hn]
  unfold Conv.runesFrom
  rw [if_pos (by omega), runes_keep s n _ _ 0 (by simp)]
  rfl

set_option maxHeartbeats 4000000 in
set_option maxRecDepth 100000 in
theorem l11Size_c (s : ByteArray) (w : World) (hs : s.size ≤ 1048576) (h0 : 0 < s.size) :
    Calls Tryz.prog 67 #[.string s] w fun e w' => e = .returned (.int .i64 (sizeM s)) ∧ Below w.heap.size w w' := by
  have hz := size_runesFrom s s.size 0 #[]
  simp only [List.size_toArray, List.length_nil, Nat.zero_add] at hz
  have hcv := run_runes_of_string (P := Tryz.prog) w 9 139 21 s Tryz.underlying9 Tryz.underlying139 Tryz.underlying21 (by omega)
  have hh := runes_head s h0
  obtain ⟨R, hR⟩ : ∃ R, Conv.runesFrom s s.size 0 #[] = R := ⟨_, rfl⟩
  rw [hR] at hcv hz hh
  have hR0 : 0 < R.size := by
    rcases Nat.eq_zero_or_pos R.size with h | h
    · rw [Array.getElem?_eq_none (by omega)] at hh; cases hh
    · exact h
  obtain ⟨C, hC⟩ : ∃ C, R ++ Array.replicate (grownCap w R.size 0 21 - R.size) (Value.int .i32 0) = C := ⟨_, rfl⟩
  have hc0 : C[0]? = some (.int .i32 ((Utf8.decode s 0).1 : Nat)) := by rw [← hC, Array.getElem?_append_left hR0]; exact hh
  rw [hC] at hcv
  obtain ⟨rn, hrn⟩ : ∃ rn, (Utf8.decode s 0).1 = rn := ⟨_, rfl⟩
  rw [hrn] at hc0
  obtain ⟨cp, hcp⟩ : ∃ cp, grownCap w R.size 0 21 = cp := ⟨_, rfl⟩
  rw [hcp] at hcv
  have HB := hide (((Below.refl w.heap.size w).alloc (Nat.le_refl _) (.cells C 21)).drew)
  have hcell : (w.alloc (.cells C 21)).cell? ⟨w.heap.size, 0, none⟩ = some (.int .i32 rn) := by rw [World.cell?_alloc_mark]; exact hc0
  have h0' : ((s.size : Int) == 0) = false := by rw [beq_eq_false_iff_ne]; omega
  have h0'' : (0 : Int) < R.size := by omega
  clear hC hcp hR hz hh hc0
  by_cases hb : rn = 65533
  · subst hb
    by_cases h3 : s.size < 3
    · have h3' : (s.size : Int) < 3 := by omega
      have HE : Hid (sizeM s = 0) := hide (by unfold sizeM badC; rw [hrn, if_pos (.inr ⟨rfl, .inl h3⟩)])
      clear hrn h3
      go_enter Tryz.func67, Tryz.ntmps67
      go_wp2_with (simp only [hcv])
      go_ret
      exact ⟨ret_int (by rw [unhide HE]; rfl), unhide HB⟩
    · have h3' : ¬ (s.size : Int) < 3 := by omega
      by_cases he : s.extract 0 3 = ⟨#[239, 191, 189]⟩
      · have HE : Hid (sizeM s = (Utf8.encode (65533 : Int)).size) := hide (by
          unfold sizeM badC; rw [hrn, if_neg]; · rfl
          · rintro (h | ⟨_, h | h⟩)
            · omega
            · exact h3 h
            · exact h he)
        clear hrn h3
        go_enter Tryz.func67, Tryz.ntmps67
        go_wp2_with (simp only [hcv])
        go_ret
        exact ⟨ret_int (by rw [unhide HE]), unhide HB⟩
      · have HE : Hid (sizeM s = 0) := hide (by unfold sizeM badC; rw [hrn, if_pos (.inr ⟨rfl, .inr he⟩)])
        have hne : ((s.extract 0 3).toList == [239, 191, 189]) = false := by
          rw [beq_eq_false_iff_ne]
          intro e
          apply he
          rw [Lib.toList_data] at e
          exact ByteArray.ext (by apply Array.ext'; exact e)
        clear hrn h3 he
        go_enter Tryz.func67, Tryz.ntmps67
        go_wp2_with (simp only [hcv])
        go_ret
        exact ⟨ret_int (by rw [unhide HE]; rfl), unhide HB⟩
  · have hb' : ((rn : Int) == 65533) = false := by rw [beq_eq_false_iff_ne]; omega
    have HE : Hid (sizeM s = (Utf8.encode (rn : Int)).size) := hide (by unfold sizeM; rw [hrn, if_neg (by omega)])
    clear hb hrn
    go_enter Tryz.func67, Tryz.ntmps67
    go_wp2_with (simp only [hcv])
    go_ret
    exact ⟨ret_int (by rw [unhide HE]), unhide HB⟩
end Go.Proofs.YtpbnmhnbkfnaeaaGreatDoor
/- The specification's looks at a text: what ends a word, characters one by one. -/
namespace Go.Proofs.YtpbnmhnbkfnaeaaGreatDoor
open Go.RowKit Nt

theorem l1In_g (k a b : Int) (w : World) :
    Calls Tryz.prog 34 #[.int .i64 k, .int .i64 a, .int .i64 b] w fun e w' => e = .returned (.bool (decide (a ≤ k) && decide (k ≤ b))) ∧ w' = w := by
  by_cases h0 : a ≤ k
  · have d0 : decide (a ≤ k) = true := decide_eq_true h0
    have HR : Hid ((decide (a ≤ k) && decide (k ≤ b)) = decide (k ≤ b)) := hide (by rw [d0, Bool.true_and])
    clear d0
    go_enter Tryz.func34, Tryz.ntmps34
    go_wp2
    go_ret
    exact ⟨by rw [unhide HR]; rfl, rfl⟩
  · have HR : Hid ((decide (a ≤ k) && decide (k ≤ b)) = false) := hide (by rw [decide_eq_false h0, Bool.false_and])
    go_enter Tryz.func34, Tryz.ntmps34
    go_wp2
    go_ret
    exact ⟨by rw [unhide HR]; rfl, rfl⟩

def blankN (c : Nat) : Bool := c == 32 || c == 9 || c == 10 || c == 13
theorem l11Blank_c (c : Nat) (w : World) :
    Calls Tryz.prog 134 #[.int .u8 c] w fun e w' => e = .returned (.bool (blankN c)) ∧ w' = w := by
  by_cases h : c = 32 ∨ c = 9 ∨ c = 10 ∨ c = 13
  · rcases h with rfl | rfl | rfl | rfl
    all_goals
      go_enter Tryz.func134, Tryz.ntmps134
      go_wp2
      go_ret
      exact ⟨rfl, rfl⟩
  · have HR : Hid (blankN c = false) := hide (by unfold blankN; simp only [Bool.or_eq_false_iff, beq_eq_false_iff_ne]; omega)
    have h1 : ((c : Int) == 32) = false := by rw [beq_eq_false_iff_ne]; omega
    have h2 : ((c : Int) == 9) = false := by rw [beq_eq_false_iff_ne]; omega
    have h3 : ((c : Int) == 10) = false := by rw [beq_eq_false_iff_ne]; omega
    have h4 : ((c : Int) == 13) = false := by rw [beq_eq_false_iff_ne]; omega
    clear h
    go_enter Tryz.func134, Tryz.ntmps134
    go_wp2
    go_ret
    exact ⟨by rw [unhide HR]; rfl, rfl⟩
theorem l11Ends_c (c : Nat) (w : World) :
    Calls Tryz.prog 108 #[.int .u8 c] w fun e w' => e = .returned (.bool (endN c)) ∧ w' = w := by
  have HB := hide (l11Blank_c c w)
  by_cases h : blankN c = true
  · have HR : Hid (endN c = true) := hide (by unfold endN blankN at *; simp only [Bool.or_eq_true, beq_iff_eq] at *; omega)
    rw [h] at HB
    clear h
    go_enter Tryz.func108, Tryz.ntmps108
    go_wp2_with fail
    refine (unhide HB).mono ?_
    rintro e w1 ⟨rfl, rfl⟩
    go_wp2
    go_ret
    exact ⟨by rw [unhide HR]; rfl, rfl⟩
  · have h : blankN c = false := by simpa using h
    have hE : endN c = (c == 40 || c == 41 || c == 34 || c == 59 || c == 39) := by
      have : endN c = (blankN c || c == 40 || c == 41 || c == 34 || c == 59 || c == 39) := rfl
      rw [this, h]; rfl
    by_cases h' : c = 40 ∨ c = 41 ∨ c = 34 ∨ c = 59 ∨ c = 39
    · rcases h' with rfl | rfl | rfl | rfl | rfl
      all_goals
        rw [h] at HB
        go_enter Tryz.func108, Tryz.ntmps108
        go_wp2_with fail
        refine (unhide HB).mono ?_
        rintro e w1 ⟨rfl, rfl⟩
        go_wp2
        go_ret
        exact ⟨rfl, rfl⟩
    · have HR : Hid (endN c = false) := hide (by rw [hE]; simp only [Bool.or_eq_false_iff, beq_eq_false_iff_ne]; omega)
      rw [h] at HB
      have h1 : ((c : Int) == 40) = false := by rw [beq_eq_false_iff_ne]; omega
      have h2 : ((c : Int) == 41) = false := by rw [beq_eq_false_iff_ne]; omega
      have h3 : ((c : Int) == 34) = false := by rw [beq_eq_false_iff_ne]; omega
      have h4 : ((c : Int) == 59) = false := by rw [beq_eq_false_iff_ne]; omega
      have h5 : ((c : Int) == 39) = false := by rw [beq_eq_false_iff_ne]; omega
      clear h h' hE
      go_enter Tryz.func108, Tryz.ntmps108
      go_wp2_with fail
      refine (unhide HB).mono ?_
      rintro e w1 ⟨rfl, rfl⟩
      go_wp2
      go_ret
      exact ⟨by rw [unhide HR]; rfl, rfl⟩

set_option maxHeartbeats 4000000 in
set_option maxRecDepth 100000 in
theorem l11Size_nil (w : World) :
    Calls Tryz.prog 67 #[.string ⟨#[]⟩] w fun e w' => e = .returned (.int .i64 0) ∧ Below w.heap.size w w' := by
  have hcv := run_runes_of_string (P := Tryz.prog) w 9 139 21 ⟨#[]⟩ Tryz.underlying9 Tryz.underlying139 Tryz.underlying21 (by first | decide | exact Nat.zero_le _)
  obtain ⟨X, hX⟩ : ∃ X, Conv.runesFrom ⟨#[]⟩ (⟨#[]⟩ : ByteArray).size 0 #[] = X := ⟨_, rfl⟩
  rw [hX] at hcv
  obtain ⟨C, hC⟩ : ∃ C, X ++ Array.replicate (grownCap w X.size 0 21 - X.size) (Value.int .i32 0) = C := ⟨_, rfl⟩
  rw [hC] at hcv
  have HB := hide (((Below.refl w.heap.size w).alloc (Nat.le_refl _) (.cells C 21)).drew)
  clear hX hC
  go_enter Tryz.func67, Tryz.ntmps67
  go_wp2_with (simp only [hcv])
  go_ret
  exact ⟨rfl, unhide HB⟩
theorem specSize_c (l : List UInt8) (w : World) (hs : l.length ≤ 1048576) :
    Calls Tryz.prog 67 #[.string (B l)] w fun e w' => e = .returned (.int .i64 (sizeM (B l))) ∧ Below w.heap.size w w' := by
  by_cases h : l = []
  · subst h
    have : sizeM (B []) = 0 := sizeM_nil
    rw [this]
    exact l11Size_nil w
  · exact l11Size_c (B l) w (by rw [B_size]; exact hs) (by rw [B_size]; exact List.length_pos_iff.2 h)

theorem sizeM_le (l : List UInt8) (hne : l ≠ []) : sizeM (B l) ≤ l.length := by
  have hs : 0 < (B l).size := by rw [B_size]; exact List.length_pos_iff.2 hne
  by_cases h0 : sizeM (B l) = 0
  · omega
  · have := dec_asc (B l) 0 hs
    rw [← sizeM_size _ hs h0, B_size] at this
    omega
/-- how long the rest of a text is -/
def lenS : Value → Nat
  | .string s => s.size
  | _ => 0
set_option maxHeartbeats 4000000 in
theorem l11Runes_c (l : List UInt8) (w : World) (hs : l.length ≤ 1048576) :
    Calls Tryz.prog 66 #[.string (B l)] w fun e w' => e = .returned (.bool (Lib.validD l)) ∧ Below w.heap.size w w' := by
  obtain ⟨V, hV⟩ : ∃ V, Lib.validD l = V := ⟨_, rfl⟩
  rw [hV]
  have HC := hide (fun (m : List UInt8) W h => specSize_c m W h)
  go_enter Tryz.func66, Tryz.ntmps66
  go_wp2_with fail
  go_loopw [0] (fun s wr => ∃ m : List UInt8, s = .string (B m) ∧ m.length ≤ l.length ∧ Hid (Lib.validD m = V) ∧ Below w.heap.size w wr) (fun s _ => lenS s)
  case atStart => exact ⟨l, rfl, Nat.le_refl _, hide hV, Below.refl _ _⟩
  case round =>
    obtain ⟨m, rfl, hm, HV, hb⟩ := hrel
    have HB := hide hb
    have HL := hide (B_size m)
    clear hb hV
    by_cases hne : m = []
    · subst hne
      have HR : Hid (V = true) := hide (by rw [← unhide HV]; rfl)
      have hz : ¬ (0 : Int) < ((B []).size : Int) := by simp [B_size]
      go_wp2_with fail
      go_ret
      exact ⟨by rw [unhide HR]; rfl, unhide HB⟩
    · have hz : (0 : Int) < ((B m).size : Int) := by rw [B_size]; have := List.length_pos_iff.2 hne; omega
      have HST := hide (valid_step m hne)
      have hle := sizeM_le m hne
      obtain ⟨k, hk⟩ : ∃ k, sizeM (B m) = k := ⟨_, rfl⟩
      have HM : Hid ((B m).extract k (B m).size = B (m.drop k)) := hide (by rw [B_size, B_extract, List.take_length])
      have hpos := List.length_pos_iff.2 hne
      have HS : Hid (∀ W, Calls Tryz.prog 67 #[.string (B m)] W fun e w' => e = .returned (.int .i64 k) ∧ Below W.heap.size W w') := hide (fun W => by rw [← hk]; exact unhide HC m W (by omega))
      rw [hk] at HST hle
      clear hk
      go_wp2_with fail
      refine (unhide HS _).mono ?_
      rintro e w1 ⟨rfl, hb1⟩
      have HB1 := hide (step_b (unhide HB) hb1)
      clear hb1
      by_cases h0 : k = 0
      · subst h0
        have HR : Hid (V = false) := hide (by rw [← unhide HV, unhide HST, if_pos rfl])
        go_wp2_with fail
        go_ret
        exact ⟨by rw [unhide HR]; rfl, unhide HB1⟩
      · have h0' : ((k : Int) == 0) = false := by rw [beq_eq_false_iff_ne]; omega
        have hk2 : ¬ ((B m).size : Int) < (k : Int) := by rw [B_size]; omega
        have HV2 : Hid (Lib.validD (m.drop k) = V) := hide (by rw [← unhide HV, unhide HST, if_neg h0])
        go_wp2_with fail
        go_roundw
        case rel => exact ⟨m.drop k, by rw [unhide HM], by simp; omega, HV2, unhide HB1⟩
        case measure => rw [unhide HM]; simp [lenS, B_size]; omega
end Go.Proofs.YtpbnmhnbkfnaeaaGreatDoor
/- The specification's NumCmp, l21Ints, l21Texts. -/
namespace Go.Proofs.YtpbnmhnbkfnaeaaGreatDoor
open Go.RowKit Nt

theorem l21Ints_c (a b : Int) (w : World) :
    Calls Tryz.prog 101 #[.int .i64 a, .int .i64 b] w fun e w' => e = .returned (.int .i64 (cmpI a b)) ∧ w' = w := by
  by_cases h1 : a < b
  · have HR : Hid (cmpI a b = -1) := hide (by unfold cmpI; rw [if_pos h1])
    go_enter Tryz.func101, Tryz.ntmps101
    go_wp2
    go_ret
    exact ⟨ret_int (unhide HR).symm, rfl⟩
  · by_cases h2 : b < a
    · have HR : Hid (cmpI a b = 1) := hide (by unfold cmpI; rw [if_neg h1, if_pos h2])
      go_enter Tryz.func101, Tryz.ntmps101
      go_wp2
      go_ret
      exact ⟨ret_int (unhide HR).symm, rfl⟩
    · have HR : Hid (cmpI a b = 0) := hide (by unfold cmpI; rw [if_neg h1, if_neg h2])
      go_enter Tryz.func101, Tryz.ntmps101
      go_wp2
      go_ret
      exact ⟨ret_int (unhide HR).symm, rfl⟩
theorem l21Texts_c (a b : List UInt8) (w : World) :
    Calls Tryz.prog 103 #[.string (B a), .string (B b)] w fun e w' => e = .returned (.int .i64 (Lib.compareBytes a b)) ∧ w' = w := by
  obtain ⟨h1, h2, h3, h4⟩ := less_cmp a b
  obtain ⟨c, hc⟩ : ∃ c, Lib.compareBytes a b = c := ⟨_, rfl⟩
  have h5 : ((B a).toList == (B b).toList) = decide (c = 0) := by
    rw [B_tl, B_tl, Bool.eq_iff_iff]
    simp only [beq_iff_eq, decide_eq_true_eq]
    rw [← hc]; exact h3.symm
  rw [hc] at h1 h4 ⊢
  rw [← B_tl a, ← B_tl b] at h1
  clear h2 h3 hc
  rcases h4 with rfl | rfl | rfl
  · have k1 : Op.bytesLess (B a).toList (B b).toList = true := h1
    clear h1 h5
    go_enter Tryz.func103, Tryz.ntmps103
    go_wp2
    go_ret
    exact ⟨rfl, rfl⟩
  · have k1 : Op.bytesLess (B a).toList (B b).toList = false := h1
    have k2 : ((B a).toList == (B b).toList) = true := h5
    clear h1 h5
    go_enter Tryz.func103, Tryz.ntmps103
    go_wp2
    go_ret
    exact ⟨rfl, rfl⟩
  · have k1 : Op.bytesLess (B a).toList (B b).toList = false := h1
    have k2 : ((B a).toList == (B b).toList) = false := h5
    clear h1 h5
    go_enter Tryz.func103, Tryz.ntmps103
    go_wp2
    go_ret
    exact ⟨rfl, rfl⟩

theorem sgn_lt (x y : Nat) : sgI ((x : Int) - y) = cmpN x y := by
  unfold sgI cmpN; split <;> split <;> (try split) <;> (try split) <;> omega
/-- products held against each other -/
theorem cmpRt_across (n1 n2 : Bool) (x1 y1 x2 y2 : Nat) (hy1 : 0 < y1) (hy2 : 0 < y2) (h1 : n1 = true → x1 ≠ 0) (h2 : n2 = true → x2 ≠ 0) :
    cmpRt (n1, x1, y1) (n2, x2, y2) = if n1 ≠ n2 then (if n1 then -1 else 1) else if n1 then - cmpN (x1 * y2) (x2 * y1) else cmpN (x1 * y2) (x2 * y1) := by
  unfold cmpRt zP
  simp only
  have e : ∀ (a b : Nat), ((a * b : Nat) : Int) = (a : Int) * (b : Int) := fun a b => by simp
  cases n1 <;> cases n2
  · simp only [sgn, ne_eq, not_true_eq_false, if_false, Bool.false_eq_true]
    rw [← e, ← e, sgn_lt]
  · simp only [sgn, ne_eq, Bool.false_eq_true, if_false, if_true, not_false_eq_true]
    rw [Int.neg_mul, ← e, ← e]
    have : 0 < x2 * y1 := Nat.mul_pos (by have := h2 rfl; omega) hy1
    unfold sgI
    rw [if_neg (by omega), if_pos (by omega)]
  · simp only [sgn, ne_eq, Bool.false_eq_true, if_false, if_true, not_false_eq_true, reduceCtorEq]
    rw [Int.neg_mul, ← e, ← e]
    have : 0 < x1 * y2 := Nat.mul_pos (by have := h1 rfl; omega) hy2
    unfold sgI
    rw [if_pos (by omega)]
  · simp only [sgn, ne_eq, not_true_eq_false, if_false, if_true]
    rw [Int.neg_mul, Int.neg_mul, ← e, ← e, ← sgn_lt, ← sgI_neg]
    congr 1; omega

theorem below_two (w : World) (x y z x' y' z' : Value) (T : TypeId) : Below w.heap.size w ((w.alloc (.cells #[x, y, z] T)).alloc (.cells #[x', y', z'] T)) := step_a (step_a (Below.refl _ _) _) _
set_option maxRecDepth 100000 in
set_option maxHeartbeats 4000000 in
theorem l3Cmp_c (n1 n2 : Bool) (x1 y1 x2 y2 : Nat) (w : World) (sx1 : (dec x1).size ≤ 60) (sy1 : (dec y1).size ≤ 60) (sx2 : (dec x2).size ≤ 60) (sy2 : (dec y2).size ≤ 60) (hy1 : 0 < y1) (hy2 : 0 < y2) (h1 : n1 = true → x1 ≠ 0) (h2 : n2 = true → x2 ≠ 0) :
    Calls Tryz.prog 130 #[.agg #[.bool n1, .string (dec x1), .string (dec y1)], .agg #[.bool n2, .string (dec x2), .string (dec y2)]] w fun e w' => e = .returned (.int .i64 (cmpRt (n1, x1, y1) (n2, x2, y2))) ∧ Below w.heap.size w w' := by
  have HE := hide (cmpRt_across n1 n2 x1 y1 x2 y2 hy1 hy2 h1 h2)
  obtain ⟨R, hR⟩ : ∃ R, cmpRt (n1, x1, y1) (n2, x2, y2) = R := ⟨_, rfl⟩
  rw [hR] at HE ⊢
  have HB := hide (below_two w (.bool n1) (.string (dec x1)) (.string (dec y1)) (.bool n2) (.string (dec x2)) (.string (dec y2)) 79)
  have HA1 := hide ((AtC3.new w (.bool n1) (.string (dec x1)) (.string (dec y1)) 79).below (step_a (Below.refl _ _) (.cells #[.bool n2, .string (dec x2), .string (dec y2)] 79)))
  have HA2 := hide (AtC3.new (w.alloc (.cells #[.bool n1, .string (dec x1), .string (dec y1)] 79)) (.bool n2) (.string (dec x2)) (.string (dec y2)) 79)
  rw [World.size_alloc] at HA2
  clear hR h1 h2 hy1 hy2
  by_cases hn : n1 = n2
  · subst hn
    have hb : (n1 == n1) = true := by simp
    have d1 := dec_prod sx1 sy2
    have d2 := dec_prod sx2 sy1
    have HM1 := hide (fun W => l1Mul_c x1 y2 W (by omega) (by omega))
    have HM2 := hide (fun W => l1Mul_c x2 y1 W (by omega) (by omega))
    have HM3 := hide (fun W => l1Cmp_c (x1 * y2) (x2 * y1) W (by omega) (by omega))
    obtain ⟨c, hc⟩ : ∃ c, cmpN (x1 * y2) (x2 * y1) = c := ⟨_, rfl⟩
    have hcr : -1 ≤ c ∧ c ≤ 1 := by rw [← hc]; unfold cmpN; split <;> (try split) <;> omega
    rw [hc] at HE HM3
    rw [if_neg (by simp)] at HE
    clear sx1 sx2 sy1 sy2 d1 d2 hc
    go_enter Tryz.func130, Tryz.ntmps130
    go_wp2_with fail
    obtain ⟨W, hW⟩ : ∃ W, (w.alloc (.cells #[.bool n1, .string (dec x1), .string (dec y1)] 79)).alloc (.cells #[.bool n1, .string (dec x2), .string (dec y2)] 79) = W := ⟨_, rfl⟩
    rw [hW] at HB HA1 HA2 ⊢
    clear hW
    have a1 := (unhide HA1).n1
    have a2 := (unhide HA1).n2
    have b1 := (unhide HA2).n1
    have b2 := (unhide HA2).n2
    go_cut [5] from 13 to 23 (fun s wx => s = .int .i64 c ∧ Below W.heap.size W wx)
    case first =>
      go_region_held3 (fun w' => w'.cell? ⟨w.heap.size, 1, none⟩ = some (.string (dec x1)) ∧ w'.cell? ⟨w.heap.size, 2, none⟩ = some (.string (dec y1)) ∧ w'.cell? ⟨w.heap.size + 1, 1, none⟩ = some (.string (dec x2)) ∧ w'.cell? ⟨w.heap.size + 1, 2, none⟩ = some (.string (dec y2))) (((try dsimp only); (repeat' apply And.intro) <;> (first | with_reducible assumption | exact a1 | exact a2 | exact b1 | exact b2))) (first | (go_at_call_of 133 (dec x1); refine (unhide HM1 W.drew).mono ?_; rintro e w1 ⟨rfl, hb1⟩; have HB1 : Hid (Below W.heap.size W w1) := (Below.refl _ _).drew.trans hb1; have HC1 := hide ((unhide HA1).below (unhide HB1)); have HC2 := hide ((unhide HA2).below (unhide HB1)); have p1 := (unhide HC1).n1; have p2 := (unhide HC1).n2; have p3 := (unhide HC2).n1; have p4 := (unhide HC2).n2; clear hb1) | (go_at_call_of 133 (dec x2); refine (unhide HM2 w1).mono ?_; rintro e w2 ⟨rfl, hb2⟩; have HB2 := hide (step_b (unhide HB1) hb2); have q1 := ((unhide HC1).below hb2).n1; have q2 := ((unhide HC1).below hb2).n2; have q3 := ((unhide HC2).below hb2).n1; have q4 := ((unhide HC2).below hb2).n2; clear hb2) | (go_at_call 152; refine (unhide HM3 w2).mono ?_; rintro e w3 ⟨rfl, rfl⟩))
      all_goals
        go_wp2_with fail
        go_meet
        exact ⟨rfl, unhide HB2⟩
    case rest =>
    obtain ⟨rfl, hbc⟩ := hcut
    rename World => w4
    have HB4 := hide (step_b (unhide HB) hbc)
    have p0 := ((unhide HA1).below hbc).n0
    clear hbc a1 a2 b1 b2
    cases n1 with
    | true =>
      have HQ : Hid (-c = R) := hide (by rw [unhide HE]; rfl)
      go_wp2_with fail
      go_ret
      exact ⟨ret_int (unhide HQ), unhide HB4⟩
    | false =>
      go_wp2_with fail
      go_ret
      exact ⟨ret_int (by rw [unhide HE]; rfl), unhide HB4⟩
  · have hb : (n1 == n2) = false := by simpa using hn
    rw [if_pos hn] at HE
    clear hn
    cases n1 with
    | true =>
      go_enter Tryz.func130, Tryz.ntmps130
      go_wp2_with fail
      go_ret
      exact ⟨ret_int (unhide HE).symm, unhide HB⟩
    | false =>
      go_enter Tryz.func130, Tryz.ntmps130
      go_wp2_with fail
      go_ret
      exact ⟨ret_int (unhide HE).symm, unhide HB⟩
end Go.Proofs.YtpbnmhnbkfnaeaaGreatDoor
/- The specification's NumCmp; nodes held against each other. -/
namespace Go.Proofs.YtpbnmhnbkfnaeaaGreatDoor
open Go.RowKit Nt

def smallT (t : T3) : Prop := t.2.1.length ≤ 1000 ∧ t.2.2.length ≤ 1000
theorem cmpT_no {a b : T3} (h : (okT a && okT b) = false) : cmpT a b = 0 := by unfold cmpT; rw [h]; rfl
theorem cmpT_yes {a b : T3} (ha : okT a = true) (hb : okT b = true) : cmpT a b = cmpRt (valT a) (valT b) := by unfold cmpT; rw [ha, hb]; rfl
theorem ok_T {t : T3} (h : okT t = true) : ∃ n x y, t = putT (n, x, y) ∧ valT t = (n, x, y) ∧ (dec x).size ≤ 60 ∧ (dec y).size ≤ 60 ∧ 0 < y ∧ (n = true → x ≠ 0) := by
  have h1 := putT_val h
  obtain ⟨n, x, y, hv⟩ : ∃ n x y, valT t = (n, x, y) := ⟨_, _, _, rfl⟩
  rw [hv] at h1
  obtain ⟨p1, p2, p3, p4, p5, p6, _⟩ := ok_parts h
  rw [← h1] at p3 p4 p5 p6
  simp only [putT, valDec_txl] at p3 p4 p5 p6
  exact ⟨n, x, y, h1.symm, hv, by rw [dec_len]; exact p3, by rw [dec_len]; exact p4, by omega, p6⟩

set_option maxRecDepth 100000 in
set_option maxHeartbeats 4000000 in
theorem specNumCmp_c (a b : T3) (w : World) (ha : smallT a) (hb : smallT b) :
    Calls Tryz.prog 102 #[numT a, numT b] w fun e w' => e = .returned (.int .i64 (cmpT a b)) ∧ Below w.heap.size w w' := by
  obtain ⟨n1, u1, d1⟩ := a
  obtain ⟨n2, u2, d2⟩ := b
  obtain ⟨ha1, ha2⟩ := ha
  obtain ⟨hb1, hb2⟩ := hb
  simp only at ha1 ha2 hb1 hb2
  have HB := hide (below_two w (.bool n1) (.string (B u1)) (.string (B d1)) (.bool n2) (.string (B u2)) (.string (B d2)) 79)
  have HA1 := hide ((AtC3.new w (.bool n1) (.string (B u1)) (.string (B d1)) 79).below (step_a (Below.refl _ _) (.cells #[.bool n2, .string (B u2), .string (B d2)] 79)))
  have HA2 := hide (AtC3.new (w.alloc (.cells #[.bool n1, .string (B u1), .string (B d1)] 79)) (.bool n2) (.string (B u2)) (.string (B d2)) 79)
  rw [World.size_alloc] at HA2
  have H1 := hide (fun W => specNumOk_c n1 u1 d1 W (by omega) (by omega))
  have H2 := hide (fun W => specNumOk_c n2 u2 d2 W (by omega) (by omega))
  have HR := hide (fun (h : (okM n1 u1 d1 && okM n2 u2 d2) = false) => cmpT_no (a := (n1, u1, d1)) (b := (n2, u2, d2)) h)
  have HY := hide (fun (h : okM n1 u1 d1 = true) (h' : okM n2 u2 d2 = true) => cmpT_yes (a := (n1, u1, d1)) (b := (n2, u2, d2)) h h')
  have HT1 := hide (fun (h : okM n1 u1 d1 = true) => ok_T (t := (n1, u1, d1)) h)
  have HT2 := hide (fun (h : okM n2 u2 d2 = true) => ok_T (t := (n2, u2, d2)) h)
  unfold numB at H1 H2
  show Calls Tryz.prog 102 #[.agg #[.bool n1, .string (B u1), .string (B d1)], .agg #[.bool n2, .string (B u2), .string (B d2)]] w _
  clear ha1 ha2 hb1 hb2
  go_enter Tryz.func102, Tryz.ntmps102
  go_wp2_with fail
  obtain ⟨W, hW⟩ : ∃ W, (w.alloc (.cells #[.bool n1, .string (B u1), .string (B d1)] 79)).alloc (.cells #[.bool n2, .string (B u2), .string (B d2)] 79) = W := ⟨_, rfl⟩
  rw [hW] at HB HA1 HA2 ⊢
  clear hW
  refine (unhide H1 W).mono ?_
  rintro e w1 ⟨rfl, hb1⟩
  have HB1 := hide (step_b (unhide HB) hb1)
  have HC1 := hide ((unhide HA1).below hb1)
  have HC2 := hide ((unhide HA2).below hb1)
  clear hb1 HB HA1 HA2
  cases ho1 : okM n1 u1 d1 with
  | false =>
    have HQ := hide (unhide HR (by rw [ho1]; rfl))
    clear ho1
    go_wp2_with fail
    go_ret
    exact ⟨ret_int (unhide HQ).symm, unhide HB1⟩
  | true =>
    have q0 := (unhide HC2).n0
    have q1 := (unhide HC2).n1
    have q2 := (unhide HC2).n2
    go_wp2_with fail
    refine (unhide H2 w1).mono ?_
    rintro e w2 ⟨rfl, hb2⟩
    have HB2 := hide (step_b (unhide HB1) hb2)
    have HD1 := hide ((unhide HC1).below hb2)
    have HD2 := hide ((unhide HC2).below hb2)
    clear hb2 HB1 HC1 HC2 q0 q1 q2
    cases ho2 : okM n2 u2 d2 with
    | false =>
      have HQ := hide (unhide HR (by rw [ho1, ho2]; rfl))
      clear ho1 ho2
      go_wp2_with fail
      go_ret
      exact ⟨ret_int (unhide HQ).symm, unhide HB2⟩
    | true =>
      have HQ := unhide HY ho1 ho2
      obtain ⟨m1, x1, y1, e1, v1, s1, s2, s3, s4⟩ := unhide HT1 ho1
      obtain ⟨m2, x2, y2, e2, v2, s5, s6, s7, s8⟩ := unhide HT2 ho2
      rw [v1, v2] at HQ
      have HQ := hide HQ
      unfold putT at e1 e2
      simp only [Prod.mk.injEq] at e1 e2
      obtain ⟨rfl, rfl, rfl⟩ := e1
      obtain ⟨rfl, rfl, rfl⟩ := e2
      have q0 := (unhide HD2).n0
      have q1 := (unhide HD2).n1
      have q2 := (unhide HD2).n2
      have p0 := (unhide HD1).n0
      have p1 := (unhide HD1).n1
      have p2 := (unhide HD1).n2
      clear ho1 ho2 v1 v2 HY HR HT1 HT2
      go_wp2_with fail
      refine (l3Cmp_c n1 n2 x1 y1 x2 y2 w2 s1 s2 s5 s6 s3 s7 s4 s8).mono ?_
      rintro e w3 ⟨rfl, hb3⟩
      have HB3 := hide (step_b (unhide HB2) hb3)
      clear hb3
      go_wp2_with fail
      go_ret
      exact ⟨ret_int (unhide HQ).symm, unhide HB3⟩
end Go.Proofs.YtpbnmhnbkfnaeaaGreatDoor
/- The specification's nodes held against each other. -/
namespace Go.Proofs.YtpbnmhnbkfnaeaaGreatDoor
open Go.RowKit Nt

theorem numTx_small (t : List UInt8) : smallT (numTx t) := by
  have h := ans_len t 10
  unfold numTx smallT
  cases e : parseM t 10 with
  | none => simp [nilT]
  | some p =>
    rw [e] at h
    obtain ⟨n, u, d⟩ := p
    simp only [ansU, ansD] at h
    exact ⟨by simp only [putT]; omega, by simp only [putT]; omega⟩
theorem lab_sort {a b : Nd} (h : a.1 ≠ b.1) : labCmp a b = cmpI a.1 b.1 := by unfold labCmp; rw [if_pos h]
theorem lab_num {a b : Nd} (h : a.1 = b.1) (h1 : a.1 = 1) : labCmp a b = cmpT (numTx a.2.1) (numTx b.2.1) := by unfold labCmp; rw [if_neg (by simp [h]), if_pos h1]
theorem lab_text {a b : Nd} (h : a.1 = b.1) (h1 : a.1 ≠ 1) (h2 : a.2.1 ≠ b.2.1) : labCmp a b = Lib.compareBytes a.2.1 b.2.1 := by unfold labCmp; rw [if_neg (by simp [h]), if_neg h1, if_pos h2]
theorem lab_len {a b : Nd} (h : a.1 = b.1) (h1 : a.1 ≠ 1) (h2 : a.2.1 = b.2.1) : labCmp a b = cmpI a.2.2.length b.2.2.length := by unfold labCmp; rw [if_neg (by simp [h]), if_neg h1, if_neg (by simp [h2])]

set_option maxRecDepth 100000 in
set_option maxHeartbeats 4000000 in
theorem l21Node_c (a b : Nd) (a1 a2 : Option Addr) (c1 c2 : Nat) (w : World) (ht1 : a.2.1.length ≤ 1048576) (ht2 : b.2.1.length ≤ 1048576) (hk1 : a.2.2.length ≤ 1048576) (hk2 : b.2.2.length ≤ 1048576) :
    Calls Tryz.prog 63 #[.agg #[.int .i64 a.1, .string (B a.2.1), .slice a1 a.2.2.length c1], .agg #[.int .i64 b.1, .string (B b.2.1), .slice a2 b.2.2.length c2]] w fun e w' => e = .returned (.int .i64 (labCmp a b)) ∧ Below w.heap.size w w' := by
  obtain ⟨R, hR⟩ : ∃ R, labCmp a b = R := ⟨_, rfl⟩
  rw [hR]
  by_cases hs : a.1 = b.1
  · by_cases h1 : a.1 = 1
    · have HQ := hide ((lab_num hs h1).symm.trans hR)
      clear hR
      -- $1 the function: two nodes in their boxes
      obtain ⟨s1, t1, k1⟩ := a
      obtain ⟨s2, t2, k2⟩ := b
      simp only at *
      have HB := hide (below_two w (.int .i64 s1) (.string (B t1)) (.slice a1 k1.length c1) (.int .i64 s2) (.string (B t2)) (.slice a2 k2.length c2) 56)
      have HA1 := hide ((AtC3.new w (.int .i64 s1) (.string (B t1)) (.slice a1 k1.length c1) 56).below (step_a (Below.refl _ _) (.cells #[.int .i64 s2, .string (B t2), .slice a2 k2.length c2] 56)))
      have HA2 := hide (AtC3.new (w.alloc (.cells #[.int .i64 s1, .string (B t1), .slice a1 k1.length c1] 56)) (.int .i64 s2) (.string (B t2)) (.slice a2 k2.length c2) 56)
      rw [World.size_alloc] at HA2
      subst h1
      subst hs
      have hP1 := specNumParse_c t1 10
      have hP2 := specNumParse_c t2 10
      unfold numAns at hP1 hP2
      rw [numO_tx] at hP1 hP2
      have hc := fun W => specNumCmp_c (numTx t1) (numTx t2) W (numTx_small t1) (numTx_small t2)
      rw [unhide HQ] at hc
      obtain ⟨X1, hX1⟩ : ∃ X, numTx t1 = X := ⟨_, rfl⟩
      obtain ⟨X2, hX2⟩ : ∃ X, numTx t2 = X := ⟨_, rfl⟩
      rw [hX1] at hP1 hc
      rw [hX2] at hP2 hc
      clear hX1 hX2
      obtain ⟨n1, u1, d1⟩ := X1
      obtain ⟨n2, u2, d2⟩ := X2
      unfold numT at hP1 hP2 hc
      simp only at hP1 hP2 hc
      have HP1 := hide hP1
      have HP2 := hide hP2
      have HC := hide hc
      clear hP1 hP2 hc
      go_enter Tryz.func63, Tryz.ntmps63
      go_wp2_with fail
      obtain ⟨W, hW⟩ : ∃ W, (w.alloc (.cells #[.int .i64 1, .string (B t1), .slice a1 k1.length c1] 56)).alloc (.cells #[.int .i64 1, .string (B t2), .slice a2 k2.length c2] 56) = W := ⟨_, rfl⟩
      rw [hW] at HB HA1 HA2 ⊢
      clear hW
      refine (unhide HP1 W (by omega)).mono ?_
      rintro e w1 ⟨rfl, hb1⟩
      have HA3 := hide ((unhide HA2).below (hb1.trans ((step_a (Below.refl _ _) (.cells #[.bool n1, .string (B u1), .string (B d1)] 79)).mono hb1.size)))
      have HN1 := hide (AtC3.new w1 (.bool n1) (.string (B u1)) (.string (B d1)) 79)
      have HB1 := hide (step_a (step_b (unhide HB) hb1) (.cells #[.bool n1, .string (B u1), .string (B d1)] 79))
      have q1 := (unhide HA3).n1
      clear hb1 HB HA1 HA2
      go_wp2_with fail
      obtain ⟨W1, hW⟩ : ∃ W1, w1.alloc (.cells #[.bool n1, .string (B u1), .string (B d1)] 79) = W1 := ⟨_, rfl⟩
      rw [hW] at HB1 HN1 HA3 q1 ⊢
      clear hW
      refine (unhide HP2 W1 (by omega)).mono ?_
      rintro e w2 ⟨rfl, hb2⟩
      have HN2 := hide (AtC3.new w2 (.bool n2) (.string (B u2)) (.string (B d2)) 79)
      have HN3 := hide (((unhide HN1).below hb2).below (step_a (Below.refl _ _) (.cells #[.bool n2, .string (B u2), .string (B d2)] 79)))
      have HB2 := hide (step_a (step_b (unhide HB1) hb2) (.cells #[.bool n2, .string (B u2), .string (B d2)] 79))
      have x0 := (unhide HN3).n0
      have x1 := (unhide HN3).n1
      have x2 := (unhide HN3).n2
      clear hb2 HB1 HN1 HA3 q1
      go_wp2_with fail
      obtain ⟨W2, hW⟩ : ∃ W2, w2.alloc (.cells #[.bool n2, .string (B u2), .string (B d2)] 79) = W2 := ⟨_, rfl⟩
      rw [hW] at HB2 ⊢
      refine (unhide HC W2).mono ?_
      rintro e w3 ⟨rfl, hb3⟩
      have HB3 := hide (step_b (unhide HB2) hb3)
      clear hb3
      go_wp2_with fail
      go_ret
      exact ⟨rfl, unhide HB3⟩
    · by_cases h2 : a.2.1 = b.2.1
      · have HQ := hide ((lab_len hs h1 h2).symm.trans hR)
        clear hR
        -- $1 the function: two nodes in their boxes
        obtain ⟨s1, t1, k1⟩ := a
        obtain ⟨s2, t2, k2⟩ := b
        simp only at *
        have HB := hide (below_two w (.int .i64 s1) (.string (B t1)) (.slice a1 k1.length c1) (.int .i64 s2) (.string (B t2)) (.slice a2 k2.length c2) 56)
        have HA1 := hide ((AtC3.new w (.int .i64 s1) (.string (B t1)) (.slice a1 k1.length c1) 56).below (step_a (Below.refl _ _) (.cells #[.int .i64 s2, .string (B t2), .slice a2 k2.length c2] 56)))
        have HA2 := hide (AtC3.new (w.alloc (.cells #[.int .i64 s1, .string (B t1), .slice a1 k1.length c1] 56)) (.int .i64 s2) (.string (B t2)) (.slice a2 k2.length c2) 56)
        rw [World.size_alloc] at HA2
        subst hs
        subst h2
        have e1 : (s1 == 1) = false := beq_eq_false_iff_ne.2 h1
        have e2 : ((B t1).toList == (B t1).toList) = true := by simp
        have HI := hide (fun W => l21Ints_c (k1.length : Int) (k2.length : Int) W)
        rw [unhide HQ] at HI
        clear h1 HQ
        go_enter Tryz.func63, Tryz.ntmps63
        go_wp2_with fail
        refine (unhide HI _).mono ?_
        rintro e w1 ⟨rfl, rfl⟩
        go_wp2_with fail
        go_ret
        exact ⟨rfl, unhide HB⟩
      · have HQ := hide ((lab_text hs h1 h2).symm.trans hR)
        clear hR
        -- $1 the function: two nodes in their boxes
        obtain ⟨s1, t1, k1⟩ := a
        obtain ⟨s2, t2, k2⟩ := b
        simp only at *
        have HB := hide (below_two w (.int .i64 s1) (.string (B t1)) (.slice a1 k1.length c1) (.int .i64 s2) (.string (B t2)) (.slice a2 k2.length c2) 56)
        have HA1 := hide ((AtC3.new w (.int .i64 s1) (.string (B t1)) (.slice a1 k1.length c1) 56).below (step_a (Below.refl _ _) (.cells #[.int .i64 s2, .string (B t2), .slice a2 k2.length c2] 56)))
        have HA2 := hide (AtC3.new (w.alloc (.cells #[.int .i64 s1, .string (B t1), .slice a1 k1.length c1] 56)) (.int .i64 s2) (.string (B t2)) (.slice a2 k2.length c2) 56)
        rw [World.size_alloc] at HA2
        subst hs
        have e1 : (s1 == 1) = false := beq_eq_false_iff_ne.2 h1
        have e2 : ((B t1).toList == (B t2).toList) = false := by rw [B_tl, B_tl, beq_eq_false_iff_ne]; exact h2
        have HI := hide (fun W => l21Texts_c t1 t2 W)
        rw [unhide HQ] at HI
        clear h1 h2 HQ
        go_enter Tryz.func63, Tryz.ntmps63
        go_wp2_with fail
        refine (unhide HI _).mono ?_
        rintro e w1 ⟨rfl, rfl⟩
        go_wp2_with fail
        go_ret
        exact ⟨rfl, unhide HB⟩
  · have HQ := hide ((lab_sort hs).symm.trans hR)
    clear hR
    -- $1 the function: two nodes in their boxes
    obtain ⟨s1, t1, k1⟩ := a
    obtain ⟨s2, t2, k2⟩ := b
    simp only at *
    have HB := hide (below_two w (.int .i64 s1) (.string (B t1)) (.slice a1 k1.length c1) (.int .i64 s2) (.string (B t2)) (.slice a2 k2.length c2) 56)
    have HA1 := hide ((AtC3.new w (.int .i64 s1) (.string (B t1)) (.slice a1 k1.length c1) 56).below (step_a (Below.refl _ _) (.cells #[.int .i64 s2, .string (B t2), .slice a2 k2.length c2] 56)))
    have HA2 := hide (AtC3.new (w.alloc (.cells #[.int .i64 s1, .string (B t1), .slice a1 k1.length c1] 56)) (.int .i64 s2) (.string (B t2)) (.slice a2 k2.length c2) 56)
    rw [World.size_alloc] at HA2
    have e1 : (s1 == s2) = false := beq_eq_false_iff_ne.2 hs
    have HI := hide (fun W => l21Ints_c s1 s2 W)
    rw [unhide HQ] at HI
    clear hs HQ
    go_enter Tryz.func63, Tryz.ntmps63
    go_wp2_with fail
    refine (unhide HI _).mono ?_
    rintro e w1 ⟨rfl, rfl⟩
    go_wp2_with fail
    go_ret
    exact ⟨rfl, unhide HB⟩
end Go.Proofs.YtpbnmhnbkfnaeaaGreatDoor
/- The specification's walk over pairs: what the rows of pairs are, plain; l21Cmp. -/
namespace Go.Proofs.YtpbnmhnbkfnaeaaGreatDoor
open Go.RowKit Nt

theorem Tryz.infoPair : (Tryz.prog.info? 87).map (fun i => (i.zero, i.size, i.bytes)) = some (some (.agg #[.int .i64 0, .int .i64 0]), 2, 16) := by kernel_rfl
def pv (l : List (Int × Int)) : List Value := l.flatMap fun p => [.int .i64 p.1, .int .i64 p.2]
theorem pv_len (l : List (Int × Int)) : (pv l).length = l.length * 2 := by
  induction l with
  | nil => rfl
  | cons x r ih => unfold pv at ih ⊢; rw [List.flatMap_cons, List.length_append, ih, List.length_cons]; simp; omega
theorem pv_snoc (l : List (Int × Int)) (x : Int × Int) : pv (l ++ [x]) = pv l ++ [.int .i64 x.1, .int .i64 x.2] := by unfold pv; rw [List.flatMap_append]; rfl
theorem pv_get : ∀ {l : List (Int × Int)} {j : Nat} {x : Int × Int}, l[j]? = some x → (pv l)[j * 2]? = some (.int .i64 x.1) ∧ (pv l)[j * 2 + 1]? = some (.int .i64 x.2)
  | [], j, x, h => by simp at h
  | y :: r, 0, x, h => by
    simp at h
    subst h
    exact ⟨rfl, rfl⟩
  | y :: r, j + 1, x, h => by
    simp only [List.getElem?_cons_succ] at h
    obtain ⟨a, b⟩ := pv_get h
    have e : ∀ i, (pv (y :: r))[(j + 1) * 2 + i]? = (pv r)[j * 2 + i]? := fun i => by
      show ([Value.int .i64 y.1, .int .i64 y.2] ++ pv r)[(j + 1) * 2 + i]? = _
      rw [List.getElem?_append_right (by simp; omega)]
      congr 1
      simp; omega
    exact ⟨by have := e 0; simp only [Nat.add_zero] at this; rw [this]; exact a, by rw [e]; exact b⟩
/-- a row of pairs that is the call's own -/
abbrev RowP (w : World) (base : Nat) (T : TypeId) (v : Value) (l : List (Int × Int)) : Prop := w.ownsRow base T 2 v l.length (pv l)
theorem RowP.form {w : World} {base : Nat} {T : TypeId} {v : Value} {l : List (Int × Int)} (h : RowP w base T v l) (h0 : 0 < l.length) : ∃ g cap, v = .slice (some ⟨g, 0, none⟩) l.length cap ∧ l.length ≤ cap ∧ cap ≤ maxLen ∧ base ≤ g ∧
    ∀ j x, l[j]? = some x → w.cell? ⟨g, j * 2, none⟩ = some (.int .i64 x.1) ∧ w.cell? ⟨g, j * 2 + 1, none⟩ = some (.int .i64 x.2) := by
  have hr := h
  rcases h.2 with ⟨rfl, h1⟩ | ⟨g, cap, cur, rfl, hb, hg, h1, h2, h3, h4⟩
  · omega
  · refine ⟨g, cap, rfl, h1, h2, hb, fun j x hx => ?_⟩
    obtain ⟨a, b⟩ := pv_get hx
    have hj := (List.getElem?_eq_some_iff.1 hx).1
    exact ⟨by rw [hr.cellAt (j * 2) (by omega)]; exact a, by rw [hr.cellAt (j * 2 + 1) (by omega)]; exact b⟩

theorem nxt_take {l ks : List (Int × Int)} {k : Nat} {x : Int × Int} (h : ks[k]? = some x) : nxtP l (ks.take (k + 1)) = if x ∈ nxtP l (ks.take k) then nxtP l (ks.take k) else nxtP l (ks.take k) ++ [x] := by
  rw [List.take_add_one, h, nxtP_append]
  rfl
theorem mem_take {l : List (Int × Int)} {j : Nat} {y x : Int × Int} (h : l[j]? = some y) : decide (x ∈ l.take (j + 1)) = (decide (x ∈ l.take j) || decide (y = x)) := by
  rw [List.take_add_one, h, Bool.eq_iff_iff]
  simp only [Option.toList_some, List.mem_append, List.mem_singleton, Bool.or_eq_true, decide_eq_true_eq]
  constructor
  · rintro (h | h)
    · exact .inl h
    · exact .inr h.symm
  · rintro (h | h)
    · exact .inl h
    · exact .inr h.symm
/-- from the place i of the list on -/
def From (ns ms : List Nd) (R : Int) (i : Nat) (l : List (Int × Int)) : Prop := ∀ f, ns.length * ms.length < f + i → walkP (labP ns ms) (kidsP ns ms) f i l = R
theorem From.start {ns ms : List Nd} (hn : ns.all (ndOk ns.length) = true) (hm : ms.all (ndOk ms.length) = true) {a b : Int} (hab : InP ns.length ms.length (a, b)) : From ns ms (cmpAt ns ms a b) 0 [(a, b)] := fun f hf =>
  walkP_fuel (kidsP_in hn hm) (by simp) (fun x hx => by
    have : x = (a, b) := by simpa using hx
    rw [this]; exact hab) (by omega) (by omega)
theorem From.done {ns ms : List Nd} {R : Int} {l : List (Int × Int)} (h : From ns ms R l.length l) : R = 0 := by
  rw [← h (ns.length * ms.length + 1) (by omega)]
  unfold walkP
  rw [List.getElem?_eq_none (Nat.le_refl _)]
theorem From.stop {ns ms : List Nd} {R : Int} {i : Nat} {l : List (Int × Int)} (h : From ns ms R i l) {a b : Int} (hx : l[i]? = some (a, b)) (hne : labP ns ms a b ≠ 0) : R = labP ns ms a b := by
  rw [← h (ns.length * ms.length + 1) (by omega)]
  unfold walkP
  rw [hx]
  simp only
  rw [if_neg hne]
theorem From.next {ns ms : List Nd} {R : Int} {i : Nat} {l : List (Int × Int)} (h : From ns ms R i l) {a b : Int} (hx : l[i]? = some (a, b)) (h0 : labP ns ms a b = 0) : From ns ms R (i + 1) (nxtP l (kidsP ns ms a b)) := fun f hf => by
  rw [← h (f + 1) (by omega)]
  conv => rhs; unfold walkP
  rw [hx]
  simp only
  rw [if_pos h0]
theorem inP_iff {n m : Nat} {a b : Int} : InP n m (a, b) ↔ (0 ≤ a ∧ a < n) ∧ 0 ≤ b ∧ b < m := Iff.rfl
end Go.Proofs.YtpbnmhnbkfnaeaaGreatDoor
/- Two pairs, two tokens held against each other, as Go's '==' does. -/
namespace Go.Proofs.YtpbnmhnbkfnaeaaGreatDoor
open Go.RowKit Nt

theorem pair_guard (W : World) (x y : Operand) (xs ys : Array Value) : (eqGuard .eql 87 x y (.agg xs) (.agg ys)).run Tryz.prog W = .ok () W := run_eqGuard_agg W .eql 87 x y xs ys (by kernel_rfl)
theorem pair_eq (W : World) (p q x y : Int) : (binOp .eql 87 (.agg #[.int .i64 p, .int .i64 q]) (.agg #[.int .i64 x, .int .i64 y])).run Tryz.prog W = .ok (.bool (decide ((p, q) = (x, y)))) W := by
  have hp : Tryz.prog.stoodInHeld 87 = false := by kernel_rfl
  rw [run_eql_struct]
  rw [show (10000 : Nat) = 9999 + 1 from rfl, run_equalIn_agg W 9999 87 _ _ (by kernel_rfl) hp]
  simp [go_sem, Op.eqFields, Program.fieldsOf, Tryz.underlying87, part, Tryz.underlying3]
  by_cases h1 : p = x <;> by_cases h2 : q = y <;> simp [h1, h2]
end Go.Proofs.YtpbnmhnbkfnaeaaGreatDoor
