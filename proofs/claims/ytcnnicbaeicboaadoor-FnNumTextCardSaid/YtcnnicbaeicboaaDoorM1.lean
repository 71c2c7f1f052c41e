/- A part of the proof, put together out of smaller texts. -/
import Derived.Test.YtcnnicbaeicboaaDoorRows
import Derived.Below
import Derived.WalkKit
import Derived.WalkSpells
import Derived.WalkLawsBesides
import Derived.Deep.QuietTactic
import Derived.BigQuiet
import Derived.Deep.RegionWith
set_option linter.all false
set_option maxRecDepth 100000
set_option maxHeartbeats 16000000
namespace Go.Proofs.YtcnnicbaeicboaaDoor.Nt
def ofd (b : Nat) : List Nat → Nat
 | [] => 0
 | d :: r => d + b * ofd b r
def dgf (b : Nat) : Nat → Nat → List Nat
 | 0, _ => []
 | f + 1, n => if n = 0 then [] else n % b :: dgf b f (n / b)
def dg (b n : Nat) : List Nat := dgf b n n
theorem y8 {b : Nat} (hb : 2 ≤ b) : ∀ (f g n : Nat), n ≤ f → n ≤ g → dgf b f n = dgf b g n := by
 intro f
 induction f with
 | zero => intro g n h1 h2; have : n = 0 := by omega
           subst this; cases g <;> simp [dgf]
 | succ f ih =>
  intro g n h1 h2
  cases g with
  | zero => have : n = 0 := by omega
            subst this; simp [dgf]
  | succ g =>
   simp only [dgf]
   by_cases h : n = 0
   ·simp [h]
   ·have hlt : n / b < n := Nat.div_lt_self (by omega) (by omega)
    simp only [h, if_false]
    rw [ih g (n / b) (by omega) (by omega)]
theorem zQ (b : Nat) : dg b 0 = [] := by simp [dg, dgf]
theorem qp {b n : Nat} (hb : 2 ≤ b) (hn : 0 < n) : dg b n = n % b :: dg b (n / b) := by
 unfold dg
 cases n with
 | zero => omega
 | succ m =>
  have hlt : (m + 1) / b < m + 1 := Nat.div_lt_self (by omega) (by omega)
  simp only [dgf]
  rw [if_neg (by omega), y8 hb m ((m + 1) / b) ((m + 1) / b) (by omega) (by omega)]
theorem jt {b : Nat} (hb : 2 ≤ b) : ∀ n, ofd b (dg b n) = n := by
 intro n
 induction n using Nat.strongRecOn with
 | _ n ih =>
  by_cases h : n = 0
  ·subst h; simp [zQ, ofd]
  ·rw [qp hb (by omega), ofd, ih _ (Nat.div_lt_self (by omega) (by omega))]
   exact Nat.mod_add_div n b
theorem dg_lt {b : Nat} (hb : 2 ≤ b) : ∀ n, ∀ d ∈ dg b n, d < b := by
 intro n
 induction n using Nat.strongRecOn with
 | _ n ih =>
  by_cases h : n = 0
  ·subst h; simp [zQ]
  ·rw [qp hb (by omega)]
   intro d hd
   rcases List.mem_cons.1 hd with rfl | hd
   ·exact Nat.mod_lt _ (by omega)
   ·exact ih _ (Nat.div_lt_self (by omega) (by omega)) d hd
def can (b : Nat) (l : List Nat) : Prop := (∀ d ∈ l, d < b) ∧ (∀ d, l.getLast? = some d → d ≠ 0)
theorem jh {b : Nat} (hb : 2 ≤ b) : ∀ l, can b l → l ≠ [] → 0 < ofd b l := by
 intro l
 induction l with
 | nil => intro _ h; exact absurd rfl h
 | cons d r ih =>
  intro hc _
  simp only [ofd]
  by_cases hr : r = []
  ·subst hr
   have := hc.2 d (by simp)
   simp only [ofd]; omega
  ·have hc' : can b r := ⟨fun x hx => hc.1 x (List.mem_cons_of_mem _ hx), fun x hx => hc.2 x (by rw [List.getLast?_cons]; rw [hx]; rfl)⟩
   have h1 := ih hc' hr
   have h2 := Nat.mul_pos (show 0 < b by omega) h1
   omega
theorem xi {b d : Nat} {r : List Nat} (h : can b (d :: r)) : can b r :=
 ⟨fun x hx => h.1 x (List.mem_cons_of_mem _ hx), fun x hx => h.2 x (by rw [List.getLast?_cons]; rw [hx]; rfl)⟩
theorem xq {b : Nat} (hb : 2 ≤ b) : ∀ l, can b l → dg b (ofd b l) = l := by
 intro l
 induction l with
 | nil => intro _; simp [ofd, zQ]
 | cons d r ih =>
  intro hc
  have hp := jh hb (d :: r) hc (by simp)
  have hd : d < b := hc.1 d (by simp)
  rw [qp hb hp]
  simp only [ofd]
  rw [Nat.add_mul_mod_self_left, Nat.mod_eq_of_lt hd, Nat.add_mul_div_left _ _ (by omega), Nat.div_eq_of_lt hd, Nat.zero_add, ih (xi hc)]
theorem xo {b : Nat} (hb : 2 ≤ b) : ∀ n, can b (dg b n) := by
 intro n
 refine ⟨dg_lt hb n, ?_⟩
 induction n using Nat.strongRecOn with
 | _ n ih =>
  by_cases h : n = 0
  ·subst h; simp [zQ]
  ·rw [qp hb (by omega)]
   intro d hd
   have hlt : n / b < n := Nat.div_lt_self (by omega) (by omega)
   by_cases hr : dg b (n / b) = []
   ·rw [hr] at hd
    simp at hd
    have hz : n / b = 0 := by rw [← jt hb (n / b), hr]; rfl
    rcases (Nat.div_eq_zero_iff).1 hz with h0 | h0
    ·omega
    ·rw [← hd, Nat.mod_eq_of_lt h0]; omega
   ·rw [List.getLast?_cons] at hd
    have : (dg b (n / b)).getLast? = some d := by
     cases hg : (dg b (n / b)).getLast? with
     | none => exact absurd (List.getLast?_eq_none_iff.1 hg) hr
     | some y => rw [hg] at hd; simpa using hd
    exact ih _ hlt d this
theorem qC (b : Nat) (l m : List Nat) : ofd b (l ++ m) = ofd b l + b ^ l.length * ofd b m := by
 induction l with
 | nil => simp [ofd]
 | cons d r ih => simp only [List.cons_append, ofd, ih, List.length_cons, Nat.pow_succ]; rw [Nat.mul_add, ← Nat.add_assoc, Nat.mul_comm (b ^ r.length) b, Nat.mul_assoc]
theorem ju {b : Nat} (l : List Nat) (h : ∀ d ∈ l, d < b) : ofd b l < b ^ l.length := by
 induction l with
 | nil => simp [ofd]
 | cons d r ih =>
  have h1 := ih (fun x hx => h x (List.mem_cons_of_mem _ hx))
  have h2 := h d (by simp)
  simp only [ofd, List.length_cons, Nat.pow_succ]
  have h3 : b * (ofd b r + 1) ≤ b * b ^ r.length := Nat.mul_le_mul_left _ h1
  rw [Nat.mul_add] at h3
  rw [Nat.mul_comm (b ^ r.length) b]
  omega
theorem zN (b k : Nat) : ofd b (List.replicate k 0) = 0 := by
 induction k with
 | zero => rfl
 | succ k ih => simp [List.replicate_succ, ofd, ih]
def strip : List Nat → List Nat
 | [] => []
 | d :: r => match strip r with
  | [] => if d = 0 then [] else [d]
  | x :: y => d :: x :: y
theorem kY (b : Nat) (l : List Nat) : ofd b (strip l) = ofd b l := by
 induction l with
 | nil => rfl
 | cons d r ih =>
  simp only [strip, ofd]
  rw [← ih]
  cases h : strip r with
  | nil => by_cases hd : d = 0 <;> simp [hd, ofd]
  | cons x y => simp [ofd]
theorem k8 {l : List Nat} {d : Nat} (h : d ∈ strip l) : d ∈ l := by
 induction l with
 | nil => simp [strip] at h
 | cons x r ih =>
  simp only [strip] at h
  cases hs : strip r with
  | nil =>
   rw [hs] at h
   by_cases hx : x = 0
   ·simp [hx] at h
   ·simp [hx] at h; simp [h]
  | cons y z =>
   rw [hs] at h ih
   rcases List.mem_cons.1 h with h | h
   ·simp [h]
   ·exact List.mem_cons_of_mem _ (ih h)
theorem kv {l : List Nat} {d : Nat} (h : (strip l).getLast? = some d) : d ≠ 0 := by
 induction l with
 | nil => simp [strip] at h
 | cons x r ih =>
  simp only [strip] at h
  cases hs : strip r with
  | nil =>
   rw [hs] at h
   by_cases hx : x = 0
   ·simp [hx] at h
   ·simp [hx] at h; omega
  | cons y z =>
   rw [hs] at h ih
   exact ih (by simpa [List.getLast?_cons] using h)
theorem k6 {b : Nat} {l : List Nat} (h : ∀ d ∈ l, d < b) : can b (strip l) :=
 ⟨fun d hd => h d (k8 hd), fun _ hd => kv hd⟩
theorem jZ {b : Nat} (hb : 2 ≤ b) {l : List Nat} (h : ∀ d ∈ l, d < b) : strip l = dg b (ofd b l) := by
 rw [← kY, xq hb _ (k6 h)]
theorem ja (l : List Nat) : strip (l ++ [0]) = strip l := by
 induction l with
 | nil => simp [strip]
 | cons d r ih => simp only [List.cons_append, strip, ih]
theorem qD (l : List Nat) (d : Nat) (hd : d ≠ 0) : strip (l ++ [d]) = l ++ [d] := by
 induction l with
 | nil => simp [strip, hd]
 | cons x r ih =>
  simp only [List.cons_append, strip, ih]
  cases h : r ++ [d] with
  | nil => simp at h
  | cons _ _ => rfl
theorem jm {b : Nat} (hb : 2 ≤ b) {n : Nat} : dg b n = [] ↔ n = 0 := by
 constructor
 ·intro h; rw [← jt hb n, h]; rfl
 ·intro h; subst h; exact zQ b
theorem qR {b : Nat} (hb : 2 ≤ b) (n : Nat) : n < b ^ (dg b n).length := by
 have := ju _ (dg_lt hb n)
 rwa [jt hb] at this
theorem z9 {b : Nat} (hb : 2 ≤ b) {k : Nat} : ∀ {n : Nat}, n < b ^ k → (dg b n).length ≤ k := by
 induction k with
 | zero => intro n h; have : n = 0 := by simpa using h
           subst this; simp [zQ]
 | succ k ih =>
  intro n h
  by_cases h0 : n = 0
  ·subst h0; simp [zQ]
  ·rw [qp hb (by omega), List.length_cons]
   have : n / b < b ^ k := by
    rw [Nat.div_lt_iff_lt_mul (by omega)]; rwa [Nat.pow_succ] at h
   have := ih this
   omega
theorem xp {b : Nat} (hb : 2 ≤ b) : ∀ (k n : Nat), (dg b n).getD k 0 = n / b ^ k % b := by
 intro k
 induction k with
 | zero =>
  intro n
  by_cases h0 : n = 0
  ·subst h0; simp [zQ]
  ·rw [qp hb (by omega)]; simp
 | succ k ih =>
  intro n
  by_cases h0 : n = 0
  ·subst h0; simp [zQ]
  ·rw [qp hb (by omega)]
   have := ih (n / b)
   rw [List.getD_cons_succ, this, Nat.div_div_eq_div_mul, Nat.pow_succ, Nat.mul_comm (b ^ k) b]
theorem zK (b n k : Nat) : n % b ^ (k + 1) = n % b ^ k + b ^ k * (n / b ^ k % b) := by
 rw [Nat.pow_succ, Nat.mod_mul]
theorem yZ {a b k X l ak bk d l' : Nat} (h : X + b % 10 ^ k = a % 10 ^ k + l * 10 ^ k) (ha : a / 10 ^ k % 10 = ak) (hb : b / 10 ^ k % 10 = bk) (hd : d + bk + l = ak + 10 * l') :
  X + 10 ^ k * d + b % 10 ^ (k + 1) = a % 10 ^ (k + 1) + l' * 10 ^ (k + 1) := by
 rw [zK, zK, ha, hb, Nat.pow_succ]
 generalize 10 ^ k = p at *
 have e : p * d + p * bk + l * p = p * ak + l' * (p * 10) := by
  have := congrArg (p * ·) hd
  simp only [Nat.mul_add] at this
  rw [Nat.mul_comm l p, this, Nat.mul_comm l' (p * 10), Nat.mul_assoc]
 omega
theorem vf {a b k X c ak bk d c' : Nat} (h : X + c * 10 ^ k = a % 10 ^ k + b % 10 ^ k) (ha : a / 10 ^ k % 10 = ak) (hb : b / 10 ^ k % 10 = bk) (hd : d + 10 * c' = ak + bk + c) :
  X + 10 ^ k * d + c' * 10 ^ (k + 1) = a % 10 ^ (k + 1) + b % 10 ^ (k + 1) := by
 rw [zK, zK, ha, hb, Nat.pow_succ]
 generalize 10 ^ k = p at *
 have e : p * d + c' * (p * 10) = p * ak + p * bk + c * p := by
  have := congrArg (p * ·) hd
  simp only [Nat.mul_add] at this
  rw [Nat.mul_comm c p, ← this, Nat.mul_comm c' (p * 10), Nat.mul_assoc]
 omega
theorem jA (b : Nat) (l : List Nat) (j v : Nat) (h : j < l.length) : ofd b (l.set j v) + b ^ j * l[j] = ofd b l + b ^ j * v := by
 induction l generalizing j with
 | nil => simp at h
 | cons d r ih =>
  cases j with
  | zero => simp [ofd]; omega
  | succ j =>
   have := ih j (by simpa using h)
   simp only [List.set_cons_succ, ofd, List.getElem_cons_succ]
   have h2 := congrArg (b * ·) this
   simp only [Nat.mul_add] at h2
   rw [Nat.pow_succ, Nat.mul_comm (b ^ j) b, Nat.mul_assoc, Nat.mul_assoc]
   omega
theorem xF (b : Nat) (l : List Nat) (j : Nat) (h : j < l.length) : b ^ j * l[j] ≤ ofd b l := by
 have := jA b l j 0 h
 omega
theorem xD {a b i k X ai bk x : Nat} (ha : a / 10 ^ i % 10 = ai) (hb : b / 10 ^ k % 10 = bk) (h : X = a % 10 ^ i * b + 10 ^ i * (ai * (b % 10 ^ k))) {Y : Nat} (hY : Y + 10 ^ (i + k) * x = X + 10 ^ (i + k) * (x + ai * bk)) :
  Y = a % 10 ^ i * b + 10 ^ i * (ai * (b % 10 ^ (k + 1))) := by
 rw [zK, hb]
 have e : 10 ^ i * (ai * (b % 10 ^ k + 10 ^ k * bk)) = 10 ^ i * (ai * (b % 10 ^ k)) + 10 ^ (i + k) * (ai * bk) := by
  rw [Nat.mul_add, Nat.mul_add, Nat.pow_add]
  congr 1
  simp only [Nat.mul_assoc, Nat.mul_comm, Nat.mul_left_comm]
 rw [Nat.mul_add] at hY
 subst ha
 omega
theorem x0 {a b i ai : Nat} (ha : a / 10 ^ i % 10 = ai) : a % 10 ^ i * b + 10 ^ i * (ai * b) = a % 10 ^ (i + 1) * b := by
 rw [zK, ha, Nat.add_mul, Nat.mul_assoc]
theorem y6 {X x y j Y Z : Nat} (hY : Y + 10 ^ (j + 1) * y = X + 10 ^ (j + 1) * (y + x / 10)) (hZ : Z + 10 ^ j * x = Y + 10 ^ j * (x % 10)) : Z = X := by
 have e : 10 ^ j * x = 10 ^ j * (x % 10) + 10 ^ (j + 1) * (x / 10) := by
  rw [Nat.pow_succ, Nat.mul_assoc, ← Nat.mul_add]; congr 1; omega
 rw [Nat.mul_add] at hY
 omega
theorem zD (b : Nat) (l : List Nat) (d : Nat) : ofd b (l ++ [d]) = ofd b l + b ^ l.length * d := by
 rw [qC]; simp [ofd]
end Go.Proofs.YtcnnicbaeicboaaDoor.Nt
namespace Go.Proofs.YtcnnicbaeicboaaDoor
open Go Nt
open Go.RowKit in
theorem hide {p : Prop} (h : p) : Hid p := h
open Go.RowKit in
theorem za {p : Prop} (h : Hid p) : p := h
def B (l : List UInt8) : ByteArray := ⟨l.toArray⟩
theorem vb (s : ByteArray) : B s.data.toList = s := by cases s; rfl
theorem zi (l : List UInt8) : (B l).size = l.length := by simp [B, ByteArray.size]
theorem xh (l : List UInt8) : (B l).data.toList = l := by simp [B]
theorem B_get (l : List UInt8) (k : Nat) (h : k < (B l).size) : (B l)[k] = l[k]'(by rw [zi] at h; exact h) := by
 simp [B, ByteArray.getElem_eq_getElem_data]
theorem zA (l : List UInt8) (i j : Nat) : (B l).extract i j = B ((l.take j).drop i) := by
 apply ByteArray.ext
 simp [B, ByteArray.data_extract, List.extract_toArray]
 simp [List.drop_take]
theorem zu (l m : List UInt8) : B l ++ B m = B (l ++ m) := by
 apply ByteArray.ext
 simp [B, ByteArray.data_append]
def sg (d : Nat) : UInt8 := if d < 10 then UInt8.ofNat (48 + d) else UInt8.ofNat (87 + d)
theorem zI {d : Nat} (h : d < 16) : (sg d).toNat = if d < 10 then 48 + d else 87 + d := by
 unfold sg; split
 ·simp [UInt8.toNat_ofNat']; omega
 ·simp [UInt8.toNat_ofNat']; omega
theorem Zd {c d : Nat} (hc : c < 16) (hd : d < 16) (h : sg c = sg d) : c = d := by
 have := congrArg UInt8.toNat h
 rw [zI hc, zI hd] at this
 split at this <;> split at this <;> omega
def txl (b n : Nat) : List UInt8 := if n = 0 then [48] else ((dg b n).map sg).reverse
def txt (b n : Nat) : ByteArray := B (txl b n)
def dec (n : Nat) : ByteArray := txt 10 n
theorem zE (b : Nat) : txl b 0 = [48] := by simp [txl]
theorem zV {b n : Nat} (h : n ≠ 0) : txl b n = ((dg b n).map sg).reverse := by simp [txl, h]
theorem qn {b : Nat} (hb : 2 ≤ b) (n : Nat) : 0 < (txl b n).length := by
 by_cases h : n = 0
 ·subst h; simp [zE]
 ·rw [zV h]; simp only [List.length_reverse, List.length_map]
  rw [qp hb (by omega)]; simp
theorem vw {b : Nat} (hb : 2 ≤ b) (n : Nat) : n < b ^ (txl b n).length := by
 by_cases h : n = 0
 ·subst h; simp only [zE, List.length_singleton, Nat.pow_one]; omega
 ·rw [zV h]; simp only [List.length_reverse, List.length_map]; exact qR hb n
theorem zB {b : Nat} (hb : 2 ≤ b) {k n : Nat} (hk : 0 < k) (h : n < b ^ k) : (txl b n).length ≤ k := by
 by_cases h0 : n = 0
 ·subst h0; simp only [zE, List.length_singleton]; omega
 ·rw [zV h0]; simp only [List.length_reverse, List.length_map]; exact z9 hb h
theorem kH {b : Nat} (hb : 2 ≤ b) (hb16 : b ≤ 16) {m n : Nat} (h : txl b m = txl b n) : m = n := by
 have key : ∀ m, ofd b (((txl b m).reverse).map fun c => if c.toNat < 58 then c.toNat - 48 else c.toNat - 87) = m := by
  intro m
  by_cases h0 : m = 0
  ·subst h0; simp [zE, ofd]
  ·rw [zV h0, List.reverse_reverse, List.map_map]
   have : (dg b m).map ((fun c : UInt8 => if c.toNat < 58 then c.toNat - 48 else c.toNat - 87) ∘ sg) = (dg b m).map id := by
    apply List.map_congr_left
    intro d hd
    have hd' := dg_lt hb m d hd
    simp only [Function.comp]
    rw [zI (by omega)]
    split <;> simp <;> omega
   rw [this, List.map_id, jt hb]
 rw [← key m, h, key]
theorem zU (n : Nat) : 0 < (dec n).size := by
 unfold dec txt; rw [zi]; exact qn (by omega) n
theorem y7 (n k : Nat) (h : k < (txl 10 n).length) : ((txl 10 n).reverse)[k]'(by simpa using h) = sg (n / 10 ^ k % 10) := by
 by_cases h0 : n = 0
 ·subst h0
  have : k = 0 := by simp [zE] at h; omega
  subst this
  simp [zE, sg]
 ·have hl : k < (dg 10 n).length := by rw [zV h0] at h; simpa using h
  have e : (txl 10 n).reverse = (dg 10 n).map sg := by rw [zV h0, List.reverse_reverse]
  have g := xp (b := 10) (by omega) k n
  rw [List.getD_eq_getElem?_getD, List.getElem?_eq_getElem hl] at g
  simp only [e, List.getElem_map]
  rw [← g]; rfl
theorem vR (n k : Nat) (h : (txl 10 n).length ≤ k) : n / 10 ^ k = 0 := by
 apply Nat.div_eq_of_lt
 exact Nat.lt_of_lt_of_le (vw (by omega) n) (Nat.pow_le_pow_right (by omega) h)
def trim : List UInt8 → List UInt8
 | [] => []
 | c :: r => if c = 48 ∧ r ≠ [] then trim r else c :: r
theorem qE (l : List Nat) (h : ∀ d ∈ l, d < 10) (hl : l ≠ []) : trim ((l.map sg).reverse) = txl 10 (ofd 10 l) := by
 have key : ∀ (n : Nat) (l : List Nat), l.length = n → (∀ d ∈ l, d < 10) → l ≠ [] → trim ((l.map sg).reverse) = txl 10 (ofd 10 l) := by
  intro n
  induction n with
  | zero => intro l hn _ hl; exact absurd (List.eq_nil_of_length_eq_zero hn) hl
  | succ n ih =>
   intro l hn hd hl
   have hdec := List.dropLast_concat_getLast hl
   generalize hm : l.dropLast = m at hdec
   generalize hx : l.getLast hl = x at hdec
   have hxl : x < 10 := hd x (by rw [← hdec]; simp)
   have hml : m.length = n := by rw [← hdec] at hn; simpa using hn
   have hmd : ∀ d ∈ m, d < 10 := fun d h => hd d (by rw [← hdec]; simp [h])
   rw [← hdec, List.map_append, List.reverse_append]
   simp only [List.map_cons, List.map_nil, List.reverse_cons, List.reverse_nil, List.nil_append, List.cons_append, trim]
   by_cases hx0 : x = 0
   ·subst hx0
    rw [qC]
    simp only [ofd, Nat.mul_zero, Nat.add_zero]
    by_cases hmn : m = []
    ·subst hmn; simp [ofd, zE, sg]
    ·rw [if_pos ⟨by simp [sg], by simpa using hmn⟩]
     exact ih m hml hmd hmn
   ·have hs : sg x ≠ 48 := by
     intro hc
     have := congrArg UInt8.toNat hc
     rw [zI (by omega), if_pos hxl] at this
     simp at this; omega
    rw [if_neg (fun hh => hs hh.1)]
    have hcan : can 10 (m ++ [x]) := ⟨fun d h => hd d (by rw [← hdec]; exact h), fun d h => by simp at h; omega⟩
    have hpos := jh (by omega) _ hcan (by simp)
    rw [zV (by omega), xq (by omega) _ hcan]
    simp
 exact key l.length l rfl h hl
theorem y2 (n : Nat) : trim (txl 10 n) = txl 10 n := by
 by_cases h0 : n = 0
 ·subst h0; simp [zE, trim]
 ·have := qE (dg 10 n) (dg_lt (by omega) n) (fun h => h0 ((jm (by omega)).1 h))
  rw [jt (by omega)] at this
  rwa [zV h0] at this ⊢
theorem qK (l : List UInt8) : (trim l).length ≤ l.length := by
 induction l with
 | nil => simp [trim]
 | cons c r ih => simp only [trim]; split <;> simp <;> omega
theorem xa (l : List UInt8) (k : Nat) (h : k + 1 < l.length) (hz : l[k]'(by omega) = 48) : trim (l.drop k) = trim (l.drop (k + 1)) := by
 rw [List.drop_eq_getElem_cons (by omega), hz]
 simp only [trim]
 rw [if_pos ⟨by trivial, by simp; omega⟩]
theorem ye (l : List UInt8) (h : l.length ≤ 1 ∨ ∃ c r, l = c :: r ∧ c ≠ 48) : trim l = l := by
 rcases h with h | ⟨c, r, rfl, hc⟩
 ·match l, h with
  | [], _ => rfl
  | [c], _ => simp [trim]
 ·simp [trim, hc]
end Go.Proofs.YtcnnicbaeicboaaDoor
namespace Go.Proofs.YtcnnicbaeicboaaDoor
open Go.RowKit Nt
theorem zv {a b : ByteArray} (h : a = b) : Ending.returned (.string a) = .returned (.string b) := by rw [h]
theorem qx {k : IntKind} {a b : Int} (h : a = b) : Ending.returned (.int k a) = .returned (.int k b) := by rw [h]
theorem zl {a b : Bool} (h : a = b) : Ending.returned (.bool a) = .returned (.bool b) := by rw [h]
def u8v (c : UInt8) : Value := .int .u8 c.toNat
def ints (l : List Nat) : List Value := l.map fun (d : Nat) => Value.int .i64 (d : Int)
theorem wi64 (x : Int) (h0 : -9223372036854775808 ≤ x) (h1 : x ≤ 9223372036854775807) : IntKind.i64.wrap x = x := by rw [IntKind.wrap_i64]; omega
theorem wu8 (x : Int) (h0 : 0 ≤ x) (h1 : x ≤ 255) : IntKind.u8.wrap x = x := by rw [IntKind.wrap_u8]; omega
theorem wu64 (x : Int) (h0 : 0 ≤ x) (h1 : x ≤ 18446744073709551615) : IntKind.u64.wrap x = x := by rw [IntKind.wrap_u64]; omega
theorem qs {n : Nat} {a w : World} (h : Below n a.drew w) : Below n a w := ⟨h.os, h.tape, h.output, h.size, h.block⟩
theorem zt {w w' : World} {base : Nat} {e : TypeId} {size : Nat} {v : Value} {n : Nat} {xs : List Value} (h : w.ownsRow base e size v n xs) (hb : Below w.heap.size w w') :
  w'.ownsRow base e size v n xs := by
 refine ⟨h.1, ?_⟩
 rcases h.2 with hn | ⟨g, cap, cur, rfl, hbg, hgg, rest⟩
 ·exact .inl hn
 ·exact .inr ⟨g, cap, cur, rfl, hbg, by rw [hb.block g (Array.getElem?_eq_some_iff.1 hgg).1]; exact hgg, rest⟩
theorem ql {w : World} {base base' : Nat} {e : TypeId} {size : Nat} {v : Value} {n : Nat} {xs : List Value} (h : w.ownsRow base e size v n xs) (hb : base' ≤ base) :
  w.ownsRow base' e size v n xs := by
 refine ⟨h.1, ?_⟩
 rcases h.2 with hn | ⟨g, cap, cur, rfl, hbg, rest⟩
 ·exact .inl hn
 ·exact .inr ⟨g, cap, cur, rfl, by omega, rest⟩
theorem zG {B : Nat} {w w' : World} {v : Value} {e : TypeId} {size n : Nat} {xs : List Value} {a : World} (h : Below B a w) (own : w.ownsRow B e size v n xs) (hg : w.grownBy w' v.ownBlock) (hB : B ≤ w.heap.size) : Below B a w' :=
 h.grown hg hB (fun k hk => (own.lt k hk).1)
theorem qO {b d : Nat} {xs : List Nat} (h : Hid (∀ x ∈ xs, x < b)) (hd : d < b) : Hid (∀ x ∈ xs ++ [d], x < b) := by
 intro x hx
 rcases List.mem_append.1 hx with h1 | h1
 ·exact za h x h1
 ·simp at h1; omega
theorem zM {P : Program} {w : World} {src dst e : TypeId} {base sz : Nat} {v : Value} {n : Nat} {l : List UInt8}
  (hs : P.underlying src = some (.slice e)) (he : P.underlying e = some (.int .u8)) (hd : P.underlying dst = some .string)
  (h : w.ownsRow base sz 1 v n (l.map u8v)) : (convert src dst v).run P w = .ok (.string (B l)) w := by
 have hl : l.length = n := by simpa using h.1
 have fold : ∀ (ns : List UInt8) (s : ByteArray), (ns.map (fun c => (c.toNat : Int))).foldl (fun r n => r.push (UInt8.ofNat n.toNat)) s = s ++ B ns := by
  intro ns
  induction ns with
  | nil => intro s; apply ByteArray.ext; simp [B, ByteArray.data_append]
  | cons c r ih =>
   intro s
   simp only [List.map_cons, List.foldl_cons, ih]
   apply ByteArray.ext
   simp [B, ByteArray.data_append, ByteArray.data_push]
 have fold0 : (l.map (fun c => (c.toNat : Int))).foldl (fun r n => r.push (UInt8.ofNat n.toNat)) ByteArray.empty = B l := by
  rw [fold]; apply ByteArray.ext; simp
 rcases h.2 with ⟨rfl, hn⟩ | ⟨g, cap, cur, rfl, _, hg, hnc, _, hcs, htake⟩
 ·have : l = [] := List.eq_nil_of_length_eq_zero (by omega)
  subst this
  rw [run_convert_bytes_string w src dst e none 0 0 hs he hd]
  rfl
 ·rw [run_convert_bytes_string w src dst e _ _ _ hs he hd]
  have hc := h.cells (g := g) rfl
  have hload := run_loadCells_list (P := P) (w := w) ⟨g, 0, none⟩ (l.map u8v) hc
  have e1 : (l.map u8v) = (l.map (fun c => (c.toNat : Int))).map (Value.int .u8) := by simp [u8v, Function.comp]
  rw [List.length_map, hl] at hload
  rw [e1] at hload
  have := run_bytesToString (P := P) w ⟨g, 0, none⟩ n cap (l.map (fun c => (c.toNat : Int))) hload
  rw [this, fold0]
theorem zZ {w : World} {base : Nat} {e : TypeId} {g n cap : Nat} {xs : List Value} (h : w.ownsRow base e 1 (.slice (some ⟨g, 0, none⟩) n cap) n xs) (j : Nat) (hj : j < n) :
  ∃ v, w.cell? ⟨g, j, none⟩ = some v := by
 have hx : xs.length = n := by simpa using h.1
 exact ⟨xs[j], by rw [h.cellAt j (by omega)]; exact List.getElem?_eq_getElem (by omega)⟩
theorem yF {d : Nat} (h : d < 10) : u8v (sg d) = .int .u8 (48 + (d : Int)) := by
 unfold u8v; rw [zI (by omega), if_pos h]; simp
theorem qP (l : List Nat) (d : Nat) : ints l ++ [.int .i64 (d : Int)] = ints (l ++ [d]) := by simp [ints]
theorem zb {w w3 : World} {cs : Array Value} {T : TypeId} (h : Below (w.heap.size + 1) (w.alloc (.cells cs T)) w3) (j : Nat) : w3.cell? ⟨w.heap.size, j, none⟩ = cs[j]? := by
 rw [h.cell (p := ⟨w.heap.size, j, none⟩) (Nat.lt_succ_self _)]
 exact World.cell?_alloc_at cs T _ j rfl
theorem zc {w w3 : World} {cs : Array Value} {T : TypeId} (h : Below (w.heap.size + 1) (w.alloc (.cells cs T)) w3) (j : Nat) : w3.frozen? ⟨w.heap.size, j, none⟩ = false := by
 rw [h.frozen (p := ⟨w.heap.size, j, none⟩) (Nat.lt_succ_self _)]
 exact World.frozen?_alloc_at cs T _ j rfl
theorem zf {w w3 : World} {o : Obj} (h : Below (w.heap.size + 1) (w.alloc o) w3) : Below w.heap.size w w3 :=
 ((Below.refl _ _).alloc (Nat.le_refl _) _).trans (h.mono (by omega))
theorem zg {w w1 : World} {o : Obj} (h : Below (w.alloc o).heap.size (w.alloc o) w1) : Below (w.heap.size + 1) (w.alloc o) w1 := by simpa using h
theorem ze {B : Nat} {a b c : World} (h : Below B a b) (hB : B ≤ b.heap.size) (k : Below b.heap.size b c) : Below B a c ∧ B ≤ c.heap.size :=
 ⟨h.trans (k.mono hB), Nat.le_trans hB k.size⟩
def u64s (l : List Nat) : List Value := l.map fun (d : Nat) => Value.int .u64 (d : Int)
theorem qL (l : List Nat) : (u64s l).length = l.length := by simp [u64s]
theorem zr (l : List Nat) (j : Nat) (h : j < l.length) : (u64s l)[j]? = some (.int .u64 (l[j] : Nat)) := by simp [u64s, h]
theorem z6 (l : List Nat) (j d : Nat) (v : Int) (h : v = (d : Int)) : (u64s l).set j (.int .u64 v) = u64s (l.set j d) := by rw [h]; simp [u64s, List.map_set]
theorem qA (n : Nat) : List.replicate n (Value.int .u64 0) = u64s (List.replicate n 0) := by simp [u64s]
theorem xe (l : List Nat) (d : Nat) : u64s l ++ [.int .u64 (d : Int)] = u64s (l ++ [d]) := by simp [u64s]
theorem yV {w : World} {base : Nat} {e : TypeId} {g n cap : Nat} {xs : List Value} (h : w.ownsRow base e 1 (.slice (some ⟨g, 0, none⟩) n cap) n xs) (k : Nat) (hk : k ≤ n) :
  w.ownsRow base e 1 (.slice (some ⟨g, 0, none⟩) k cap) k (xs.take k) := by
 have hx : xs.length = n := by simpa using h.1
 refine ⟨by simp; omega, ?_⟩
 rcases h.2 with ⟨h', _⟩ | ⟨g', cap', cur, h', hb, hg, hnc, hcm, hcs, htake⟩
 ·simp at h'
 ·simp only [Value.slice.injEq, Option.some.injEq, Addr.mk.injEq, and_true, true_and] at h'
  obtain ⟨rfl, rfl⟩ := h'
  refine .inr ⟨g, cap, cur, rfl, hb, hg, by omega, hcm, hcs, ?_⟩
  rw [← htake, List.take_take]; simp; omega
theorem qS {w : World} {base : Nat} {e : TypeId} {v : Value} {n : Nat} {xs : List Value} (h : w.ownsRow base e 1 v n xs) :
  (v = .slice none 0 0 ∧ n = 0 ∧ xs = []) ∨ ∃ g cap, v = .slice (some ⟨g, 0, none⟩) n cap ∧ n ≤ cap ∧ base ≤ g ∧ g < w.heap.size := by
 rcases h.2 with ⟨rfl, hn⟩ | ⟨g, cap, cur, rfl, hb, hg, hnc, _⟩
 ·left
  exact ⟨rfl, hn, List.eq_nil_of_length_eq_zero (by have := h.1; omega)⟩
 ·right
  exact ⟨g, cap, rfl, hnc, hb, (Array.getElem?_eq_some_iff.1 hg).1⟩
theorem zx {w : World} {base : Nat} {e : TypeId} {v : Value} {n : Nat} {xs : List Value} (h : w.ownsRow base e 1 v n xs) : ∃ p cap, v = .slice p n cap := by
 rcases qS h with ⟨rfl, rfl, _⟩ | ⟨g, cap, rfl, _⟩
 ·exact ⟨_, _, rfl⟩
 ·exact ⟨_, _, rfl⟩
theorem zS {w : World} {base : Nat} {e : TypeId} {v : Value} {n : Nat} {xs : List Value} (h : w.ownsRow base e 1 v n xs) (hn : 0 < n) :
  ∃ g cap, v = .slice (some ⟨g, 0, none⟩) n cap ∧ n ≤ cap ∧ base ≤ g ∧ g < w.heap.size := by
 rcases qS h with ⟨_, rfl, _⟩ | hh
 ·omega
 ·exact hh
theorem qy {p : Nat → Prop} {l : List Nat} {j v : Nat} (h : ∀ d ∈ l, p d) (hv : p v) : ∀ d ∈ l.set j v, p d := by
 intro d hd
 rcases List.mem_or_eq_of_mem_set hd with h1 | h1
 ·exact h d h1
 ·rw [h1]; exact hv
theorem vA {w : World} {base e g n : Nat} {xs : List Value} (h : w.ownsRow base e 1 (.slice (some ⟨g, 0, none⟩) n n) n xs) : w.heap[g]? = some (.cells xs.toArray e (0, 0)) := by
 rcases h.2 with ⟨h', _⟩ | ⟨g', cap', cur, h', hb, hg, hnc, hcm, hcs, htake⟩
 ·simp at h'
 ·simp only [Value.slice.injEq, Option.some.injEq, Addr.mk.injEq, and_true, true_and] at h'
  obtain ⟨rfl, rfl⟩ := h'
  rw [hg]
  have : cur.toList = xs := by
   rw [← htake, List.take_of_length_le]
   rw [Array.length_toList, hcs]; exact Nat.le_refl _
  rw [← this]
theorem jC {w : World} {base e g n : Nat} {xs : List Value} (h : w.heap[g]? = some (.cells xs.toArray e (0, 0))) (hl : xs.length = n) (hn : n ≤ maxLen) (hb : base ≤ g) :
  w.ownsRow base e 1 (.slice (some ⟨g, 0, none⟩) n n) n xs := by
 refine ⟨by omega, .inr ⟨g, n, xs.toArray, rfl, hb, h, Nat.le_refl _, hn, by simp; omega, ?_⟩⟩
 rw [List.take_of_length_le (by simp; omega)]
theorem xQ (l : List Nat) : ∀ u ∈ u64s l, u.oneCell' = true := by
 intro u hu
 obtain ⟨d, _, rfl⟩ := List.mem_map.1 hu
 rfl
theorem y3 (l m : List Nat) : u64s (l ++ m) = u64s l ++ u64s m := by simp [u64s]
theorem xd (l : List Nat) (k : Nat) : u64s (l.drop k) = (u64s l).drop k := by simp [u64s, List.map_drop]
theorem wi32 (x : Int) (h0 : -2147483648 ≤ x) (h1 : x ≤ 2147483647) : IntKind.i32.wrap x = x := by rw [IntKind.wrap_i32]; omega
structure Keeps (g : Nat) (w w' : World) : Prop where
 os : w'.os = w.os
 tape : w'.tape = w.tape
 output : w'.output = w.output
 size : w.heap.size ≤ w'.heap.size
 block : ∀ k, k < w.heap.size → k ≠ g → w'.heap[k]? = w.heap[k]?
theorem Keeps.refl (g : Nat) (w : World) : Keeps g w w := ⟨rfl, rfl, rfl, Nat.le_refl _, fun _ _ _ => rfl⟩
theorem Keeps.trans {g : Nat} {a b c : World} (h : Keeps g a b) (k : Keeps g b c) : Keeps g a c :=
 ⟨k.os.trans h.os, k.tape.trans h.tape, k.output.trans h.output, Nat.le_trans h.size k.size, fun i hi hg => (k.block i (Nat.lt_of_lt_of_le hi h.size) hg).trans (h.block i hi hg)⟩
theorem Keeps.of_below {g : Nat} {w w' : World} (h : Below w.heap.size w w') : Keeps g w w' := ⟨h.os, h.tape, h.output, h.size, fun k hk _ => h.block k hk⟩
theorem Keeps.below {g B : Nat} {w w' : World} (h : Keeps g w w') (hg : B ≤ g) (hB : B ≤ w.heap.size) : Below B w w' := ⟨h.os, h.tape, h.output, h.size, fun k hk => h.block k (by omega) (by omega)⟩
theorem Keeps.drew {g : Nat} {a w : World} (h : Keeps g a w) : Keeps g a w.drew := ⟨h.os, h.tape, h.output, h.size, h.block⟩
theorem Keeps.drewN {g : Nat} {a w : World} (h : Keeps g a w) (n : Nat) : Keeps g a (w.drewN n) := ⟨h.os, h.tape, h.output, h.size, h.block⟩
theorem Keeps.alloc {g : Nat} {a w : World} (h : Keeps g a w) (o : Obj) : Keeps g a (w.alloc o) := h.trans (Keeps.of_below ((Below.refl _ _).alloc (Nat.le_refl _) o))
theorem Keeps.setOwn {g : Nat} {a w : World} (h : Keeps g a w) {p : Addr} (hp : p.block = g) (u : Value) : Keeps g a (w.setCell p u) :=
 h.trans ⟨rfl, rfl, rfl, by simp [World.setCell], fun k _ hg => Below.heap_setCell _ _ _ _ (by omega)⟩
theorem Keeps.setNew {g : Nat} {a w : World} (h : Keeps g a w) {p : Addr} (hp : a.heap.size ≤ p.block) (u : Value) : Keeps g a (w.setCell p u) :=
 ⟨h.os, h.tape, h.output, Nat.le_trans h.size (by simp [World.setCell]), fun k hk hg => (Below.heap_setCell _ _ _ _ (by omega)).trans (h.block k hk hg)⟩
theorem Keeps.cell {g : Nat} {w w' : World} (h : Keeps g w w') {p : Addr} (hp : p.block < w.heap.size) (hg : p.block ≠ g) : w'.cell? p = w.cell? p := World.cell?_of_block (w := w) (h.block p.block hp hg)
def Byts (w : World) (g : Nat) (a : Option Addr) (n : Nat) : Prop :=
 0 < n → ∃ q o, a = some ⟨q, o, none⟩ ∧ q < g ∧ q < w.heap.size ∧ ∀ j, j < n → ∃ x : Nat, x ≤ 255 ∧ w.cell? ⟨q, o + j, none⟩ = some (.int .u8 (x : Int))
theorem Byts.keeps {w w' : World} {g : Nat} {a : Option Addr} {n : Nat} (h : Byts w g a n) (k : Keeps g w w') : Byts w' g a n := by
 intro hn
 obtain ⟨q, o, rfl, hqg, hq, hc⟩ := h hn
 refine ⟨q, o, rfl, hqg, Nat.lt_of_lt_of_le hq k.size, fun j hj => ?_⟩
 obtain ⟨x, hx, hcj⟩ := hc j hj
 exact ⟨x, hx, by rw [k.cell hq (Nat.ne_of_lt hqg)]; exact hcj⟩
structure Rd (w : World) (g p : Nat) (a : Option Addr) (n cap : Nat) : Prop where
 heap : w.heap[g]? = some (.cells #[.slice a n cap, .int .i64 (p : Int)] 107 (0, 0))
 byts : Byts w g a n
 len : n ≤ 2000
theorem Rd.keep {w w' : World} {g p : Nat} {a : Option Addr} {n cap : Nat} (h : Rd w g p a n cap) (hb : Below w.heap.size w w') : Rd w' g p a n cap :=
 ⟨by rw [hb.block g (Array.getElem?_eq_some_iff.1 h.heap).1]; exact h.heap, h.byts.keeps (Keeps.of_below hb), h.len⟩
theorem Rd.drewN {w : World} {g p : Nat} {a : Option Addr} {n cap : Nat} (h : Rd w g p a n cap) (k : Nat) : Rd (w.drewN k) g p a n cap := ⟨h.heap, h.byts, h.len⟩
theorem Rd.drew {w : World} {g p : Nat} {a : Option Addr} {n cap : Nat} (h : Rd w g p a n cap) : Rd w.drew g p a n cap := ⟨h.heap, h.byts, h.len⟩
theorem Rd.lt {w : World} {g p : Nat} {a : Option Addr} {n cap : Nat} (h : Rd w g p a n cap) : g < w.heap.size := (Array.getElem?_eq_some_iff.1 h.heap).1
theorem Rd.c0 {w : World} {g p : Nat} {a : Option Addr} {n cap : Nat} (h : Rd w g p a n cap) : w.cell? ⟨g, 0, none⟩ = some (.slice a n cap) := by simp [World.cell?, h.heap]
theorem Rd.c1 {w : World} {g p : Nat} {a : Option Addr} {n cap : Nat} (h : Rd w g p a n cap) : w.cell? ⟨g, 1, none⟩ = some (.int .i64 (p : Int)) := by simp [World.cell?, h.heap]
theorem Rd.f1 {w : World} {g p : Nat} {a : Option Addr} {n cap : Nat} (h : Rd w g p a n cap) : w.frozen? ⟨g, 1, none⟩ = false := by simp [World.frozen?, h.heap]
theorem Rd.next {w : World} {g p : Nat} {a : Option Addr} {n cap : Nat} (h : Rd w g p a n cap) (v : Int) (hv : v = ((p + 1 : Nat) : Int)) : Rd (w.setCell ⟨g, 1, none⟩ (.int .i64 v)) g (p + 1) a n cap := by
 refine ⟨?_, h.byts.keeps ((Keeps.refl g w).setOwn (p := ⟨g, 1, none⟩) rfl _), h.len⟩
 subst hv
 rw [show (w.setCell ⟨g, 1, none⟩ (.int .i64 ((p + 1 : Nat) : Int))).heap[g]? = _ from Array.getElem?_modify, if_pos rfl, h.heap]
 simp
theorem Rd.below {w w' : World} {g p : Nat} {a : Option Addr} {n cap : Nat} (h : Rd w g p a n cap) (hb : Below (g + 1) w w') : Rd w' g p a n cap := by
 refine ⟨by rw [hb.block g (by omega)]; exact h.heap, ?_, h.len⟩
 intro hn
 obtain ⟨q, o, rfl, hqg, hq, hc⟩ := h.byts hn
 refine ⟨q, o, rfl, hqg, Nat.lt_of_lt_of_le hq hb.size, fun j hj => ?_⟩
 obtain ⟨x, hx, hcj⟩ := hc j hj
 exact ⟨x, hx, by rw [hb.cell (p := ⟨q, o + j, none⟩) (by show q < g + 1; omega)]; exact hcj⟩
def Drawn (w : World) (g p n cap : Nat) (a : Option Addr) (k : Nat) (w' : World) : Prop := (∃ p', p' ≤ p + k ∧ Rd w' g p' a n cap) ∧ Keeps g w w'
theorem Drawn.more {w w1 w2 : World} {g p n cap k : Nat} {a : Option Addr} (h : Drawn w g p n cap a k w1) (hg : g < w.heap.size) (hb : Below w.heap.size w1 w2) : Drawn w g p n cap a k w2 := by
 obtain ⟨⟨p', hp, hr⟩, hk⟩ := h
 exact ⟨⟨p', hp, hr.below (hb.mono (by omega))⟩, ⟨hb.os.trans hk.os, hb.tape.trans hk.tape, hb.output.trans hk.output, Nat.le_trans hk.size hb.size, fun i hi hig => (hb.block i hi).trans (hk.block i hi hig)⟩⟩
theorem Rd.alloc {w : World} {g p : Nat} {a : Option Addr} {n cap : Nat} (h : Rd w g p a n cap) (o : Obj) : Rd (w.alloc o) g p a n cap := h.keep ((Below.refl _ _).alloc (Nat.le_refl _) _)
def At3 (w : World) (b : Nat) (x y z : Value) : Prop := w.heap[b]? = some (.cells #[x, y, z] 26 (0, 0))
theorem At3.lt {w : World} {b : Nat} {x y z : Value} (h : At3 w b x y z) : b < w.heap.size := (Array.getElem?_eq_some_iff.1 h).1
theorem At3.new (w : World) (x y z : Value) : At3 (w.alloc (.cells #[x, y, z] 26)) w.heap.size x y z := by
 show (w.heap.push _)[w.heap.size]? = _; rw [Array.getElem?_push, if_pos rfl]
theorem At3.keeps {w w' : World} {b g : Nat} {x y z : Value} (h : At3 w b x y z) (k : Keeps g w w') (hg : b ≠ g) : At3 w' b x y z := (k.block b h.lt hg).trans h
theorem At3.below {w w' : World} {b : Nat} {x y z : Value} (h : At3 w b x y z) (k : Below w.heap.size w w') : At3 w' b x y z := (k.block b h.lt).trans h
theorem At3.alloc {w : World} {b : Nat} {x y z : Value} (h : At3 w b x y z) (o : Obj) : At3 (w.alloc o) b x y z := h.below ((Below.refl _ _).alloc (Nat.le_refl _) _)
theorem At3.drew {w : World} {b : Nat} {x y z : Value} (h : At3 w b x y z) : At3 w.drew b x y z := h
theorem At3.set1 {w : World} {b : Nat} {x y z : Value} (h : At3 w b x y z) (u : Value) : At3 (w.setCell ⟨b, 1, none⟩ u) b x u z := by
 show (w.heap.modify b _)[b]? = _
 rw [Array.getElem?_modify, if_pos rfl, show w.heap[b]? = _ from h]
 rfl
theorem At3.set {w : World} {b : Nat} {x y z : Value} (h : At3 w b x y z) {p : Addr} (hp : b ≠ p.block) (u : Value) : At3 (w.setCell p u) b x y z := by
 unfold At3; rw [Below.heap_setCell _ _ _ _ hp]; exact h
theorem At3.c0 {w : World} {b : Nat} {x y z : Value} (h : At3 w b x y z) : w.cell? ⟨b, 0, none⟩ = some x := by unfold At3 at h; simp [World.cell?, h]
theorem At3.c1 {w : World} {b : Nat} {x y z : Value} (h : At3 w b x y z) : w.cell? ⟨b, 1, none⟩ = some y := by unfold At3 at h; simp [World.cell?, h]
theorem At3.c2 {w : World} {b : Nat} {x y z : Value} (h : At3 w b x y z) : w.cell? ⟨b, 2, none⟩ = some z := by unfold At3 at h; simp [World.cell?, h]
theorem At3.f {w : World} {b : Nat} {x y z : Value} (h : At3 w b x y z) (j : Nat) : w.frozen? ⟨b, j, none⟩ = false := by unfold At3 at h; simp [World.frozen?, h]
theorem xg {x y : Int} (hx0 : 0 ≤ x) (hx : x < 4611686018427387904) (hy0 : 0 ≤ y) (hy : y < 4611686018427387904) : 0 ≤ bits .xor .i64 x y ∧ bits .xor .i64 x y < 4611686018427387904 := by
 obtain ⟨a, rfl⟩ := Int.eq_ofNat_of_zero_le hx0
 obtain ⟨b, rfl⟩ := Int.eq_ofNat_of_zero_le hy0
 have e : (BitVec.ofInt 64 (a : Int) ^^^ BitVec.ofInt 64 (b : Int)).toNat = a ^^^ b := by
  rw [BitVec.toNat_xor, BitVec.ofInt_natCast, BitVec.ofInt_natCast, BitVec.toNat_ofNat, BitVec.toNat_ofNat, Nat.mod_eq_of_lt (by omega), Nat.mod_eq_of_lt (by omega)]
 have hlt : a ^^^ b < 2 ^ 62 := Nat.xor_lt_two_pow (by omega) (by omega)
 have hw : bits .xor .i64 (a : Int) (b : Int) = ((a ^^^ b : Nat) : Int) := by
  show IntKind.i64.wrap ((BitVec.ofInt 64 (a : Int) ^^^ BitVec.ofInt 64 (b : Int)).toNat : Int) = _
  rw [e, wi64 _ (by omega) (by omega)]
 rw [hw]; omega
def xx (m : Int) (i : Nat) : Prop := (i : Int) < m ∨ i = 0
theorem nameI (z : Int) (M : Int) (h0 : 0 ≤ z) (h1 : z ≤ M) (hM : M ≤ 9223372036854775807) : ∃ u : Nat, Hid (z = (u : Int)) ∧ IntKind.i64.wrap z = (u : Int) ∧ (u : Int) ≤ M :=
 ⟨z.toNat, by show z = _; omega, by rw [wi64 z (by omega) (by omega)]; omega, by omega⟩
theorem q6 (g p n cap : Nat) (a : Option Addr) (m : Int) (w : World) (h : Rd w g p a n cap) (hp : p ≤ 1000000000) (hm : m ≤ 4611686018427387904) :
  Calls Tryd.prog 33 #[.pointer (some ⟨g, 0, none⟩), .int .i64 m] w fun e w' => (∃ i : Nat, e = .returned (.int .i64 (i : Int)) ∧ xx m i) ∧ Rd w' g (p + 1) a n cap ∧ Keeps g w w' := by
 have c0 := h.c0
 have c1 := h.c1
 have f1 := h.f1
 have hlt := h.lt
 have hN := h.next ((p : Int) + 1) (by omega)
 have hK := (Keeps.refl g w).setOwn (p := ⟨g, 1, none⟩) rfl (.int .i64 ((p : Int) + 1))
 have d0 := hN.c0
 have d1 := hN.c1
 have hB := hN.byts
 have hlen := h.len
 have HN := hide hN
 have HK := hide hK
 clear hN hK h
 by_cases hm1 : m < 1
 ·go_enter Tryd.func33, Tryd.ntmps33
  go_wp2
  go_ret
  exact ⟨⟨0, rfl, .inr rfl⟩, za HN, za HK⟩
 ·by_cases hn0 : n = 0
  ·have hz : ((n : Int) == 0) = true := by simp [hn0]
   have hl : decide (m < 1) = false := decide_eq_false hm1
   go_enter Tryd.func33, Tryd.ntmps33
   go_wp2
   go_ret
   subst hn0
   exact ⟨⟨0, rfl, .inr rfl⟩, za HN, za HK⟩
  ·obtain ⟨q, o, rfl, hqg, hq, hcells⟩ := hB (by omega)
   have hz : ((n : Int) == 0) = false := by simp; omega
   have hl : decide (m < 1) = false := decide_eq_false hm1
   have Hc := hide hcells
   clear hcells hB
   by_cases hpn : p < n
   ·obtain ⟨x, hx, hcx⟩ := za Hc p hpn
    go_enter Tryd.func33, Tryd.ntmps33
    go_wp2
    go_ret
    refine ⟨⟨((x : Int) % m).toNat, qx ?_, .inl ?_⟩, za HN, za HK⟩
    ·rw [Int.toNat_of_nonneg (Int.emod_nonneg _ (by omega))]
    ·rw [Int.toNat_of_nonneg (Int.emod_nonneg _ (by omega))]; exact Int.emod_lt_of_pos _ (by omega)
   ·obtain ⟨i1, hi1, e1⟩ : ∃ i : Nat, i < n ∧ (p : Int).tmod n = (i : Int) := ⟨p % n, Nat.mod_lt _ (by omega), by rw [Int.tmod_eq_emod_of_nonneg (by omega)]; rfl⟩
    obtain ⟨k7, _, e3, hk7⟩ := nameI ((p : Int) * 7) 7000000000 (by omega) (by omega) (by omega)
    obtain ⟨k73, _, e4, hk73⟩ := nameI ((k7 : Int) + 3) 7000000003 (by omega) (by omega) (by omega)
    obtain ⟨i2, hi2, e5⟩ : ∃ i : Nat, i < n ∧ (k73 : Int).tmod n = (i : Int) := ⟨k73 % n, Nat.mod_lt _ (by omega), by rw [Int.tmod_eq_emod_of_nonneg (by omega)]; rfl⟩
    obtain ⟨x, hx, hcx⟩ := za Hc i1 hi1
    obtain ⟨y, hy, hcy⟩ := za Hc i2 hi2
    obtain ⟨u1, _, e6, hu1⟩ := nameI ((x : Int) * 131) 100000 (by omega) (by omega) (by omega)
    obtain ⟨u2, _, e7, hu2⟩ := nameI ((y : Int) * 1117) 1000000 (by omega) (by omega) (by omega)
    obtain ⟨u3, _, e8, hu3⟩ := nameI ((u1 : Int) + u2) 1100000 (by omega) (by omega) (by omega)
    obtain ⟨u4, _, e9, hu4⟩ := nameI ((p : Int) * 29) 29000000000 (by omega) (by omega) (by omega)
    obtain ⟨u5, _, e10, hu5⟩ := nameI ((u3 : Int) + u4) 30000000000 (by omega) (by omega) (by omega)
    obtain ⟨u6, hu6, e11⟩ : ∃ u : Nat, (u : Int) ≤ 1000000000 ∧ (p : Int).tdiv n = (u : Int) := ⟨p / n, by have := Nat.div_le_self p n; omega, by rw [Int.tdiv_eq_ediv_of_nonneg (by omega)]; rfl⟩
    have e11' := wi64 (u6 : Int) (by omega) (by omega)
    obtain ⟨u7, _, e12, hu7⟩ := nameI ((u6 : Int) * 53) 53000000000 (by omega) (by omega) (by omega)
    obtain ⟨u8, _, e13, hu8⟩ := nameI ((u5 : Int) + u7) 100000000000 (by omega) (by omega) (by omega)
    have hi1' : (i1 : Int) < n := by omega
    have hi2' : (i2 : Int) < n := by omega
    have hx256 : (x : Int) ≤ 255 := by omega
    have hy256 : (y : Int) ≤ 255 := by omega
    have hX := xg (x := (u8 : Int)) (y := (u8 : Int) / 64) (by omega) (by omega) (by omega) (by omega)
    obtain ⟨z, hz⟩ : ∃ z : Nat, bits .xor .i64 (u8 : Int) ((u8 : Int) / 64) = (z : Int) := ⟨(bits .xor .i64 (u8 : Int) ((u8 : Int) / 64)).toNat, by omega⟩
    have Hz := hide hz
    clear hz hX
    go_enter Tryd.func33, Tryd.ntmps33
    go_wp2
    go_quiet (fail)
    go_wp2
    go_ret
    rw [za Hz]
    refine ⟨⟨((z : Int) % m).toNat, qx ?_, .inl ?_⟩, (za HN).drewN nq, (za HK).drewN nq⟩
    ·rw [Int.toNat_of_nonneg (Int.emod_nonneg _ (by omega)), Int.tmod_eq_emod_of_nonneg (by omega)]
    ·rw [Int.toNat_of_nonneg (Int.emod_nonneg _ (by omega))]; exact Int.emod_lt_of_pos _ (by omega)
theorem zL (g p n cap : Nat) (a : Option Addr) (m : Int) (w : World) (h : Rd w g p a n cap) (hp : p ≤ 1000000000) (hm : m ≤ 4611686018427387904) :
  Calls Tryd.prog 33 #[.pointer (some ⟨g, 0, none⟩), .int .i64 m] w fun e w' => (∃ i : Nat, e = .returned (.int .i64 (i : Int)) ∧ xx m i) ∧ Drawn w g p n cap a 1 w' :=
 (q6 g p n cap a m w h hp hm).mono fun _ _ h => ⟨h.1, ⟨p + 1, Nat.le_refl _, h.2.1⟩, h.2.2⟩
def Bytes0 (w : World) (a : Option Addr) (n : Nat) : Prop :=
 0 < n → ∃ q o, a = some ⟨q, o, none⟩ ∧ q < w.heap.size ∧ ∀ j, j < n → ∃ x : Nat, x ≤ 255 ∧ w.cell? ⟨q, o + j, none⟩ = some (.int .u8 (x : Int))
theorem Bytes0.below {w w' : World} {a : Option Addr} {n : Nat} (h : Bytes0 w a n) (k : Below w.heap.size w w') : Bytes0 w' a n := by
 intro hn
 obtain ⟨q, o, rfl, hq, hc⟩ := h hn
 refine ⟨q, o, rfl, Nat.lt_of_lt_of_le hq k.size, fun j hj => ?_⟩
 obtain ⟨x, hx, hcj⟩ := hc j hj
 exact ⟨x, hx, by rw [k.cell hq]; exact hcj⟩
theorem Bytes0.byts {w : World} {a : Option Addr} {n m : Nat} (h : Bytes0 w a n) (hm : m ≤ n) (o : Obj) : Byts (w.alloc o) w.heap.size a m := by
 intro hn
 obtain ⟨q, o', rfl, hq, hc⟩ := h (by omega)
 refine ⟨q, o', rfl, hq, by simp; omega, fun j hj => ?_⟩
 obtain ⟨x, hx, hcj⟩ := hc j (by omega)
 exact ⟨x, hx, by rw [Below.cell ((Below.refl w.heap.size w).alloc (Nat.le_refl _) o) hq]; exact hcj⟩
theorem xK {w : World} {a : Option Addr} {n m cap : Nat} (h : Bytes0 w a n) (hm : m ≤ n) (h2 : m ≤ 2000) (v : Int) (hv : v = ((0 : Nat) : Int)) : Rd (w.alloc (.cells #[.slice a m cap, .int .i64 v] 107)) w.heap.size 0 a m cap := by
 subst hv
 exact ⟨by show (w.heap.push _)[w.heap.size]? = _; rw [Array.getElem?_push, if_pos rfl], h.byts hm _, h2⟩
theorem vt (a : Option Addr) (n cap : Nat) (w : World) (h : Bytes0 w a n) (hcap : n ≤ cap) (hmax : cap ≤ maxLen) :
  Calls Tryd.prog 32 #[.slice a n cap] w fun e w' => e = .returned (.pointer (some ⟨w.heap.size, 0, none⟩)) ∧ (∃ m, m ≤ n ∧ Rd w' w.heap.size 0 a m cap) ∧ Below w.heap.size w w' := by
 unfold maxLen at hmax
 have H := hide h
 clear h
 by_cases hn : 2000 < n
 ·have hc2 : (2000 : Int) ≤ cap := by omega
  go_enter Tryd.func32, Tryd.ntmps32
  go_wp2
  go_ret
  exact ⟨rfl, ⟨2000, by omega, xK (za H) (by omega) (by omega) _ rfl⟩, (Below.refl _ _).alloc (Nat.le_refl _) _⟩
 ·go_enter Tryd.func32, Tryd.ntmps32
  go_wp2
  go_ret
  exact ⟨rfl, ⟨n, by omega, xK (za H) (by omega) (by omega) _ rfl⟩, (Below.refl _ _).alloc (Nat.le_refl _) _⟩
def isS (M : Nat) : Value → Bool | .string s => decide (s.size ≤ M) | _ => false
theorem xX {M : Nat} {v : Value} (h : isS M v = true) : ∃ s, v = .string s ∧ s.size ≤ M := by
 cases v <;> simp [isS] at h
 exact ⟨_, rfl, h⟩
theorem of_c (g p n cap q : Nat) (a : Option Addr) (cs : Array Value) (L : Nat) (w : World) (h : Rd w g p a n cap) (hp : p ≤ 1000000000) (hL : L = cs.size) (hL0 : 0 < L) (hL9 : L ≤ 1000000)
  (hcs : w.heap[q]? = some (.cells cs 9 (0, 0))) (hqg : q ≠ g) :
  Calls Tryd.prog 35 #[.pointer (some ⟨g, 0, none⟩), .slice (some ⟨q, 0, none⟩) L L] w fun e w' => (∃ v, e = .returned v ∧ v ∈ cs.toList) ∧ Drawn w g p n cap a 1 w' := by
 have hq : q < w.heap.size := (Array.getElem?_eq_some_iff.1 hcs).1
 have H := hide h
 have Hcs := hide hcs
 have HL := hide hL
 clear h hcs hL
 go_enter Tryd.func35, Tryd.ntmps35
 go_wp2_with fail
 refine (q6 g p n cap a L w (za H) hp (by omega)).mono ?_
 rintro e w1 ⟨⟨i, rfl, hi⟩, hr, hk⟩
 have hiL : i < L := by rcases hi with hi | hi <;> omega
 have hiL2 : (i : Int) < L := by omega
 have hlt : i < cs.toList.length := by rw [Array.length_toList, ← za HL]; exact hiL
 have hcell : w1.cell? ⟨q, i, none⟩ = some (cs.toList[i]'hlt) := by
  rw [hk.cell (p := ⟨q, i, none⟩) hq hqg]
  simp [World.cell?, za Hcs]
 have hmem : cs.toList[i]'hlt ∈ cs.toList := List.getElem_mem hlt
 generalize cs.toList[i]'hlt = v at *
 have Hm := hide hmem
 have HR := hide hr
 have HK := hide hk
 clear hr hk hmem hi
 go_wp2
 go_ret
 exact ⟨⟨v, rfl, za Hm⟩, ⟨p + 1, Nat.le_refl _, za HR⟩, za HK⟩
theorem xB {s n T o : Nat} (h : o + s * n ≤ T) (hn : n % 2 = 1) : o + s + (s + s) * (n / 2) ≤ T := by
 obtain ⟨k, hk⟩ : ∃ k, n / 2 = k := ⟨_, rfl⟩
 have e : n = 2 * k + 1 := by omega
 rw [hk]; subst e
 rw [Nat.mul_add, Nat.mul_one, ← Nat.mul_assoc, Nat.mul_comm s 2, Nat.two_mul] at h
 omega
theorem kW {s n T o : Nat} (h : o + s * n ≤ T) (hn : n % 2 = 0) : o + (s + s) * (n / 2) ≤ T := by
 obtain ⟨k, hk⟩ : ∃ k, n / 2 = k := ⟨_, rfl⟩
 have e : n = 2 * k := by omega
 rw [hk]; subst e
 rw [← Nat.mul_assoc, Nat.mul_comm s 2, Nat.two_mul] at h
 omega
theorem vr (s : ByteArray) (n : Int) (T : Nat) (w : World) (hT : s.size * n.toNat ≤ T) (hT9 : T ≤ 1000000000) (hn : n ≤ 1000000000) :
  Calls Tryd.prog 36 #[.string s, .int .i64 n] w fun e w' => (∃ r : ByteArray, e = .returned (.string r) ∧ r.size ≤ T) ∧ w' = w := by
 go_enter Tryd.func36, Tryd.ntmps36
 go_wp2
 go_loop [0, 1, 5] (fun vs vn vo => ∃ (s o : ByteArray) (n : Int), vs = .string s ∧ vn = .int .i64 n ∧ vo = .string o ∧ n ≤ 1000000000 ∧ Hid (o.size + s.size * n.toNat ≤ T)) (fun _ vn _ => (intOf vn).toNat)
 case atStart => exact ⟨s, ⟨#[]⟩, n, rfl, rfl, rfl, hn, by show 0 + _ ≤ T; omega⟩
 case round =>
  obtain ⟨s, o, n, rfl, rfl, rfl, hn, hS⟩ := hrel
  by_cases h0 : 0 < n
  ·obtain ⟨k, rfl⟩ := Int.eq_ofNat_of_zero_le (show 0 ≤ n by omega)
   have hS' := za hS
   rw [Int.toNat_natCast] at hS'
   have hm : s.size * 1 ≤ s.size * k := Nat.mul_le_mul_left _ (by omega)
   have ho : o.size ≤ T := by omega
   have hs1 : s.size ≤ T := by omega
   have hosz : (o ++ s).size = o.size + s.size := ByteArray.size_append
   have hssz : (s ++ s).size = s.size + s.size := ByteArray.size_append
   by_cases hodd : k % 2 = 1
   ·have h1 := xB hS' hodd
    have hr : ((k : Int) % 2 == 1) = true := by rw [beq_iff_eq]; omega
    have hfit : o.size + s.size ≤ T := by omega
    have H1 := hide h1
    have Hos := hide hosz
    have Hss := hide hssz
    clear h1 hosz hssz hS' hm hS hodd
    go_wp2
    go_round
    case rel => exact ⟨s ++ s, o ++ s, ((k / 2 : Nat) : Int), rfl, by go_num, rfl, by omega, by show _ ≤ T; rw [za Hos, za Hss, Int.toNat_natCast]; exact za H1⟩
    case measure => simp [intOf]; omega
   ·have h1 := kW hS' (by omega)
    have hr : ((k : Int) % 2 == 1) = false := by rw [beq_eq_false_iff_ne]; omega
    have H1 := hide h1
    have Hss := hide hssz
    clear h1 hosz hssz hS' hm hS hodd
    go_wp2
    go_round
    case rel => exact ⟨s ++ s, o, ((k / 2 : Nat) : Int), rfl, by go_num, rfl, by omega, by show _ ≤ T; rw [za Hss, Int.toNat_natCast]; exact za H1⟩
    case measure => simp [intOf]; omega
  ·have hT' : o.size ≤ T := by
    have := za hS
    omega
   go_wp2
   go_ret
   exact ⟨⟨o, rfl, hT'⟩, rfl⟩
theorem yD (l : List UInt8) (k : Nat) (hk : k < l.length) (h : k + 1 < l.length → l[k] ≠ 48) : trim (l.drop k) = l.drop k := by
 apply ye
 by_cases hl : k + 1 < l.length
 ·right
  exact ⟨l[k], l.drop (k + 1), List.drop_eq_getElem_cons (by omega), h hl⟩
 ·left; simp; omega
theorem jd (l : List UInt8) (w : World) (hs : l.length ≤ 1000000000) :
  Calls Tryd.prog 89 #[.string (B l)] w fun e w' => e = .returned (.string (B (trim l))) ∧ w' = w := by
 have hsz : (B l).size ≤ 1000000000 := by rw [zi]; exact hs
 go_enter Tryd.func89, Tryd.ntmps89
 go_wp2
 go_loop [3] (fun i => ∃ k : Nat, k ≤ l.length ∧ (k = 0 ∨ k < l.length) ∧ i = .int .i64 k ∧ Hid (trim l = trim (l.drop k))) (fun i => l.length - (intOf i).toNat)
 case atStart => exact ⟨0, Nat.zero_le _, .inl rfl, rfl, rfl⟩
 case round =>
  obtain ⟨k, hk, hk', rfl, ht⟩ := hrel
  have fin : (k + 1 < l.length → ∀ h, l[k]'h ≠ 48) → (B l).extract k (B l).size = B (trim l) := by
   intro h
   rw [zA, zi, List.take_length, ht.out]
   by_cases h0 : k < l.length
   ·rw [yD l k h0 (fun hh => h hh h0)]
   ·have : l = [] := by apply List.eq_nil_of_length_eq_zero; omega
    subst this; simp [trim]
  have Fin := hide fin
  clear fin
  by_cases hlt : k + 1 < l.length
  ·have hlt2 : k + 1 < (B l).size := by rw [zi]; exact hlt
   go_wp2
   ·have hz : l[k] = 48 := by
     have h := ‹(((B l)[k].toNat : Int) == 48) = true›
     rw [B_get] at h
     apply UInt8.toNat_inj.1
     have := beq_iff_eq.1 h
     simp only [UInt8.toNat_ofNat]
     omega
    go_round
    case rel => exact ⟨k + 1, by omega, by omega, by go_num, by show trim l = _; rw [ht.out]; exact xa l k (by omega) hz⟩
    case measure => simp [intOf]; omega
   ·have hz : ∀ h : k < l.length, l[k] ≠ 48 := by
     have h := beq_eq_false_iff_ne.1 ‹(((B l)[k].toNat : Int) == 48) = false›
     rw [B_get] at h
     intro hh hc
     rw [hc] at h
     exact h rfl
    go_ret
    exact ⟨zv (za Fin (fun _ h => hz h)), rfl⟩
  ·have hlt2 : ¬ k + 1 < (B l).size := by rw [zi]; exact hlt
   have hkk : k ≤ (B l).size := by rw [zi]; exact hk
   go_wp2
   go_ret
   exact ⟨zv (za Fin (fun h => absurd h hlt)), rfl⟩
theorem Zc (n k : Nat) (w : World) (hs : (dec n).size ≤ 1000000000) (hk : k ≤ 1000000000) :
  Calls Tryd.prog 102 #[.string (dec n), .int .i64 k] w fun e w' => e = .returned (.int .i64 ((n / 10 ^ k % 10 : Nat) : Int)) ∧ w' = w := by
 by_cases h : k < (dec n).size
 ·have hb : (n / 10 ^ k % 10) < 10 := Nat.mod_lt _ (by omega)
  have hd : (dec n)[(dec n).size - 1 - k]'(by omega) = sg (n / 10 ^ k % 10) := by
   have h1 : k < (txl 10 n).length := by simpa [dec, txt, zi] using h
   have := y7 n k h1
   rw [List.getElem_reverse] at this
   rw [← this]
   simp only [dec, txt, B_get, zi]
  have hn : ((dec n)[(dec n).size - 1 - k]'(by omega)).toNat = 48 + n / 10 ^ k % 10 := by rw [hd, zI (by omega), if_pos hb]
  generalize hg : n / 10 ^ k % 10 = d at *
  have Hn := hide hn
  clear hn hd hg
  go_enter Tryd.func102, Tryd.ntmps102
  go_wp2
  go_ret
  exact ⟨qx (by rw [za Hn]; omega), rfl⟩
 ·have hz : n / 10 ^ k % 10 = 0 := by
   rw [vR n k (by simpa [dec, txt, zi] using h)]
  rw [hz]
  go_enter Tryd.func102, Tryd.ntmps102
  go_wp2
  go_ret
  exact ⟨rfl, rfl⟩
theorem qN (n k d : Nat) (w : World) (hd : n / 10 ^ k % 10 = d) (hs : (dec n).size ≤ 1000000000) (hk : k ≤ 1000000000) :
  Calls Tryd.prog 102 #[.string (dec n), .int .i64 k] w fun e w' => e = .returned (.int .i64 (d : Int)) ∧ w' = w := by
 subst hd; exact Zc n k w hs hk
theorem Tryd.infoInt : (Tryd.prog.info? 3).map (fun i => (i.zero, i.size, i.bytes)) = some (some (.int .i64 0), 1, 8) := by kernel_rfl
theorem Tryd.infoByte : (Tryd.prog.info? 5).map (fun i => (i.zero, i.size, i.bytes)) = some (some (.int .u8 0), 1, 1) := by kernel_rfl
def zP (xs : List Nat) (n k : Nat) : List UInt8 := List.replicate (n - k) 0 ++ ((xs.take k).map sg).reverse
theorem vQ (xs : List Nat) (k : Nat) (h : k < xs.length) :
  (zP xs xs.length k).set (xs.length - 1 - k) (sg xs[k]) = zP xs xs.length (k + 1) := by
 unfold zP
 have e : xs.length - k = (xs.length - 1 - k) + 1 := by omega
 rw [e, List.replicate_succ', List.append_assoc, List.set_append_right _ _ (by simp)]
 have e2 : xs.length - (k + 1) = xs.length - 1 - k := by omega
 rw [e2, List.length_replicate, Nat.sub_self, List.take_succ_eq_append_getElem h, List.map_append, List.reverse_append]
 simp
theorem vP (xs : List Nat) : zP xs xs.length xs.length = (xs.map sg).reverse := by simp [zP]
theorem vG (xs : List Nat) : zP xs xs.length 0 = List.replicate xs.length 0 := by simp [zP]
theorem xO (xs : List Nat) (hd : ∀ d ∈ xs, d < 10) (hx : xs ≠ []) : trim (zP xs xs.length xs.length) = txl 10 (ofd 10 xs) := by
 rw [vP]; exact qE xs hd hx
theorem vv (xs : List Nat) (v : Value) (w : World) (hd : ∀ d ∈ xs, d < 10) (hs : xs.length ≤ 1000000000) (h : w.ownsRow 0 3 1 v xs.length (ints xs)) :
  Calls Tryd.prog 103 #[v] w fun e w' => e = .returned (.string (dec (ofd 10 xs))) ∧ Below w.heap.size w w' := by
 obtain ⟨i0, hi, hz0, hz1, hz2⟩ := info_parts Tryd.infoByte
 rcases h.2 with ⟨rfl, hn⟩ | ⟨g, cap, cur, rfl, hbg, hgg, hnc, hcm, hcs, htake⟩
 ·have hx : xs = [] := List.eq_nil_of_length_eq_zero hn
  subst hx
  clear h hs hd hn
  go_enter Tryd.func103, Tryd.ntmps103
  go_wp2_with (refine wpList_make_full _ rfl (.tmp 6) (.tmp 6) 22 rfl w.heap.size 5 i0 (.int .u8 0) 1 Tryd.underlying22 hi hz0 hz1 .i64 .i64 0 0 0 rfl rfl rfl rfl (by rw [hz2]; omega) (by decide) (Nat.le_refl _) ?_; intro w1 hown1 hg1)
  have hb := (Below.refl w.heap.size w).grown hg1 (Nat.le_refl _) (fun _ h => by cases h)
  clear hown1 hg1
  refine wp_loop_rounds 1 ?_; rw [rounds_succ]
  go_wp2
  go_ret
  exact ⟨rfl, hb⟩
 ·clear htake hcs hcm hgg hbg
  have Hd := hide hd
  clear hd
  go_enter Tryd.func103, Tryd.ntmps103
  go_wp2_with (refine wpList_make_full _ rfl (.tmp 6) (.tmp 6) 22 rfl w.heap.size 5 i0 (.int .u8 0) 1 Tryd.underlying22 hi hz0 hz1 .i64 .i64 xs.length xs.length xs.length rfl rfl rfl rfl (by rw [hz2]; omega) (by unfold maxLen; omega) (Nat.le_refl _) ?_; intro w1 hown1 hg1)
  go_loopw [4] (fun i wr => ∃ k : Nat, k ≤ xs.length ∧ i = .int .i64 k ∧ wr.ownsRow w.heap.size 5 1 (.slice (some ⟨w.heap.size, 0, none⟩) xs.length xs.length) xs.length ((zP xs xs.length k).map u8v) ∧ Below w.heap.size w wr)
   (fun i _ => xs.length - (intOf i).toNat)
  case atStart =>
   refine ⟨0, Nat.zero_le _, rfl, ?_, (Below.refl _ _).grown hg1 (Nat.le_refl _) (fun _ h => by cases h)⟩
   rw [vG]
   simpa [Value.cells, toList_madeCells_one, u8v] using hown1
  case round =>
   obtain ⟨k, hk, rfl, hown, hb⟩ := hrel
   by_cases hlt : k < xs.length
   ·have hc1 : wr.cell? ⟨g, k, none⟩ = some (.int .i64 (xs[k] : Nat)) := by
     rw [(zt h hb).cellAt k (by omega)]; simp [ints, hlt]
    have hf := hown.frozenAt (xs.length - 1 - k)
    obtain ⟨v0, hv0⟩ := zZ hown (xs.length - 1 - k) (by omega)
    have hst := hown.stored (xs.length - 1 - k) (u8v (sg xs[k]))
    have hdk : xs[k] < 10 := za Hd _ (List.getElem_mem hlt)
    rw [← List.map_set, vQ xs k hlt, yF hdk] at hst
    have Hst := hide hst
    clear hst
    go_wp2
    go_roundw
    case rel => exact ⟨k + 1, by omega, by go_num, (za Hst).1, hb.setCell (by simp) _⟩
    case measure => simp [intOf]; omega
   ·have hkn : k = xs.length := by omega
    subst hkn
    by_cases hx : xs = []
    ·subst hx
     go_wp2
     go_ret
     exact ⟨rfl, hb⟩
    ·have hx0 : ((xs.length : Int) == 0) = false := by
      have : xs.length ≠ 0 := fun h => hx (List.eq_nil_of_length_eq_zero h)
      rw [beq_eq_false_iff_ne]; omega
     have hconv := zM (dst := 9) Tryd.underlying22 Tryd.underlying5 Tryd.underlying9 hown
     have Fin := hide (xO xs (za Hd) hx)
     go_wp2_with (go_at_call 89; refine (jd _ _ (by simp [zP]; omega)).mono ?_; rintro e w' ⟨rfl, rfl⟩)
     go_ret
     exact ⟨zv (by rw [za Fin]; rfl), hb⟩
theorem zq (n : Nat) : (dec n).size = (txl 10 n).length := by simp [dec, txt, zi]
theorem zW (n : Nat) : n < 10 ^ (dec n).size := by rw [zq]; exact vw (by omega) n
theorem x4 {a b X l : Nat} (hba : b ≤ a) (hX : X < 10 ^ (dec a).size) (h : X + b % 10 ^ (dec a).size = a % 10 ^ (dec a).size + l * 10 ^ (dec a).size) : X = a - b := by
 have ha := zW a
 rw [Nat.mod_eq_of_lt ha, Nat.mod_eq_of_lt (by omega)] at h
 generalize 10 ^ (dec a).size = p at *
 have : l = 0 := by
  rcases Nat.eq_zero_or_pos l with h0 | h0
  ·exact h0
  ·have := Nat.mul_le_mul_right p h0
   omega
 subst this; omega
theorem xY (a b : Nat) (w : World) (hba : b ≤ a) (hs : (dec a).size ≤ 100000) :
  Calls Tryd.prog 109 #[.string (dec a), .string (dec b)] w fun e w' => e = .returned (.string (dec (a - b))) ∧ Below w.heap.size w w' := by
 obtain ⟨i0, hi, hz0, hz1, hz2⟩ := info_parts Tryd.infoInt
 have hbs : (dec b).size ≤ 1000000000 := by
  have := zB (b := 10) (by omega) (zU a) (Nat.lt_of_le_of_lt hba (zW a))
  rw [zq b]; omega
 have Hba := hide hba
 clear hba
 go_enter Tryd.func109, Tryd.ntmps109
 go_wp2
 go_loopw [5, 6, 7] (fun v l i wr => ∃ (k c : Nat) (xs : List Nat), k ≤ (dec a).size ∧ i = .int .i64 k ∧ l = .int .i64 c ∧ c ≤ 1 ∧ xs.length = k ∧ wr.ownsRow w.heap.size 3 1 v k (ints xs) ∧ Below w.heap.size w wr ∧
   Hid (∀ d ∈ xs, d < 10) ∧ Hid (ofd 10 xs + b % 10 ^ k = a % 10 ^ k + c * 10 ^ k))
  (fun _ _ i _ => (dec a).size - (intOf i).toNat)
 case atStart =>
  exact ⟨0, 0, [], Nat.zero_le _, rfl, rfl, by omega, rfl, World.ownsRow_made w #[] 0 (Nat.le_refl _) (by decide) (by simp), (Below.refl _ _).alloc (Nat.le_refl _) _, hide (by simp), hide (by simp [ofd, Nat.mod_one])⟩
 case round =>
  obtain ⟨k, c, xs, hk, rfl, rfl, hc, hxk, hown, hb, hdg, hval⟩ := hrel
  by_cases hlt : k < (dec a).size
  ·have hak : a / 10 ^ k % 10 < 10 := Nat.mod_lt _ (by omega)
   have hbk : b / 10 ^ k % 10 < 10 := Nat.mod_lt _ (by omega)
   generalize hga : a / 10 ^ k % 10 = ak at *
   generalize hgb : b / 10 ^ k % 10 = bk at *
   have Ha := hide hga
   have Hb := hide hgb
   clear hga hgb
   go_wp2_with fail
   refine (qN a k ak _ (za Ha) (by omega) (by omega)).mono ?_
   rintro e w1 ⟨rfl, rfl⟩
   go_wp2_with fail
   refine (qN b k bk _ (za Hb) (by omega) (by omega)).mono ?_
   rintro e w1 ⟨rfl, rfl⟩
   by_cases hneg : (ak : Int) - bk - c < 0
   ·obtain ⟨d, hd⟩ : ∃ d : Nat, (ak : Int) - bk - c + 10 = d := ⟨((ak : Int) - bk - c + 10).toNat, by omega⟩
    have hdl : d < 10 := by omega
    have hw := hb.size
    go_wp2_with (at_builtin; refine wpList_append_own _ rfl (.tmp 29) (.tmp 31) 41 rfl w.heap.size 3 i0 (.int .i64 0) 1 8 Tryd.underlying41 hi hz0 hz1 hz2 rfl (by decide) _ _ _ rfl (hown.alloc _) ⟨w1.heap.size, 0, none⟩ 1 1 [.int .i64 d] rfl rfl (cell_one_new _ _ _) (by intro u hu; simp at hu; subst hu; rfl) (by unfold maxLen; omega) (by omega) (by simp; omega) ?_; intro v2 w2 hown2 hg2 _)
    have hbX := zG (hb.alloc hw _) (hown.alloc _) hg2 (by simp; omega)
    go_roundw
    case rel => exact ⟨k + 1, 1, xs ++ [d], by omega, by go_num, rfl, by omega, by simp [hxk], by rw [← qP]; exact hown2, hbX, qO hdg hdl, hide (by rw [zD, hxk]; exact yZ (za hval) (za Ha) (za Hb) (by omega))⟩
    case measure => simp [intOf]; omega
   ·obtain ⟨d, hd⟩ : ∃ d : Nat, (ak : Int) - bk - c = d := ⟨((ak : Int) - bk - c).toNat, by omega⟩
    have hdl : d < 10 := by omega
    have hw := hb.size
    go_wp2_with (at_builtin; refine wpList_append_own _ rfl (.tmp 29) (.tmp 31) 41 rfl w.heap.size 3 i0 (.int .i64 0) 1 8 Tryd.underlying41 hi hz0 hz1 hz2 rfl (by decide) _ _ _ rfl (hown.alloc _) ⟨w1.heap.size, 0, none⟩ 1 1 [.int .i64 d] rfl rfl (cell_one_new _ _ _) (by intro u hu; simp at hu; subst hu; rfl) (by unfold maxLen; omega) (by omega) (by simp; omega) ?_; intro v2 w2 hown2 hg2 _)
    have hbX := zG (hb.alloc hw _) (hown.alloc _) hg2 (by simp; omega)
    go_roundw
    case rel => exact ⟨k + 1, 0, xs ++ [d], by omega, by go_num, rfl, by omega, by simp [hxk], by rw [← qP]; exact hown2, hbX, qO hdg hdl, hide (by rw [zD, hxk]; exact yZ (za hval) (za Ha) (za Hb) (by omega))⟩
    case measure => simp [intOf]; omega
  ·go_wp2_with fail
   refine (vv xs _ _ (za hdg) (by omega) (ql (hxk ▸ hown) (Nat.zero_le _))).mono ?_
   rintro e w1 ⟨rfl, hb1⟩
   go_wp2
   go_ret
   have hkn : k = (dec a).size := by omega
   subst hkn
   exact ⟨zv (by rw [x4 (za Hba) (hxk ▸ ju xs (za hdg)) (za hval)]), hb.trans (hb1.mono hb.size)⟩
theorem vh (n k : Nat) (h : (dec n).size ≤ k) : n / 10 ^ k % 10 = 0 := by
 rw [vR n k (by rw [← zq]; exact h)]
theorem xR {a b X k : Nat} (h1 : (dec a).size ≤ k) (h2 : (dec b).size ≤ k) (h : X + 0 * 10 ^ k = a % 10 ^ k + b % 10 ^ k) : X = a + b := by
 have ha := Nat.lt_of_lt_of_le (zW a) (Nat.pow_le_pow_right (show 0 < 10 by omega) h1)
 have hb := Nat.lt_of_lt_of_le (zW b) (Nat.pow_le_pow_right (show 0 < 10 by omega) h2)
 rw [Nat.mod_eq_of_lt ha, Nat.mod_eq_of_lt hb] at h
 omega
theorem kC (a b : Nat) (w : World) (hsa : (dec a).size ≤ 100000) (hsb : (dec b).size ≤ 100000) :
  Calls Tryd.prog 58 #[.string (dec a), .string (dec b)] w fun e w' => e = .returned (.string (dec (a + b))) ∧ Below w.heap.size w w' := by
 obtain ⟨i0, hi, hz0, hz1, hz2⟩ := info_parts Tryd.infoInt
 obtain ⟨M, hM1, hM2, hM3⟩ : ∃ M, (dec a).size ≤ M ∧ (dec b).size ≤ M ∧ M ≤ 100000 := ⟨max (dec a).size (dec b).size, by omega, by omega, by omega⟩
 go_enter Tryd.func58, Tryd.ntmps58
 go_wp2
 go_loopw [5, 6, 7] (fun v l i wr => ∃ (k c : Nat) (xs : List Nat), k ≤ M + 1 ∧ k + c ≤ M + 1 ∧ i = .int .i64 k ∧ l = .int .i64 c ∧ c ≤ 1 ∧ xs.length = k ∧ wr.ownsRow w.heap.size 3 1 v k (ints xs) ∧ Below w.heap.size w wr ∧
   Hid (∀ d ∈ xs, d < 10) ∧ Hid (ofd 10 xs + c * 10 ^ k = a % 10 ^ k + b % 10 ^ k))
  (fun _ _ i _ => M + 1 - (intOf i).toNat)
 case atStart =>
  exact ⟨0, 0, [], by omega, by omega, rfl, rfl, by omega, rfl, World.ownsRow_made w #[] 0 (Nat.le_refl _) (by decide) (by simp), (Below.refl _ _).alloc (Nat.le_refl _) _, hide (by simp), hide (by simp [ofd, Nat.mod_one])⟩
 case round =>
  obtain ⟨k, c, xs, hk, hkc, rfl, rfl, hc, hxk, hown, hb, hdg, hval⟩ := hrel
  have hak : a / 10 ^ k % 10 < 10 := Nat.mod_lt _ (by omega)
  have hbk : b / 10 ^ k % 10 < 10 := Nat.mod_lt _ (by omega)
  have ha0 := vh a k
  have hb0 := vh b k
  generalize hga : a / 10 ^ k % 10 = ak at *
  generalize hgb : b / 10 ^ k % 10 = bk at *
  have Ha := hide hga
  have Hb := hide hgb
  clear hga hgb
  obtain ⟨d, hd⟩ : ∃ d : Nat, ((ak : Int) + bk + c) % 10 = d := ⟨(((ak : Int) + bk + c) % 10).toNat, by omega⟩
  obtain ⟨c', hc'⟩ : ∃ d : Nat, ((ak : Int) + bk + c) / 10 = d := ⟨(((ak : Int) + bk + c) / 10).toNat, by omega⟩
  have hdl : d < 10 := by omega
  have hcl : (dec a).size ≤ k → (dec b).size ≤ k → c' = 0 := fun h1 h2 => by have := ha0 h1; have := hb0 h2; omega
  have hkM : k < (dec a).size ∨ k < (dec b).size ∨ 0 < c → k + 1 + c' ≤ M + 1 := by
   intro h
   by_cases h1 : (dec a).size ≤ k
   ·by_cases h2 : (dec b).size ≤ k
    ·have := hcl h1 h2; omega
    ·omega
   ·omega
  have HkM := hide hkM
  clear hcl hkM ha0 hb0
  by_cases h1 : k < (dec a).size
  ·have hkm := za HkM (.inl h1)
   go_wp2_with fail
   refine (qN a k ak _ (za Ha) (by omega) (by omega)).mono ?_
   rintro e w1 ⟨rfl, rfl⟩
   go_wp2_with fail
   refine (qN b k bk _ (za Hb) (by omega) (by omega)).mono ?_
   rintro e w1 ⟨rfl, rfl⟩
   have hw := hb.size
   go_wp2_with (at_builtin; refine wpList_append_own _ rfl (.tmp 35) (.tmp 38) 41 rfl w.heap.size 3 i0 (.int .i64 0) 1 8 Tryd.underlying41 hi hz0 hz1 hz2 rfl (by decide) _ _ _ rfl (hown.alloc _) ⟨w1.heap.size, 0, none⟩ 1 1 [.int .i64 d] rfl rfl (cell_one_new _ _ _) (by intro u hu; simp at hu; subst hu; rfl) (by unfold maxLen; omega) (by omega) (by simp; omega) ?_; intro v2 w2 hown2 hg2 _)
   have hbX := zG (hb.alloc hw _) (hown.alloc _) hg2 (by simp; omega)
   go_roundw
   case rel => exact ⟨k + 1, c', xs ++ [d], by omega, by omega, by go_num, by rw [hc'], by omega, by simp [hxk], by rw [← qP]; exact hown2, hbX, qO hdg hdl, hide (by rw [zD, hxk]; exact vf (za hval) (za Ha) (za Hb) (by omega))⟩
   case measure => simp [intOf]; omega
  ·by_cases h2 : k < (dec b).size
   ·have hkm := za HkM (.inr (.inl h2))
    go_wp2_with fail
    refine (qN a k ak _ (za Ha) (by omega) (by omega)).mono ?_
    rintro e w1 ⟨rfl, rfl⟩
    go_wp2_with fail
    refine (qN b k bk _ (za Hb) (by omega) (by omega)).mono ?_
    rintro e w1 ⟨rfl, rfl⟩
    have hw := hb.size
    go_wp2_with (at_builtin; refine wpList_append_own _ rfl (.tmp 35) (.tmp 38) 41 rfl w.heap.size 3 i0 (.int .i64 0) 1 8 Tryd.underlying41 hi hz0 hz1 hz2 rfl (by decide) _ _ _ rfl (hown.alloc _) ⟨w1.heap.size, 0, none⟩ 1 1 [.int .i64 d] rfl rfl (cell_one_new _ _ _) (by intro u hu; simp at hu; subst hu; rfl) (by unfold maxLen; omega) (by omega) (by simp; omega) ?_; intro v2 w2 hown2 hg2 _)
    have hbX := zG (hb.alloc hw _) (hown.alloc _) hg2 (by simp; omega)
    go_roundw
    case rel => exact ⟨k + 1, c', xs ++ [d], by omega, by omega, by go_num, by rw [hc'], by omega, by simp [hxk], by rw [← qP]; exact hown2, hbX, qO hdg hdl, hide (by rw [zD, hxk]; exact vf (za hval) (za Ha) (za Hb) (by omega))⟩
    case measure => simp [intOf]; omega
   ·by_cases h3 : 0 < c
    ·have hkm := za HkM (.inr (.inr h3))
     go_wp2_with fail
     refine (qN a k ak _ (za Ha) (by omega) (by omega)).mono ?_
     rintro e w1 ⟨rfl, rfl⟩
     go_wp2_with fail
     refine (qN b k bk _ (za Hb) (by omega) (by omega)).mono ?_
     rintro e w1 ⟨rfl, rfl⟩
     have hw := hb.size
     go_wp2_with (at_builtin; refine wpList_append_own _ rfl (.tmp 35) (.tmp 38) 41 rfl w.heap.size 3 i0 (.int .i64 0) 1 8 Tryd.underlying41 hi hz0 hz1 hz2 rfl (by decide) _ _ _ rfl (hown.alloc _) ⟨w1.heap.size, 0, none⟩ 1 1 [.int .i64 d] rfl rfl (cell_one_new _ _ _) (by intro u hu; simp at hu; subst hu; rfl) (by unfold maxLen; omega) (by omega) (by simp; omega) ?_; intro v2 w2 hown2 hg2 _)
     have hbX := zG (hb.alloc hw _) (hown.alloc _) hg2 (by simp; omega)
     go_roundw
     case rel => exact ⟨k + 1, c', xs ++ [d], by omega, by omega, by go_num, by rw [hc'], by omega, by simp [hxk], by rw [← qP]; exact hown2, hbX, qO hdg hdl, hide (by rw [zD, hxk]; exact vf (za hval) (za Ha) (za Hb) (by omega))⟩
     case measure => simp [intOf]; omega
    ·have hc0 : c = 0 := by omega
     subst hc0
     go_wp2_with fail
     refine (vv xs _ _ (za hdg) (by omega) (ql (hxk ▸ hown) (Nat.zero_le _))).mono ?_
     rintro e w1 ⟨rfl, hb1⟩
     go_wp2
     go_ret
     exact ⟨zv (by rw [xR (Nat.le_of_not_lt h1) (Nat.le_of_not_lt h2) (za hval)]), hb.trans (hb1.mono hb.size)⟩
theorem B_tl (l : List UInt8) : (B l).toList = l := by rw [ByteArray.toList_eq, xh]
theorem yR : ∀ (l m : List Nat), l.length = m.length → (∀ d ∈ l, d < 10) → (∀ d ∈ m, d < 10) →
  Op.bytesLess (l.map sg) (m.map sg) = decide (ofd 10 l.reverse < ofd 10 m.reverse) := by
 intro l
 induction l with
 | nil => intro m h _ _; have : m = [] := List.eq_nil_of_length_eq_zero (by simpa using h.symm)
          subst this; simp [Op.bytesLess]
 | cons d r ih =>
  intro m h hl hm
  match m, h with
  | [], h => simp at h
  | c :: s, h =>
   have hrs : r.length = s.length := by simpa using h
   have hd := hl d (by simp)
   have hc := hm c (by simp)
   have hr := fun x hx => hl x (List.mem_cons_of_mem d hx)
   have hs := fun x hx => hm x (List.mem_cons_of_mem c hx)
   simp only [List.map_cons, Op.bytesLess, List.reverse_cons, ih s hrs hr hs]
   rw [zD, zD, List.length_reverse, List.length_reverse, ← hrs]
   have h1 := ju (b := 10) r.reverse (fun x hx => hr x (by simpa using hx))
   have h2 := ju (b := 10) s.reverse (fun x hx => hs x (by simpa using hx))
   rw [List.length_reverse] at h1 h2
   rw [← hrs] at h2
   generalize 10 ^ r.length = p at *
   have e1 : decide (sg d < sg c) = decide (d < c) := by
    simp only [UInt8.lt_iff_toNat_lt, zI (show d < 16 by omega), zI (show c < 16 by omega), if_pos hd, if_pos hc]; simp
   have e2 : (sg d == sg c) = decide (d = c) := by
    by_cases hdc : d = c
    ·subst hdc; simp
    ·have : sg d ≠ sg c := fun hh => hdc (Zd (by omega) (by omega) hh)
     simp [this, hdc]
   rw [e1, e2]
   rcases Nat.lt_trichotomy d c with hlt | heq | hgt
   ·have : p * (d + 1) ≤ p * c := Nat.mul_le_mul_left p hlt
    rw [Nat.mul_add] at this
    simp only [hlt, decide_true, Bool.true_or]
    symm; rw [decide_eq_true_iff]; omega
   ·subst heq; simp
   ·have : p * (c + 1) ≤ p * d := Nat.mul_le_mul_left p hgt
    rw [Nat.mul_add] at this
    have hn : ¬ d < c := by omega
    have hne : d ≠ c := by omega
    simp only [hn, hne, decide_false, Bool.false_and, Bool.or_false]
    symm; rw [decide_eq_false_iff_not]; omega
def hi10 (n : Nat) : List Nat := if n = 0 then [0] else (dg 10 n).reverse
theorem vI (n : Nat) : txl 10 n = (hi10 n).map sg := by
 unfold txl hi10; split
 ·simp [sg]
 ·rw [List.map_reverse]
theorem yh (n : Nat) : ∀ d ∈ hi10 n, d < 10 := by
 intro d hd; unfold hi10 at hd; split at hd
 ·simp at hd; omega
 ·exact dg_lt (by omega) n d (by simpa using hd)
theorem xG (n : Nat) : ofd 10 (hi10 n).reverse = n := by
 unfold hi10; split
 ·subst n; simp [ofd]
 ·rw [List.reverse_reverse, jt (by omega)]
theorem xj {a b : Nat} (h : (dec a).size = (dec b).size) : Op.bytesLess (dec a).toList (dec b).toList = decide (a < b) := by
 unfold dec txt
 rw [B_tl, B_tl, vI, vI, yR _ _ _ (yh a) (yh b), xG, xG]
 rw [zq, zq, vI, vI] at h
 simpa using h
theorem j6 (a b : Nat) : ((dec a).toList == (dec b).toList) = decide (a = b) := by
 by_cases h : a = b
 ·subst h; simp
 ·have : (dec a).toList ≠ (dec b).toList := by
   intro hh
   unfold dec txt at hh
   rw [B_tl, B_tl] at hh
   exact h (kH (by omega) (by omega) hh)
  simp [this, h]
theorem jV {a b : Nat} (h : (dec a).size < (dec b).size) : a < b := by
 rcases Nat.lt_or_ge a b with h1 | h1
 ·exact h1
 ·have := zB (b := 10) (by omega) (zU a) (Nat.lt_of_le_of_lt h1 (zW a))
  rw [← zq] at this; omega
def cmpN (a b : Nat) : Int := if a < b then -1 else if b < a then 1 else 0
theorem kD (a b : Nat) (w : World) (_hsa : (dec a).size ≤ 1000000000) (_hsb : (dec b).size ≤ 1000000000) :
  Calls Tryd.prog 108 #[.string (dec a), .string (dec b)] w fun e w' => e = .returned (.int .i64 (cmpN a b)) ∧ w' = w := by
 by_cases he : (dec a).size = (dec b).size
 ·have h1 := xj he
  have h2 := j6 a b
  have h0 : ((dec a).size != (dec b).size) = false := by simp [he]
  have hI : (((dec a).size : Int) != ((dec b).size : Int)) = false := by simp [he]
  rcases Nat.lt_trichotomy a b with hlt | heq | hgt
  ·have hr : cmpN a b = -1 := by simp [cmpN, hlt]
   rw [decide_eq_true hlt] at h1
   rw [hr]
   clear he h2 h0 hr
   go_enter Tryd.func108, Tryd.ntmps108
   go_wp2
   go_ret
   exact ⟨rfl, rfl⟩
  ·subst heq
   have hr : cmpN a a = 0 := by simp [cmpN]
   rw [decide_eq_false (by omega)] at h1
   rw [hr]
   clear he h0 hr
   go_enter Tryd.func108, Tryd.ntmps108
   go_wp2
   go_ret
   exact ⟨rfl, rfl⟩
  ·have hr : cmpN a b = 1 := by unfold cmpN; rw [if_neg (by omega), if_pos hgt]
   rw [decide_eq_false (by omega)] at h1 h2
   rw [hr]
   clear he h0 hr
   go_enter Tryd.func108, Tryd.ntmps108
   go_wp2
   go_ret
   exact ⟨rfl, rfl⟩
 ·have hI : (((dec a).size : Int) != ((dec b).size : Int)) = true := by rw [bne_iff_ne]; omega
  by_cases hlt : (dec a).size < (dec b).size
  ·have hr : cmpN a b = -1 := by simp [cmpN, jV hlt]
   rw [hr]
   clear he hr
   go_enter Tryd.func108, Tryd.ntmps108
   go_wp2
   go_ret
   exact ⟨rfl, rfl⟩
  ·have hgt := jV (a := b) (b := a) (by omega)
   have hr : cmpN a b = 1 := by unfold cmpN; rw [if_neg (by omega), if_pos hgt]
   rw [hr]
   clear he hr hgt
   go_enter Tryd.func108, Tryd.ntmps108
   go_wp2
   go_ret
   exact ⟨rfl, rfl⟩
def isDec (l : List UInt8) : Bool := l != [] && l.all (fun c => 48 ≤ c && c ≤ 57) && (l.length ≤ 1 || l.head? != some 48)
theorem qQ (n : Nat) : isDec (txl 10 n) = true := by
 have hall : (txl 10 n).all (fun c => 48 ≤ c && c ≤ 57) = true := by
  rw [List.all_eq_true]
  intro c hc
  rw [vI] at hc
  obtain ⟨d, hd, rfl⟩ := List.mem_map.1 hc
  have := yh n d hd
  simp only [Bool.and_eq_true, decide_eq_true_eq, UInt8.le_iff_toNat_le, zI (show d < 16 by omega), if_pos this]
  simp; omega
 have hne : txl 10 n ≠ [] := fun h => by have := qn (b := 10) (by omega) n; rw [h] at this; simp at this
 have hlead : (txl 10 n).length ≤ 1 ∨ (txl 10 n).head? ≠ some 48 := by
  have ht := y2 n
  cases hl : txl 10 n with
  | nil => left; simp
  | cons c r =>
   by_cases hr : r = []
   ·left; subst hr; simp
   ·right
    intro hc
    simp at hc
    subst hc
    rw [hl] at ht
    simp only [trim] at ht
    rw [if_pos ⟨trivial, hr⟩] at ht
    have := qK r
    have := congrArg List.length ht
    simp at this; omega
 unfold isDec
 simp only [bne_iff_ne, Bool.and_eq_true, Bool.or_eq_true, decide_eq_true_eq]
 exact ⟨⟨by simpa using hne, hall⟩, hlead⟩
def zj (l : List UInt8) : Nat := ofd 10 ((l.map fun c => c.toNat - 48).reverse)
theorem zz {l : List UInt8} (h : isDec l = true) : l = txl 10 (zj l) := by
 unfold isDec at h
 simp only [bne_iff_ne, Bool.and_eq_true, Bool.or_eq_true, decide_eq_true_eq] at h
 obtain ⟨⟨hne, hall⟩, hlead⟩ := h
 rw [List.all_eq_true] at hall
 have hc : ∀ c ∈ l, 48 ≤ c.toNat ∧ c.toNat ≤ 57 := by
  intro c hc; have := hall c hc
  simp only [Bool.and_eq_true, decide_eq_true_eq, UInt8.le_iff_toNat_le] at this
  simpa using this
 have hm : (l.map fun c => c.toNat - 48).map sg = l := by
  rw [List.map_map]
  have : ∀ c ∈ l, (sg ∘ fun c : UInt8 => c.toNat - 48) c = id c := by
   intro c hcl
   have := hc c hcl
   apply UInt8.toNat_inj.1
   simp only [Function.comp, id]
   rw [zI (by omega), if_pos (by omega)]; omega
  rw [List.map_congr_left this, List.map_id]
 have hd : ∀ d ∈ (l.map fun c => c.toNat - 48).reverse, d < 10 := by
  intro d hd
  rw [List.mem_reverse] at hd
  obtain ⟨c, hcl, rfl⟩ := List.mem_map.1 hd
  have := hc c hcl
  show c.toNat - 48 < 10
  omega
 have ht := qE _ hd (by simpa using hne)
 rw [List.map_reverse, List.reverse_reverse, hm] at ht
 unfold zj
 rw [← ht]
 symm
 apply ye
 rcases hlead with h1 | h1
 ·exact .inl h1
 ·right
  cases l with
  | nil => exact absurd rfl hne
  | cons c r => exact ⟨c, r, rfl, fun h => h1 (by simp [h])⟩
def isDig (c : UInt8) : Bool := 48 ≤ c && c ≤ 57
theorem vV (c : UInt8) : isDig c = true ↔ 48 ≤ c.toNat ∧ c.toNat ≤ 57 := by
 simp [isDig, UInt8.le_iff_toNat_le]
theorem qz {l : List UInt8} (k : Nat) (h : k < l.length) (hb : ¬ (48 ≤ l[k].toNat ∧ l[k].toNat ≤ 57)) : isDec l = false := by
 cases hd : isDec l with
 | false => rfl
 | true =>
  unfold isDec at hd
  simp only [bne_iff_ne, Bool.and_eq_true, Bool.or_eq_true, decide_eq_true_eq] at hd
  have := List.all_eq_true.1 hd.1.2 l[k] (List.getElem_mem h)
  exact absurd ((vV _).1 this) hb
theorem q4 {l : List UInt8} (h0 : 0 < l.length) (hl : l.length ≤ 1 ∨ l.head? ≠ some 48) (h : ∀ k (hk : k < l.length), 48 ≤ l[k].toNat ∧ l[k].toNat ≤ 57) : isDec l = true := by
 unfold isDec
 simp only [bne_iff_ne, Bool.and_eq_true, Bool.or_eq_true, decide_eq_true_eq]
 refine ⟨⟨fun hh => by rw [hh] at h0; simp at h0, ?_⟩, hl⟩
 rw [List.all_eq_true]
 intro c hc
 obtain ⟨k, hk, rfl⟩ := List.getElem_of_mem hc
 exact (vV _).2 (h k hk)
theorem qj (l : List UInt8) (w : World) (hs : l.length ≤ 1000000000) :
  Calls Tryd.prog 64 #[.string (B l)] w fun e w' => e = .returned (.bool (isDec l)) ∧ w' = w := by
 have hsz : (B l).size ≤ 1000000000 := by rw [zi]; exact hs
 have hI : ((B l).size : Int) = (l.length : Int) := by rw [zi]
 by_cases hz : l.length = 0
 ·have : l = [] := List.eq_nil_of_length_eq_zero hz
  subst this
  have h0 : (((B []).size : Int) == 0) = true := by simp [zi]
  clear hI hs hsz hz
  go_enter Tryd.func64, Tryd.ntmps64
  go_wp2
  go_ret
  exact ⟨rfl, rfl⟩
 ·have h0 : 0 < l.length := by omega
  have h0I : (((B l).size : Int) == 0) = false := by rw [beq_eq_false_iff_ne]; omega
  by_cases h1 : 1 < l.length
  ·have h1I : (1 : Int) < ((B l).size : Int) := by omega
   have hg0 : 0 < (B l).size := by omega
   have hg : ((B l)[0]'hg0).toNat = (l[0]'h0).toNat := by rw [B_get]
   by_cases hc : l[0]'h0 = 48
   ·have hq : ((((B l)[0]'hg0).toNat : Int) == 48) = true := by rw [hg, hc]; rfl
    have hf : isDec l = false := by
     cases hd : isDec l with
     | false => rfl
     | true =>
      unfold isDec at hd
      simp only [bne_iff_ne, Bool.and_eq_true, Bool.or_eq_true, decide_eq_true_eq] at hd
      rcases hd.2 with h2 | h2
      ·omega
      ·exact absurd (by rw [List.head?_eq_getElem?, List.getElem?_eq_getElem h0, hc]) h2
    rw [hf]
    clear hI hc hg hf hz
    go_enter Tryd.func64, Tryd.ntmps64
    go_wp2
    go_ret
    exact ⟨rfl, rfl⟩
   ·have hq : ((((B l)[0]'hg0).toNat : Int) == 48) = false := by
     rw [hg, beq_eq_false_iff_ne]
     intro hh
     apply hc
     apply UInt8.toNat_inj.1
     simp only [UInt8.toNat_ofNat]; omega
    have hl0 : Hid (l.length ≤ 1 ∨ l.head? ≠ some 48) := .inr (by
     rw [List.head?_eq_getElem?, List.getElem?_eq_getElem h0]
     intro hh; exact hc (by simpa using hh))
    clear hI hc hg hz
    go_enter Tryd.func64, Tryd.ntmps64
    go_wp2
    go_loop [3] (fun i => ∃ k : Nat, k ≤ l.length ∧ i = .int .i64 k ∧ Hid (∀ j (hj : j < l.length), j < k → 48 ≤ l[j].toNat ∧ l[j].toNat ≤ 57)) (fun i => l.length - (intOf i).toNat)
    case atStart => exact ⟨0, Nat.zero_le _, rfl, hide (fun j _ h => by omega)⟩
    case round =>
     clear hq
     obtain ⟨k, hk, rfl, hv⟩ := hrel
     by_cases hlt : k < l.length
     ·have hlt2 : k < (B l).size := by rw [zi]; exact hlt
      have hgk : ((B l)[k]'hlt2).toNat = (l[k]'hlt).toNat := by rw [B_get]
      by_cases h1 : ((l[k]'hlt).toNat : Int) < 48
      ·go_wp2
       go_ret
       exact ⟨zl (by rw [qz k hlt (by omega)]), rfl⟩
      ·by_cases h2 : 57 < ((l[k]'hlt).toNat : Int)
       ·go_wp2
        go_ret
        exact ⟨zl (by rw [qz k hlt (by omega)]), rfl⟩
       ·have h3 : 48 ≤ (l[k]'hlt).toNat ∧ (l[k]'hlt).toNat ≤ 57 := by omega
        have hv2 : Hid (∀ j (hj : j < l.length), j < k + 1 → 48 ≤ l[j].toNat ∧ l[j].toNat ≤ 57) := by
         intro j hj hjk
         by_cases hjk2 : j < k
         ·exact za hv j hj hjk2
         ·have : j = k := by omega
          subst this; exact h3
        go_wp2
        go_round
        case rel => exact ⟨k + 1, by omega, by go_num, hv2⟩
        case measure => simp [intOf]; omega
     ·have hlt2 : ¬ k < (B l).size := by rw [zi]; exact hlt
      have fin : isDec l = true := q4 h0 (za hl0) (fun j hj => za hv j hj (by omega))
      have Fin := hide fin
      clear fin
      go_wp2
      go_ret
      exact ⟨zl (za Fin).symm, rfl⟩
  ·have h1I : ¬ (1 : Int) < ((B l).size : Int) := by omega
   have hl0 : Hid (l.length ≤ 1 ∨ l.head? ≠ some 48) := .inl (by omega)
   clear hI hz
   go_enter Tryd.func64, Tryd.ntmps64
   go_wp2
   go_loop [3] (fun i => ∃ k : Nat, k ≤ l.length ∧ i = .int .i64 k ∧ Hid (∀ j (hj : j < l.length), j < k → 48 ≤ l[j].toNat ∧ l[j].toNat ≤ 57)) (fun i => l.length - (intOf i).toNat)
   case atStart => exact ⟨0, Nat.zero_le _, rfl, hide (fun j _ h => by omega)⟩
   case round =>
    obtain ⟨k, hk, rfl, hv⟩ := hrel
    by_cases hlt : k < l.length
    ·have hlt2 : k < (B l).size := by rw [zi]; exact hlt
     have hgk : ((B l)[k]'hlt2).toNat = (l[k]'hlt).toNat := by rw [B_get]
     by_cases h1 : ((l[k]'hlt).toNat : Int) < 48
     ·go_wp2
      go_ret
      exact ⟨zl (by rw [qz k hlt (by omega)]), rfl⟩
     ·by_cases h2 : 57 < ((l[k]'hlt).toNat : Int)
      ·go_wp2
       go_ret
       exact ⟨zl (by rw [qz k hlt (by omega)]), rfl⟩
      ·have h3 : 48 ≤ (l[k]'hlt).toNat ∧ (l[k]'hlt).toNat ≤ 57 := by omega
       have hv2 : Hid (∀ j (hj : j < l.length), j < k + 1 → 48 ≤ l[j].toNat ∧ l[j].toNat ≤ 57) := by
        intro j hj hjk
        by_cases hjk2 : j < k
        ·exact za hv j hj hjk2
        ·have : j = k := by omega
         subst this; exact h3
       go_wp2
       go_round
       case rel => exact ⟨k + 1, by omega, by go_num, hv2⟩
       case measure => simp [intOf]; omega
    ·have hlt2 : ¬ k < (B l).size := by rw [zi]; exact hlt
     have fin : isDec l = true := q4 h0 (za hl0) (fun j hj => za hv j hj (by omega))
     have Fin := hide fin
     clear fin
     go_wp2
     go_ret
     exact ⟨zl (za Fin).symm, rfl⟩
def digN (c : UInt8) : Nat := if 48 ≤ c.toNat ∧ c.toNat ≤ 57 then c.toNat - 48 else if 97 ≤ c.toNat ∧ c.toNat ≤ 102 then c.toNat - 87 else 99
theorem kR (c : UInt8) (w : World) :
  Calls Tryd.prog 95 #[.int .u8 c.toNat] w fun e w' => e = .returned (.int .i64 (digN c : Nat)) ∧ w' = w := by
 have hc : c.toNat < 256 := c.toNat_lt
 have hd : digN c = if 48 ≤ c.toNat ∧ c.toNat ≤ 57 then c.toNat - 48 else if 97 ≤ c.toNat ∧ c.toNat ≤ 102 then c.toNat - 87 else 99 := rfl
 generalize c.toNat = n at *
 generalize digN c = d at *
 by_cases h1 : 48 ≤ n ∧ n ≤ 57
 ·rw [if_pos h1] at hd
  have e : (n : Int) - 48 = (d : Int) := by omega
  obtain ⟨ha, hb⟩ := h1
  clear hd
  go_enter Tryd.func95, Tryd.ntmps95
  go_wp2
  go_ret
  exact ⟨qx (by omega), rfl⟩
 ·rw [if_neg h1] at hd
  by_cases h2 : 97 ≤ n ∧ n ≤ 102
  ·rw [if_pos h2] at hd
   obtain ⟨ha, hb⟩ := h2
   have e : (n : Int) - 97 + 10 = (d : Int) := by omega
   have hh : ¬ (n : Int) ≤ 57 := by omega
   clear hd h1
   go_enter Tryd.func95, Tryd.ntmps95
   go_wp2
   go_ret
   exact ⟨qx (by omega), rfl⟩
  ·rw [if_neg h2] at hd
   subst hd
   by_cases h3 : 48 ≤ n
   ·have h4 : ¬ (n : Int) ≤ 57 := by omega
    by_cases h5 : 97 ≤ n
    ·have h6 : ¬ (n : Int) ≤ 102 := by omega
     clear h1 h2
     go_enter Tryd.func95, Tryd.ntmps95
     go_wp2
     go_ret
     exact ⟨rfl, rfl⟩
    ·clear h1 h2
     go_enter Tryd.func95, Tryd.ntmps95
     go_wp2
     go_ret
     exact ⟨rfl, rfl⟩
   ·clear h1 h2
    go_enter Tryd.func95, Tryd.ntmps95
    go_wp2
    go_ret
    exact ⟨rfl, rfl⟩
theorem q7 {P : Program} {src dst e : TypeId} (hs : P.underlying src = some (.slice e)) (he : P.underlying e = some (.int .u8)) (hd : P.underlying dst = some .string) (W w1 : World) (d : Nat) (hd10 : d < 10)
  (hb : Below (W.heap.size + 1) (W.alloc (.cells #[.int .u8 (48 + (d : Int))] e)) w1) :
  (convert src dst (.slice (some ⟨W.heap.size, 0, none⟩) 1 1)).run P w1 = .ok (.string (B [sg d])) w1 := by
 have h0 := World.ownsRow_lit (base := 0) (e := e) (size := 1) W #[.int .u8 (48 + (d : Int))] 1 (Nat.zero_le _) (by decide) (by simp)
 have h1 := zt h0 (by simpa using hb)
 have e1 : (#[Value.int .u8 (48 + (d : Int))] : Array Value).toList = [sg d].map u8v := by simp [yF hd10]
 rw [e1] at h1
 exact zM hs he hd h1
theorem jl (b : Nat) (hb : 2 ≤ b) (n : Nat) (h : b ≤ n) : txl b n = txl b (n / b) ++ [sg (n % b)] := by
 have h0 : n ≠ 0 := by omega
 have hq : n / b ≠ 0 := by
  intro hh
  rcases Nat.div_eq_zero_iff.1 hh with h1 | h1 <;> omega
 rw [zV h0, qp hb (by omega), zV hq]; simp
theorem qo (b : Nat) (hb : 2 ≤ b) (n : Nat) (h : n < b) : txl b n = [sg n] := by
 by_cases h0 : n = 0
 ·subst h0; simp [zE, sg]
 ·rw [zV h0, qp hb (by omega), Nat.mod_eq_of_lt h, Nat.div_eq_of_lt h, zQ]; simp
theorem qe (n : Nat) (hn : n ≤ 9223372036854775807) (w : World) :
  Calls Tryd.prog 57 #[.int .i64 n] w fun e w' => e = .returned (.string (dec n)) ∧ Below w.heap.size w w' := by
 induction n using Nat.strongRecOn generalizing w with
 | _ n ih =>
  by_cases h : n < 10
  ·have hfin : B [sg n] = dec n := by rw [dec, txt, qo 10 (by omega) n h]
   have Fin := hide hfin
   have hconv := q7 (dst := 9) Tryd.underlying22 Tryd.underlying5 Tryd.underlying9 w _ n h (Below.refl _ _)
   clear ih hfin
   go_enter Tryd.func57, Tryd.ntmps57
   go_wp2
   go_ret
   exact ⟨zv (za Fin), (Below.refl _ _).alloc (Nat.le_refl _) _⟩
  ·have hlt : n / 10 < n := Nat.div_lt_self (by omega) (by omega)
   have hq := ih (n / 10) hlt (by omega)
   have hfin : dec (n / 10) ++ B [sg (n % 10)] = dec n := by
    unfold dec txt; rw [zu, ← jl 10 (by omega) n (by omega)]
   have Fin := hide hfin
   have Hq := hide hq
   have hm : n % 10 < 10 := Nat.mod_lt _ (by omega)
   have hconv := fun (W : World) => q7 (P := Tryd.prog) (src := 22) (dst := 9) Tryd.underlying22 Tryd.underlying5 Tryd.underlying9 W _ (n % 10) hm (Below.refl _ _)
   have hconv2 := fun (W w1 : World) => q7 (P := Tryd.prog) (src := 22) (dst := 9) Tryd.underlying22 Tryd.underlying5 Tryd.underlying9 W w1 (n % 10) hm
   clear ih hfin hq
   obtain ⟨q, hqd⟩ : ∃ q : Nat, n / 10 = q := ⟨_, rfl⟩
   obtain ⟨r, hrd⟩ : ∃ r : Nat, n % 10 = r := ⟨_, rfl⟩
   rw [hrd] at hconv hconv2 hm Fin
   rw [hqd] at Fin Hq hlt
   have e1 : (n : Int) / 10 = (q : Int) := by omega
   have e2 : (n : Int).tmod 10 = (r : Int) := by rw [Int.tmod_eq_emod_of_nonneg (by omega)]; omega
   have e3 := wi64 (q : Int) (by omega) (by omega)
   have e4 := wi64 (48 + (r : Int)) (by omega) (by omega)
   have e5 := wu8 (48 + (r : Int)) (by omega) (by omega)
   have hqs : (dec q).size ≤ 19 := by
    rw [zq]; exact zB (by omega) (by omega) (by omega)
   have hrs : (B [sg r]).size ≤ 1 := by rw [zi]; simp
   have hns : ¬ 9223372036854775807 < (dec q).size + (B [sg r]).size := by omega
   have hns2 : ¬ (9223372036854775807 < ((dec q).size : Int) + ((B [sg r]).size : Int)) := by omega
   clear hqd hrd
   go_enter Tryd.func57, Tryd.ntmps57
   go_wp2
   have hcv0 := hconv2 w (w.alloc (.cells #[.int .u8 (48 + (r : Int))] 5)).drew ((Below.refl _ _).drew)
   go_region_with (go_at_call 57; refine (za Hq _).mono ?_; rintro e w1 ⟨rfl, hb1⟩; try have hcv := hconv2 w w1 (qs (by simpa using hb1)))
   all_goals
    go_wp2
    go_ret
    refine ⟨zv (za Fin), ?_⟩
    first
     | exact (qs hb1).alloc hb1.size _
     | exact ((Below.refl _ _).alloc (Nat.le_refl _) _).trans ((qs hb1).mono (by simp))
theorem vp (l : List Nat) (j : Nat) (h : j < l.length) : (ints l)[j]? = some (.int .i64 (l[j] : Nat)) := by simp [ints, h]
theorem yO (l : List Nat) (j d : Nat) : (ints l).set j (.int .i64 (d : Int)) = ints (l.set j d) := by simp [ints, List.map_set]
theorem kQ (n : Nat) : List.replicate n (Value.int .i64 0) = ints (List.replicate n 0) := by simp [ints]
theorem vU (l : List Nat) (j d : Nat) (v : Int) (h : v = (d : Int)) : (ints l).set j (.int .i64 v) = ints (l.set j d) := by rw [h, yO]
theorem xC {xs : List Nat} {L j X : Nat} (hl : xs.length = L) (hj : j + 1 = L) (h : ∀ t (ht : t < xs.length), t < j → xs[t] < 10) (hX : ofd 10 xs = X) (hlt : X < 10 ^ L) : ∀ d ∈ xs, d < 10 := by
 intro d hd
 obtain ⟨t, ht, rfl⟩ := List.getElem_of_mem hd
 by_cases htj : t < j
 ·exact h t ht htj
 ·have htj2 : t = j := by omega
  subst htj2
  have h1 := xF 10 xs t ht
  rw [hX] at h1
  rw [← hj, Nat.pow_succ] at hlt
  have h2 : 10 ^ t * xs[t] < 10 ^ t * 10 := by omega
  exact Nat.lt_of_mul_lt_mul_left h2
theorem kd {a b i la lb L : Nat} (hla : (dec a).size = la) (hlb : (dec b).size = lb) (hL : la + lb = L) : a % 10 ^ (i + 1) * b < 10 ^ L := by
 have h1 := zW a
 have h2 := zW b
 rw [hla] at h1
 rw [hlb] at h2
 rw [← hL, Nat.pow_add 10 la lb]
 exact Nat.mul_lt_mul'' (Nat.lt_of_le_of_lt (Nat.mod_le _ _) h1) h2
theorem kX {xs : List Nat} {j x y q r X : Nat} (hj : j + 1 < xs.length) (hx : xs[j]'(by omega) = x) (hy : xs[j + 1] = y) (hq : x / 10 = q) (hr : x % 10 = r) (hX : ofd 10 xs = X) :
  ofd 10 ((xs.set (j + 1) (y + q)).set j r) = X := by
 have h1 := jA 10 xs (j + 1) (y + q) hj
 have h2 := jA 10 (xs.set (j + 1) (y + q)) j r (by rw [List.length_set]; omega)
 rw [List.getElem_set_ne (by omega), hx] at h2
 rw [hy, hX, ← hq] at h1
 rw [← hr, ← hq] at h2
 have := y6 h1 h2
 rw [← hq, ← hr]; exact this
abbrev rowOf (w : World) (L : Nat) : Value := .slice (some ⟨w.heap.size, 0, none⟩) L L
theorem ym (a b : Nat) (w : World) (hsa : (dec a).size ≤ 100000) (hsb : (dec b).size ≤ 100000) :
  Calls Tryd.prog 96 #[.string (dec a), .string (dec b)] w fun e w' => e = .returned (.string (dec (a * b))) ∧ Below w.heap.size w w' := by
 obtain ⟨i0, hi, hz0, hz1, hz2⟩ := info_parts Tryd.infoInt
 obtain ⟨la, hla⟩ : ∃ la, (dec a).size = la := ⟨_, rfl⟩
 obtain ⟨lb, hlb⟩ : ∃ lb, (dec b).size = lb := ⟨_, rfl⟩
 have Hla := hide hla
 have Hlb := hide hlb
 obtain ⟨L, hL⟩ : ∃ L, la + lb = L := ⟨_, rfl⟩
 have hLI : (la : Int) + lb = L := by omega
 have HL := hide hL
 have hlaI : ((dec a).size : Int) = la := by omega
 have hlbI : ((dec b).size : Int) = lb := by omega
 rw [hla] at hsa
 rw [hlb] at hsb
 have hLs : L ≤ 200000 := by omega
 have hlaL : la ≤ L := by omega
 clear hL
 go_enter Tryd.func96, Tryd.ntmps96
 go_wp2_with (refine wpList_make_full _ rfl (.tmp 13) (.tmp 13) 41 rfl w.heap.size 3 i0 (.int .i64 0) 1 Tryd.underlying41 hi hz0 hz1 .i64 .i64 L L L rfl rfl rfl rfl (by rw [hz2]; omega) (by unfold maxLen; omega) (Nat.le_refl _) ?_; intro w1 hown1 hg1)
 go_loopw [6, 7, 8] (fun i k j wr => ∃ (i' : Nat) (xs : List Nat), i' ≤ la ∧ i = .int .i64 i' ∧ xs.length = L ∧ wr.ownsRow w.heap.size 3 1 (rowOf w L) L (ints xs) ∧ Below w.heap.size w wr ∧
   Hid (∀ d ∈ xs, d < 10) ∧ Hid (ofd 10 xs = a % 10 ^ i' * b))
  (fun i _ _ _ => la - (intOf i).toNat)
 case atStart =>
  refine ⟨0, List.replicate L 0, Nat.zero_le _, rfl, by simp, ?_, (Below.refl _ _).grown hg1 (Nat.le_refl _) (fun _ h => by cases h), ?_, ?_⟩
  ·simpa [Value.cells, toList_madeCells_one, kQ] using hown1
  ·intro d hd; simp at hd; omega
  ·show _ = _; rw [zN]; simp [Nat.mod_one]
 case round =>
  clear hown1 hg1
  obtain ⟨i', xs, hi', rfl, hxl, hown, hb, hdg, hval⟩ := hrel
  by_cases hlt : i' < la
  ·have hai : a / 10 ^ i' % 10 < 10 := Nat.mod_lt _ (by omega)
   generalize hga : a / 10 ^ i' % 10 = ai at *
   have Ha := hide hga
   clear hga
   go_wp2
   go_loopw [7] (fun k wr => ∃ (k' : Nat) (xs : List Nat), k' ≤ lb ∧ k = .int .i64 k' ∧ xs.length = L ∧ wr.ownsRow w.heap.size 3 1 (rowOf w L) L (ints xs) ∧ Below w.heap.size w wr ∧
     Hid (∀ d ∈ xs, d ≤ 90) ∧ Hid (∀ j (h : j < xs.length), i' + k' ≤ j → xs[j] < 10) ∧ Hid (ofd 10 xs = a % 10 ^ i' * b + 10 ^ i' * (ai * (b % 10 ^ k'))))
    (fun k _ => lb - (intOf k).toNat)
   case atStart =>
    exact ⟨0, xs, Nat.zero_le _, rfl, hxl, hown, hb, hide (fun d hd => by have := za hdg d hd; omega), hide (fun j h _ => za hdg _ (List.getElem_mem h)), hide (by rw [za hval]; simp [Nat.mod_one])⟩
   case round =>
    clear hown hb hdg hval hxl
    clear xs
    obtain ⟨k', xs, hk', rfl, hxl, hown, hb, hdg, hup, hval⟩ := hrel
    by_cases hlt2 : k' < lb
    ·have hbk : b / 10 ^ k' % 10 < 10 := Nat.mod_lt _ (by omega)
     generalize hgb : b / 10 ^ k' % 10 = bk at *
     have Hb := hide hgb
     clear hgb
     have hjL : i' + k' < L := by omega
     have hx10 : xs[i' + k']'(by omega) < 10 := za hup _ (by omega) (Nat.le_refl _)
     have hcell := hown.cellAt (i' + k') (by omega)
     rw [vp _ _ (by omega)] at hcell
     have hfr := hown.frozenAt (i' + k')
     generalize hx : xs[i' + k']'(by omega) = x at *
     have Hx := hide hx
     have hmul : ai * bk ≤ 9 * 9 := Nat.mul_le_mul (by omega) (by omega)
     generalize hpp : ai * bk = pp at *
     have hppI : (ai : Int) * bk = pp := by rw [← hpp]; simp
     have Hpp := hide hpp
     clear hx hpp
     have hst := hown.stored (i' + k') (.int .i64 ((x : Int) + pp))
     rw [vU _ _ (x + pp) _ (by simp)] at hst
     have Hst := hide hst
     clear hst
     have e1 := wi64 ((i' : Int) + k') (by omega) (by omega)
     have e2 := wi64 (pp : Int) (by omega) (by omega)
     have e3 := wi64 ((x : Int) + pp) (by omega) (by omega)
     have e4 : ((i' : Int) + k').toNat = i' + k' := by omega
     have hix : (i' : Int) + k' < L := by omega
     go_wp2
     go_region_with (first | (go_at_call_of 102 (dec a); refine (qN a i' ai _ (za Ha) (by omega) (by omega)).mono ?_; rintro e w1 ⟨rfl, rfl⟩) | (go_at_call_of 102 (dec b); refine (qN b k' bk _ (za Hb) (by omega) (by omega)).mono ?_; rintro e w1 ⟨rfl, rfl⟩))
     all_goals
      go_wp2
      go_roundw
      case rel =>
       refine ⟨k' + 1, xs.set (i' + k') (x + pp), by omega, by go_num, by simpa using hxl, (za Hst).1, ?_, hide (qy (za hdg) (by omega)), ?_, ?_⟩
       ·first
        | exact (hb.setCell (by simp) _).drew
        | exact hb.setCell (by simp) _
       ·intro j hj hij
        rw [List.getElem_set_ne (by omega)]
        exact za hup j (by simpa using hj) (by omega)
       ·have hs := jA 10 xs (i' + k') (x + pp) (by omega)
        rw [za Hx, ← za Hpp] at hs
        have := xD (za Ha) (za Hb) (za hval) hs
        rw [za Hpp] at this
        exact this
      case measure => simp [intOf]; omega
    ·have hkl : k' = lb := by omega
     subst hkl
     have hlen := Nat.lt_of_le_of_lt (Nat.zero_le _) hlt
     go_wp2
     go_loopw [8] (fun j wr => ∃ (j' : Nat) (xs : List Nat), j' + 1 ≤ L ∧ j = .int .i64 j' ∧ xs.length = L ∧ wr.ownsRow w.heap.size 3 1 (rowOf w L) L (ints xs) ∧ Below w.heap.size w wr ∧
       Hid (∀ d ∈ xs, d ≤ 99) ∧ Hid (∀ t (h : t < xs.length), t < j' → xs[t] < 10) ∧ Hid (∀ t (h : t < xs.length), j' < t → xs[t] ≤ 90) ∧ Hid (ofd 10 xs = a % 10 ^ (i' + 1) * b))
      (fun j _ => L - (intOf j).toNat)
     case atStart =>
      refine ⟨0, xs, by omega, rfl, hxl, hown, hb, hide (fun d hd => by have := za hdg d hd; omega), hide (fun j h _ => by omega), hide (fun t ht _ => za hdg _ (List.getElem_mem ht)), ?_⟩
      show _ = _
      rw [za hval, ← x0 (za Ha)]
      have hbl := zW b
      rw [za Hlb] at hbl
      rw [Nat.mod_eq_of_lt hbl]
     case round =>
      clear hown hb hdg hval hxl hup
      clear xs
      obtain ⟨j', xs, hj', rfl, hxl, hown, hb, hdg, hlow, hhi, hval⟩ := hrel
      by_cases hlt3 : j' + 1 < L
      ·have hc0 := hown.cellAt j' (by omega)
       rw [vp _ _ (by omega)] at hc0
       have hc1 := hown.cellAt (j' + 1) (by omega)
       rw [vp _ _ (by omega)] at hc1
       have hf0 := hown.frozenAt j'
       have hf1 := hown.frozenAt (j' + 1)
       have hx99 : xs[j']'(by omega) ≤ 99 := za hdg _ (List.getElem_mem _)
       have hy90 : xs[j' + 1]'(by omega) ≤ 90 := za hhi _ (by omega) (by omega)
       generalize hx : xs[j']'(by omega) = x at *
       generalize hy : xs[j' + 1]'(by omega) = y at *
       have Hx := hide hx
       have Hy := hide hy
       clear hx hy
       obtain ⟨q, hq⟩ : ∃ q : Nat, (x : Int) / 10 = q := ⟨x / 10, by omega⟩
       obtain ⟨r, hr⟩ : ∃ r : Nat, (x : Int) % 10 = r := ⟨x % 10, by omega⟩
       have hqN : x / 10 = q := by omega
       have hrN : x % 10 = r := by omega
       have HqN := hide hqN
       have HrN := hide hrN
       clear hqN hrN
       have hq9 : q ≤ 9 := by omega
       have hr9 : r ≤ 9 := by omega
       have hq' : (x : Int).tdiv 10 = q := by rw [Int.tdiv_eq_ediv_of_nonneg (by omega)]; exact hq
       have hr' : (x : Int).tmod 10 = r := by rw [Int.tmod_eq_emod_of_nonneg (by omega)]; exact hr
       have hst := hown.stored (j' + 1) (.int .i64 ((y : Int) + q))
       rw [vU _ _ (y + q) _ (by simp)] at hst
       have hst2 := hst.1.stored j' (.int .i64 (r : Int))
       rw [yO] at hst2
       have Hst := hide hst2
       have e1 := wi64 ((j' : Int) + 1) (by omega) (by omega)
       have e2 := wi64 ((y : Int) + q) (by omega) (by omega)
       have e3 := wi64 (q : Int) (by omega) (by omega)
       have e4 : ((j' : Int) + 1).toNat = j' + 1 := by omega
       have hix : (j' : Int) + 1 < L := by omega
       clear hst hst2
       go_wp2
       go_region
       all_goals
        go_wp2
        go_roundw
        case rel =>
         refine ⟨j' + 1, (xs.set (j' + 1) (y + q)).set j' r, by omega, by go_num, by simpa using hxl, (za Hst).1, ((hb.setCell (by simp) _).setCell (by simp) _).drew, hide (qy (qy (za hdg) (by omega)) (by omega)), ?_, ?_, hide (kX (by omega) (za Hx) (za Hy) (za HqN) (za HrN) (za hval))⟩
         ·intro t ht htj
          by_cases hh : t = j'
          ·subst hh; rw [List.getElem_set_self]; omega
          ·rw [List.getElem_set_ne (by omega), List.getElem_set_ne (by omega)]
           exact za hlow t (by simpa using ht) (by omega)
         ·intro t ht htj
          rw [List.getElem_set_ne (by omega), List.getElem_set_ne (by omega)]
          exact za hhi t (by simpa using ht) (by omega)
        case measure => simp [intOf]; omega
      ·go_wp2
       go_roundw
       case rel =>
        have hjl : j' + 1 = L := by omega
        exact ⟨i' + 1, xs, by omega, by go_num, hxl, hown, hb, hide (xC hxl hjl (za hlow) (za hval) (kd (za Hla) (za Hlb) (za HL))), hval⟩
       case measure => simp [intOf]; omega
  ·have hil : i' = la := by omega
   subst hil
   go_wp2_with fail
   refine (vv xs _ _ (za hdg) (by omega) (by rw [hxl]; exact ql hown (Nat.zero_le _))).mono ?_
   rintro e w1 ⟨rfl, hb1⟩
   go_wp2
   go_ret
   have hal := zW a
   rw [za Hla] at hal
   have hv := za hval
   rw [Nat.mod_eq_of_lt hal] at hv
   exact ⟨zv (by rw [hv]), hb.trans (hb1.mono hb.size)⟩
theorem yP (l : List UInt8) (n : Nat) (w : World) (hs : l.length ≤ 1000000000) (h : trim l = txl 10 n) :
  Calls Tryd.prog 89 #[.string (B l)] w fun e w' => e = .returned (.string (dec n)) ∧ w' = w := by
 have := jd l w hs
 rw [h] at this
 exact this
theorem xb (R c : Nat) (hc : c < 10) : trim (txl 10 R ++ [sg c]) = txl 10 (10 * R + c) := by
 by_cases h : R = 0
 ·subst h
  rw [zE, Nat.mul_zero, Nat.zero_add, qo 10 (by omega) c hc]
  simp [trim]
 ·have := jl 10 (by omega) (10 * R + c) (by omega)
  rw [show (10 * R + c) / 10 = R from by omega, show (10 * R + c) % 10 = c from by omega] at this
  rw [← this, y2]
def pref (a i : Nat) : Nat := a / 10 ^ ((dec a).size - i)
theorem jo (a : Nat) : pref a 0 = 0 := Nat.div_eq_of_lt (zW a)
theorem jD (a : Nat) : pref a (dec a).size = a := by simp [pref]
theorem jR (a i : Nat) (h : i < (dec a).size) : pref a (i + 1) = 10 * pref a i + a / 10 ^ ((dec a).size - 1 - i) % 10 := by
 unfold pref
 rw [show (dec a).size - i = ((dec a).size - 1 - i) + 1 from by omega, show (dec a).size - (i + 1) = (dec a).size - 1 - i from by omega, Nat.pow_succ, ← Nat.div_div_eq_div_mul]
 omega
theorem xU (a i : Nat) (h : i < (dec a).size) : (dec a).extract i (i + 1) = B [sg (a / 10 ^ ((dec a).size - 1 - i) % 10)] := by
 have h1 : i < (txl 10 a).length := by rw [← zq]; exact h
 have e := y7 a ((txl 10 a).length - 1 - i) (by omega)
 rw [List.getElem_reverse] at e
 have e2 : (txl 10 a).length - 1 - ((txl 10 a).length - 1 - i) = i := by omega
 simp only [e2] at e
 rw [zq, ← e]
 unfold dec txt
 rw [zA, List.take_succ_eq_append_getElem h1, List.drop_append_of_le_length (by simp; omega)]
 simp
theorem xu {A b q R c m : Nat} (hq : A / b = q) (hR : A % b = R) (hm : (10 * R + c) / b = m) (hb : 0 < b) : (10 * A + c) / b = m + 10 * q ∧ (10 * A + c) % b = (10 * R + c) % b := by
 have hA := Nat.div_add_mod A b
 rw [hq, hR] at hA
 have e : 10 * A + c = 10 * R + c + b * (10 * q) := by
  rw [← hA, Nat.mul_add, Nat.mul_left_comm]; omega
 rw [e, Nat.add_mul_div_left _ _ hb, Nat.add_mul_mod_self_left, hm]
 exact ⟨rfl, rfl⟩
theorem xv {ρ m b X : Nat} (h : ρ + m * b = X) (hlt : ρ < b) : X / b = m ∧ X % b = ρ := by
 have hb : 0 < b := by omega
 rw [← h, Nat.mul_comm m b, Nat.add_mul_div_left _ _ hb, Nat.add_mul_mod_self_left, Nat.div_eq_of_lt hlt, Nat.mod_eq_of_lt hlt]
 exact ⟨by omega, rfl⟩
theorem ke {m b X ρ : Nat} (h : ρ + m * b = X) (hX : X < 10 * b) (hge : b ≤ ρ) : m + 1 ≤ 9 := by
 have h1 : (m + 1) * b < 10 * b := by rw [Nat.add_mul]; omega
 have := Nat.lt_of_mul_lt_mul_right h1
 omega
theorem qG {m n : Nat} (h : m ≤ n) : (dec m).size ≤ (dec n).size := by
 have := zB (b := 10) (by omega) (zU n) (Nat.lt_of_le_of_lt h (zW n))
 rw [zq m]; exact this
theorem jw {ρ b : Nat} (h : ρ < 10 * b) : (dec ρ).size ≤ (dec b).size + 1 := by
 rw [zq ρ]
 apply zB (by omega) (by omega)
 have := zW b
 rw [Nat.pow_succ]; omega
theorem x8 {a b : Nat} (h : b ≤ a) : 0 ≤ cmpN a b := by unfold cmpN; rw [if_neg (by omega)]; split <;> omega
theorem x9 {a b : Nat} (h : a < b) : cmpN a b < 0 := by unfold cmpN; rw [if_pos h]; omega
theorem j7 (a b : Nat) (w : World) (hb0 : 0 < b) (hsa : (dec a).size ≤ 50000) (hsb : (dec b).size ≤ 50000) :
  Calls Tryd.prog 97 #[.string (dec a), .string (dec b)] w fun e w' => e = .returned (.tuple #[.string (dec (a / b)), .string (dec (a % b))]) ∧ Below w.heap.size w w' := by
 obtain ⟨i0, hi, hz0, hz1, hz2⟩ := info_parts Tryd.infoByte
 go_enter Tryd.func97, Tryd.ntmps97
 go_wp2
 go_loopw [6, 7, 8, 9] (fun q r i _ wr => ∃ (i' R : Nat) (Q : List Nat), i' ≤ (dec a).size ∧ i = .int .i64 i' ∧ r = .string (dec R) ∧ R < b ∧ Q.length = i' ∧ wr.ownsRow w.heap.size 5 1 q i' ((Q.map sg).map u8v) ∧ Below w.heap.size w wr ∧
   Hid (∀ d ∈ Q, d < 10) ∧ Hid (pref a i' / b = ofd 10 Q.reverse) ∧ Hid (pref a i' % b = R))
  (fun _ _ i _ _ => (dec a).size - (intOf i).toNat)
 case atStart =>
  refine ⟨0, 0, [], Nat.zero_le _, rfl, rfl, hb0, rfl, World.ownsRow_made w #[] 0 (Nat.le_refl _) (by decide) (by simp), (Below.refl _ _).alloc (Nat.le_refl _) _, hide (by simp), ?_, ?_⟩
  ·show _ = _; rw [jo]; simp [ofd]
  ·show _ = _; rw [jo]; simp
 case round =>
  obtain ⟨i', R, Q, hi', rfl, rfl, hR, hQl, hown, hb, hdg, hqv, hrv⟩ := hrel
  by_cases hlt : i' < (dec a).size
  ·have hc : a / 10 ^ ((dec a).size - 1 - i') % 10 < 10 := Nat.mod_lt _ (by omega)
   have hcut := xU a i' hlt
   have hps := jR a i' hlt
   generalize a / 10 ^ ((dec a).size - 1 - i') % 10 = c at *
   have Hps := hide hps
   clear hps
   have hRs : (dec R).size ≤ (dec b).size := qG (by omega)
   have hcs : (B [sg c]).size ≤ 1 := by rw [zi]; simp
   have hcat : dec R ++ B [sg c] = B (txl 10 R ++ [sg c]) := by unfold dec txt; rw [zu]
   have hlen : (txl 10 R ++ [sg c]).length ≤ 1000000000 := by rw [List.length_append, ← zq]; simp; omega
   have hns : ¬ 9223372036854775807 < (dec R).size + (B [sg c]).size := by omega
   have Htp := hide (xb R c hc)
   go_wp2_with fail
   refine (yP _ (10 * R + c) _ hlen (za Htp)).mono ?_
   rintro e w1 ⟨rfl, rfl⟩
   go_wp2_with fail
   have hX : 10 * R + c < 10 * b := by omega
   generalize hXd : 10 * R + c = X at *
   have HXd := hide hXd
   clear hXd hcut hcat hns Htp hlen
   go_loopw [7, 9] (fun r n wr => ∃ (ρ m : Nat), r = .string (dec ρ) ∧ n = .int .u8 (48 + (m : Int)) ∧ m ≤ 9 ∧ ρ < 10 * b ∧ wr.ownsRow w.heap.size 5 1 u6 i' ((Q.map sg).map u8v) ∧ Below w.heap.size w wr ∧ Hid (ρ + m * b = X))
    (fun _ n _ => 60 - (intOf n).toNat)
   case atStart => exact ⟨X, 0, rfl, rfl, by omega, hX, hown, hb, hide (by simp)⟩
   case round =>
    clear hown hb
    obtain ⟨ρ, m, rfl, rfl, hm9, hρ, hown, hb, hinv⟩ := hrel
    have hρs := jw hρ
    by_cases hge : b ≤ ρ
    ·have hcg := x8 hge
     have hm1 := ke (za hinv) hX hge
     go_wp2_with fail
     refine (kD ρ b _ (by omega) (by omega)).mono ?_
     rintro e w1 ⟨rfl, rfl⟩
     go_wp2_with fail
     refine (xY ρ b _ hge (by omega)).mono ?_
     rintro e w2 ⟨rfl, hb2⟩
     go_wp2_with fail
     go_roundw
     case rel =>
      exact ⟨ρ - b, m + 1, rfl, by go_num, by omega, by omega, zt hown hb2, hb.trans (hb2.mono hb.size), hide (by have := za hinv; rw [Nat.add_mul]; omega)⟩
     case measure => simp [intOf]; omega
    ·have hρb : ρ < b := by omega
     have hcl := x9 hρb
     go_wp2_with fail
     refine (kD ρ b _ (by omega) (by omega)).mono ?_
     rintro e w1 ⟨rfl, rfl⟩
     have hw := hb.size
     go_wp2_with (at_builtin; refine wpList_append_own _ rfl (.tmp 34) (.tmp 36) 22 rfl w.heap.size 5 i0 (.int .u8 0) 1 1 Tryd.underlying22 hi hz0 hz1 hz2 rfl (by decide) _ _ _ rfl (hown.alloc _) ⟨w1.heap.size, 0, none⟩ 1 1 [.int .u8 (48 + (m : Int))] rfl rfl (cell_one_new _ _ _) (by intro u hu; simp at hu; subst hu; rfl) (by unfold maxLen; omega) (by omega) (by simp; omega) ?_; intro v2 w2 hown2 hg2 _)
     have hbX := zG (hb.alloc hw _) (hown.alloc _) hg2 (by simp <;> omega)
     have hds := xv (za hinv) hρb
     have hpush := xu (c := c) (m := m) (za hqv) (za hrv) (by rw [za HXd]; exact hds.1) hb0
     go_roundw
     case rel =>
      refine ⟨i' + 1, ρ, Q ++ [m], by omega, by go_num, rfl, hρb, by simp [hQl], ?_, hbX, qO hdg (by omega), ?_, ?_⟩
      ·rw [List.map_append, List.map_append]
       simp only [List.map_cons, List.map_nil, yF (show m < 10 by omega)]
       exact hown2
      ·show _ = _
       rw [za Hps, hpush.1, List.reverse_append]; simp [ofd]
      ·show _ = _
       rw [za Hps, hpush.2, za HXd]; exact hds.2
     case measure => simp [intOf]; omega
  ·have hil : i' = (dec a).size := by omega
   subst hil
   have hQ0 : Q ≠ [] := fun h => by have := zU a; rw [h] at hQl; simp at hQl; omega
   have hconv := zM (dst := 9) Tryd.underlying22 Tryd.underlying5 Tryd.underlying9 hown
   have htr : trim (Q.map sg) = txl 10 (a / b) := by
    have h1 := qE Q.reverse (fun d hd => za hdg d (by simpa using hd)) (by simpa using hQ0)
    rw [List.map_reverse, List.reverse_reverse] at h1
    rw [h1, ← za hqv, jD]
   have Htr := hide htr
   have hrv2 := za hrv
   rw [jD] at hrv2
   have Hrv2 := hide hrv2
   clear hrv2 htr
   go_wp2_with fail
   refine (yP _ (a / b) _ (by simp; omega) (za Htr)).mono ?_
   rintro e w1 ⟨rfl, rfl⟩
   go_wp2
   go_ret2
   exact ⟨by rw [za Hrv2]; rfl, hb⟩
theorem zC (n : Nat) : zj (txl 10 n) = n := by
 have := zz (qQ n)
 exact (kH (by omega) (by omega) this).symm
theorem yj (a b : Nat) (w : World) (hsa : (dec a).size ≤ 50000) (hsb : (dec b).size ≤ 50000) :
  Calls Tryd.prog 65 #[.string (dec a), .string (dec b)] w fun e w' => e = .returned (.string (dec (Nat.gcd a b))) ∧ Below w.heap.size w w' := by
 go_enter Tryd.func65, Tryd.ntmps65
 go_wp2
 go_loopw [0, 1] (fun x y wr => ∃ (a' b' : Nat), x = .string (dec a') ∧ y = .string (dec b') ∧ (dec a').size ≤ 50000 ∧ (dec b').size ≤ 50000 ∧ Below w.heap.size w wr ∧ Hid (Nat.gcd a' b' = Nat.gcd a b))
  (fun _ y _ => zj (match y with | .string s => s.data.toList | _ => []))
 case atStart => exact ⟨a, b, rfl, rfl, hsa, hsb, Below.refl _ _, hide rfl⟩
 case round =>
  obtain ⟨a', b', rfl, rfl, ha', hb', hb, hg⟩ := hrel
  by_cases hz : b' = 0
  ·subst hz
   have h0 : ((dec 0).toList == [48]) = true := by unfold dec txt; rw [B_tl, zE]; rfl
   go_wp2
   go_ret
   have := za hg
   rw [Nat.gcd_zero_right] at this
   exact ⟨zv (by rw [this]), hb⟩
  ·have h0 : ((dec b').toList == [48]) = false := by
    have := j6 b' 0
    rw [decide_eq_false hz] at this
    rw [show (dec 0).toList = [48] from by unfold dec txt; rw [B_tl, zE]] at this
    exact this
   go_wp2_with fail
   refine (j7 a' b' _ (by omega) ha' hb').mono ?_
   rintro e w1 ⟨rfl, hb1⟩
   go_wp2_with fail
   go_roundw
   case rel =>
    refine ⟨b', a' % b', rfl, rfl, hb', ?_, hb.trans (hb1.mono hb.size), hide ?_⟩
    ·have := qG (Nat.le_of_lt (Nat.mod_lt a' (show 0 < b' by omega))); omega
    ·rw [Nat.gcd_comm b', ← Nat.gcd_rec b' a', Nat.gcd_comm, za hg]
   case measure =>
    show zj (txl 10 (a' % b')) < zj (txl 10 b')
    rw [zC, zC]
    exact Nat.mod_lt _ (by omega)
def rdN (b : Nat) (l : List UInt8) : Nat := l.foldl (fun n c => n * b + digN c) 0
def okN (b : Nat) (l : List UInt8) : Bool := !l.isEmpty && l.all (fun c => digN c < b)
theorem jE (b : Nat) (l : List UInt8) (c : UInt8) : rdN b (l ++ [c]) = rdN b l * b + digN c := by simp [rdN]
theorem kp (b : Nat) (l : List UInt8) (h : ∀ c ∈ l, digN c < b) : rdN b l < b ^ l.length := by
 have key : ∀ (n : Nat) (l : List UInt8), l.length = n → (∀ c ∈ l, digN c < b) → rdN b l < b ^ n := by
  intro n
  induction n with
  | zero => intro l hl _; have : l = [] := List.eq_nil_of_length_eq_zero hl
            subst this; simp [rdN]
  | succ n ih =>
   intro l hl hc
   have hne : l ≠ [] := fun hh => by rw [hh] at hl; simp at hl
   have e := List.dropLast_concat_getLast hne
   rw [← e, jE]
   have h1 := ih l.dropLast (by simp [hl]) (fun c hc' => hc c (List.dropLast_subset l hc'))
   have h2 := hc (l.getLast hne) (List.getLast_mem hne)
   rw [Nat.pow_succ]
   have h3 : (rdN b l.dropLast + 1) * b ≤ b ^ n * b := Nat.mul_le_mul_right b h1
   rw [Nat.add_mul] at h3
   omega
 exact key l.length l rfl h
theorem qX {n b k : Nat} (hb : b ≤ 16) (h : n < b ^ k) : (dec n).size ≤ 2 * k + 1 := by
 rw [zq]
 apply zB (by omega) (by omega)
 have h1 : b ^ k ≤ 100 ^ k := Nat.pow_le_pow_left (by omega) k
 have h2 : (100 : Nat) ^ k = 10 ^ (2 * k) := by rw [Nat.pow_mul]
 have h3 : (10 : Nat) ^ (2 * k) ≤ 10 ^ (2 * k + 1) := Nat.pow_le_pow_right (by omega) (by omega)
 omega
theorem zF {n : Nat} (h : n < 1000) : (dec n).size ≤ 3 := by rw [zq]; exact zB (by omega) (by omega) (by omega)
theorem vF (l : List UInt8) (k : Nat) (h : k < l.length) : l.take (k + 1) = l.take k ++ [l[k]] := List.take_succ_eq_append_getElem h
theorem yr {b : Nat} {l : List UInt8} (k : Nat) (h : k < l.length) (hb : b ≤ digN l[k]) : okN b l = false := by
 cases hh : okN b l with
 | false => rfl
 | true =>
  unfold okN at hh
  simp only [Bool.and_eq_true] at hh
  have := List.all_eq_true.1 hh.2 l[k] (List.getElem_mem h)
  simp at this; omega
theorem jB {b : Nat} {l : List UInt8} (h0 : 0 < l.length) (h : ∀ c ∈ l, digN c < b) : okN b l = true := by
 unfold okN
 simp only [Bool.and_eq_true]
 refine ⟨?_, List.all_eq_true.2 (fun c hc => by simpa using h c hc)⟩
 cases l with
 | nil => simp at h0
 | cons _ _ => rfl
def natV (b : Nat) (l : List UInt8) : Nat := if okN b l then rdN b l else 0
def z8 (b : Nat) (l : List UInt8) : Value := .tuple #[.string (dec (natV b l)), .bool (okN b l)]
theorem qk (l : List UInt8) (b : Nat) (w : World) (hb2 : 2 ≤ b) (hb16 : b ≤ 16) (hs : l.length ≤ 10000) :
  Calls Tryd.prog 46 #[.string (B l), .int .i64 b] w fun e w' => e = .returned (z8 b l) ∧ Below w.heap.size w w' := by
 have hsz : (B l).size ≤ 10000 := by rw [zi]; exact hs
 have hd0 : dec 0 = ⟨#[48]⟩ := by unfold dec txt; rw [zE]; rfl
 have Hd0 := hide hd0
 clear hd0
 by_cases hz : l.length = 0
 ·have : l = [] := List.eq_nil_of_length_eq_zero hz
  subst this
  clear hs hsz hz
  have h0 : ((B []).toList == []) = true := by rw [B_tl]; rfl
  have h1 : (B []).toList.isEmpty = true := by rw [B_tl]; rfl
  go_enter Tryd.func46, Tryd.ntmps46
  go_wp2
  go_ret2
  refine ⟨?_, Below.refl _ _⟩
  unfold z8 natV
  simp [okN, za Hd0]
 ·have hne : l ≠ [] := fun hh => by rw [hh] at hz; simp at hz
  have h1 : (B l).toList.isEmpty = false := by rw [B_tl]; simpa using hne
  go_enter Tryd.func46, Tryd.ntmps46
  go_wp2
  go_loopw [6, 7] (fun n i wr => ∃ k : Nat, k ≤ l.length ∧ i = .int .i64 k ∧ n = .string (dec (rdN b (l.take k))) ∧ Below w.heap.size w wr ∧ Hid (∀ c ∈ l.take k, digN c < b))
   (fun _ i _ => l.length - (intOf i).toNat)
  case atStart =>
   exact ⟨0, Nat.zero_le _, rfl, by rw [List.take_zero]; simp [rdN, za Hd0], Below.refl _ _, hide (by simp)⟩
  case round =>
   obtain ⟨k, hk, rfl, rfl, hb, hdg⟩ := hrel
   by_cases hlt : k < l.length
   ·have hlt2 : k < (B l).size := by rw [zi]; exact hlt
    have hgk : ((B l)[k]'hlt2).toNat = (l[k]'hlt).toNat := by rw [B_get]
    have hbad := @yr b l k hlt
    have hsn := vF l k hlt
    have hlk := kp b (l.take k) (za hdg)
    rw [List.length_take, Nat.min_eq_left hk] at hlk
    have hsk := qX hb16 hlk
    generalize hn : rdN b (l.take k) = n at *
    have Hn := hide hn
    generalize hcc : l[k]'hlt = c at *
    have Hbad := hide hbad
    have Hsn := hide hsn
    clear hbad hsn hlk hn hcc
    go_wp2_with fail
    refine (kR c _).mono ?_
    rintro e w1 ⟨rfl, rfl⟩
    have hdc : digN c < 100 := by unfold digN; split <;> (try split) <;> omega
    by_cases hge : b ≤ digN c
    ·go_wp2
     go_ret2
     refine ⟨?_, hb⟩
     unfold z8 natV
     rw [za Hbad hge]
     simp [za Hd0]
    ·go_wp2_with fail
     refine (qe b (by omega) _).mono ?_
     rintro e w2 ⟨rfl, hb2'⟩
     go_wp2_with fail
     have hbs := zF (n := b) (by omega)
     have hds := zF (n := digN c) (by omega)
     refine (ym n b _ (by omega) (by omega)).mono ?_
     rintro e w3 ⟨rfl, hb3⟩
     go_wp2_with fail
     refine (qe (digN c) (by omega) _).mono ?_
     rintro e w4 ⟨rfl, hb4⟩
     have hsm : (dec (n * b)).size ≤ 100000 := by
      have h1 : n * b < 10 ^ ((dec n).size + (dec b).size) := by
       rw [Nat.pow_add]; exact Nat.mul_lt_mul'' (zW n) (zW b)
      have := zU n
      have := zB (b := 10) (by omega) (by omega) h1
      rw [zq]; omega
     go_wp2_with fail
     refine (kC (n * b) (digN c) _ hsm (by omega)).mono ?_
     rintro e w5 ⟨rfl, hb5⟩
     go_wp2_with fail
     have hbX := (((hb.trans (hb2'.mono hb.size)).trans (hb3.mono (by have := hb.size; have := hb2'.size; omega))).trans (hb4.mono (by have := hb.size; have := hb2'.size; have := hb3.size; omega))).trans (hb5.mono (by have := hb.size; have := hb2'.size; have := hb3.size; have := hb4.size; omega))
     go_roundw
     case rel =>
      refine ⟨k + 1, by omega, by go_num, ?_, hbX, ?_⟩
      ·rw [za Hsn, jE, za Hn]
      ·show ∀ x ∈ _, _
       rw [za Hsn]
       intro x hx
       rcases List.mem_append.1 hx with h | h
       ·exact za hdg x h
       ·simp at h; subst h; omega
     case measure => simp [intOf]; omega
   ·have hkl : k = l.length := by omega
    subst hkl
    have hlt2 : ¬ l.length < (B l).size := by rw [zi]; omega
    have htk : l.take l.length = l := List.take_length
    have hok := jB (show 0 < l.length by omega) (by have := za hdg; rwa [htk] at this)
    have Hok := hide hok
    have Htk := hide htk
    clear hok htk
    go_wp2
    go_ret2
    refine ⟨?_, hb⟩
    unfold z8 natV
    rw [za Hok]
    simp [List.take_length]
end Go.Proofs.YtcnnicbaeicboaaDoor
