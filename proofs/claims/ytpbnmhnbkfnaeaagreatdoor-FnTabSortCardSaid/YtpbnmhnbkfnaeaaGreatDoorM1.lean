/- A part of the proof, put together out of smaller texts. -/
import Derived.Test.YtpbnmhnbkfnaeaaGreatDoorRows
import Derived.Below
import Derived.WalkKit
import Derived.WalkSpells
import Derived.WalkLawsBesides
import Derived.Deep.QuietTactic
import Derived.BigQuiet
import Derived.Deep.RegionHeld3
import Derived.Deep.AppendLies
set_option maxRecDepth 100000
set_option maxHeartbeats 32000000
namespace Go.Proofs.YtpbnmhnbkfnaeaaGreatDoor.Nt
def ofd (b : Nat) : List Nat → Nat
 | [] => 0
 | d :: r => d + b * ofd b r
def dgf (b : Nat) : Nat → Nat → List Nat
 | 0, _ => []
 | f + 1, n => if n = 0 then [] else n % b :: dgf b f (n / b)
def dg (b n : Nat) : List Nat := dgf b n n
theorem V2 {b : Nat} (hb : 2 ≤ b) : ∀ (f g n : Nat), n ≤ f → n ≤ g → dgf b f n = dgf b g n := by
 intro f
 induction f with
 | zero => intro g n h1 h2; have : n = 0 := by omega
           subst this; cases g <;> simp [dgf]
 | succ f ih =>
  intro g n h1 h2
  cases g with
  | zero => have : n = 0 := by omega
            subst this; simp [dgf]
  | succ g =>
   simp only [dgf]
   by_cases h : n = 0
   ·simp [h]
   ·have hlt : n / b < n := Nat.div_lt_self (by omega) (by omega)
    simp only [h, if_false]
    rw [ih g (n / b) (by omega) (by omega)]
theorem qJ (b : Nat) : dg b 0 = [] := by simp [dg, dgf]
theorem jQ {b n : Nat} (hb : 2 ≤ b) (hn : 0 < n) : dg b n = n % b :: dg b (n / b) := by
 unfold dg
 cases n with
 | zero => omega
 | succ m =>
  have hlt : (m + 1) / b < m + 1 := Nat.div_lt_self (by omega) (by omega)
  simp only [dgf]
  rw [if_neg (by omega), V2 hb m ((m + 1) / b) ((m + 1) / b) (by omega) (by omega)]
theorem yB {b : Nat} (hb : 2 ≤ b) : ∀ n, ofd b (dg b n) = n := by
 intro n
 induction n using Nat.strongRecOn with
 | _ n ih =>
  by_cases h : n = 0
  ·subst h; simp [qJ, ofd]
  ·rw [jQ hb (by omega), ofd, ih _ (Nat.div_lt_self (by omega) (by omega))]
   exact Nat.mod_add_div n b
theorem dg_lt {b : Nat} (hb : 2 ≤ b) : ∀ n, ∀ d ∈ dg b n, d < b := by
 intro n
 induction n using Nat.strongRecOn with
 | _ n ih =>
  by_cases h : n = 0
  ·subst h; simp [qJ]
  ·rw [jQ hb (by omega)]
   intro d hd
   rcases List.mem_cons.1 hd with rfl | hd
   ·exact Nat.mod_lt _ (by omega)
   ·exact ih _ (Nat.div_lt_self (by omega) (by omega)) d hd
def can (b : Nat) (l : List Nat) : Prop := (∀ d ∈ l, d < b) ∧ (∀ d, l.getLast? = some d → d ≠ 0)
theorem yr {b : Nat} (hb : 2 ≤ b) : ∀ l, can b l → l ≠ [] → 0 < ofd b l := by
 intro l
 induction l with
 | nil => intro _ h; exact absurd rfl h
 | cons d r ih =>
  intro hc _
  simp only [ofd]
  by_cases hr : r = []
  ·subst hr
   have := hc.2 d (by simp)
   simp only [ofd]; omega
  ·have hc' : can b r := ⟨fun x hx => hc.1 x (List.mem_cons_of_mem _ hx), fun x hx => hc.2 x (by rw [List.getLast?_cons]; rw [hx]; rfl)⟩
   have h1 := ih hc' hr
   have h2 := Nat.mul_pos (show 0 < b by omega) h1
   omega
theorem XF {b d : Nat} {r : List Nat} (h : can b (d :: r)) : can b r :=
 ⟨fun x hx => h.1 x (List.mem_cons_of_mem _ hx), fun x hx => h.2 x (by rw [List.getLast?_cons]; rw [hx]; rfl)⟩
theorem zak {b : Nat} (hb : 2 ≤ b) : ∀ l, can b l → dg b (ofd b l) = l := by
 intro l
 induction l with
 | nil => intro _; simp [ofd, qJ]
 | cons d r ih =>
  intro hc
  have hp := yr hb (d :: r) hc (by simp)
  have hd : d < b := hc.1 d (by simp)
  rw [jQ hb hp]
  simp only [ofd]
  rw [Nat.add_mul_mod_self_left, Nat.mod_eq_of_lt hd, Nat.add_mul_div_left _ _ (by omega), Nat.div_eq_of_lt hd, Nat.zero_add, ih (XF hc)]
theorem zaw {b : Nat} (hb : 2 ≤ b) : ∀ n, can b (dg b n) := by
 intro n
 refine ⟨dg_lt hb n, ?_⟩
 induction n using Nat.strongRecOn with
 | _ n ih =>
  by_cases h : n = 0
  ·subst h; simp [qJ]
  ·rw [jQ hb (by omega)]
   intro d hd
   have hlt : n / b < n := Nat.div_lt_self (by omega) (by omega)
   by_cases hr : dg b (n / b) = []
   ·rw [hr] at hd
    simp at hd
    have hz : n / b = 0 := by rw [← yB hb (n / b), hr]; rfl
    rcases (Nat.div_eq_zero_iff).1 hz with h0 | h0
    ·omega
    ·rw [← hd, Nat.mod_eq_of_lt h0]; omega
   ·rw [List.getLast?_cons] at hd
    have : (dg b (n / b)).getLast? = some d := by
     cases hg : (dg b (n / b)).getLast? with
     | none => exact absurd (List.getLast?_eq_none_iff.1 hg) hr
     | some y => rw [hg] at hd; simpa using hd
    exact ih _ hlt d this
theorem jD (b : Nat) (l m : List Nat) : ofd b (l ++ m) = ofd b l + b ^ l.length * ofd b m := by
 induction l with
 | nil => simp [ofd]
 | cons d r ih => simp only [List.cons_append, ofd, ih, List.length_cons, Nat.pow_succ]; rw [Nat.mul_add, ← Nat.add_assoc, Nat.mul_comm (b ^ r.length) b, Nat.mul_assoc]
theorem yi {b : Nat} (l : List Nat) (h : ∀ d ∈ l, d < b) : ofd b l < b ^ l.length := by
 induction l with
 | nil => simp [ofd]
 | cons d r ih =>
  have h1 := ih (fun x hx => h x (List.mem_cons_of_mem _ hx))
  have h2 := h d (by simp)
  simp only [ofd, List.length_cons, Nat.pow_succ]
  have h3 : b * (ofd b r + 1) ≤ b * b ^ r.length := Nat.mul_le_mul_left _ h1
  rw [Nat.mul_add] at h3
  rw [Nat.mul_comm (b ^ r.length) b]
  omega
theorem z6 (b k : Nat) : ofd b (List.replicate k 0) = 0 := by
 induction k with
 | zero => rfl
 | succ k ih => simp [List.replicate_succ, ofd, ih]
def strip : List Nat → List Nat
 | [] => []
 | d :: r => match strip r with
  | [] => if d = 0 then [] else [d]
  | x :: y => d :: x :: y
theorem KV (b : Nat) (l : List Nat) : ofd b (strip l) = ofd b l := by
 induction l with
 | nil => rfl
 | cons d r ih =>
  simp only [strip, ofd]
  rw [← ih]
  cases h : strip r with
  | nil => by_cases hd : d = 0 <;> simp [hd, ofd]
  | cons x y => simp [ofd]
theorem KO {l : List Nat} {d : Nat} (h : d ∈ strip l) : d ∈ l := by
 induction l with
 | nil => simp [strip] at h
 | cons x r ih =>
  simp only [strip] at h
  cases hs : strip r with
  | nil =>
   rw [hs] at h
   by_cases hx : x = 0
   ·simp [hx] at h
   ·simp [hx] at h; simp [h]
  | cons y z =>
   rw [hs] at h ih
   rcases List.mem_cons.1 h with h | h
   ·simp [h]
   ·exact List.mem_cons_of_mem _ (ih h)
theorem VW {l : List Nat} {d : Nat} (h : (strip l).getLast? = some d) : d ≠ 0 := by
 induction l with
 | nil => simp [strip] at h
 | cons x r ih =>
  simp only [strip] at h
  cases hs : strip r with
  | nil =>
   rw [hs] at h
   by_cases hx : x = 0
   ·simp [hx] at h
   ·simp [hx] at h; omega
  | cons y z =>
   rw [hs] at h ih
   exact ih (by simpa [List.getLast?_cons] using h)
theorem Kp {b : Nat} {l : List Nat} (h : ∀ d ∈ l, d < b) : can b (strip l) :=
 ⟨fun d hd => h d (KO hd), fun _ hd => VW hd⟩
theorem xE {b : Nat} (hb : 2 ≤ b) {l : List Nat} (h : ∀ d ∈ l, d < b) : strip l = dg b (ofd b l) := by
 rw [← KV, zak hb _ (Kp h)]
theorem yh (l : List Nat) : strip (l ++ [0]) = strip l := by
 induction l with
 | nil => simp [strip]
 | cons d r ih => simp only [List.cons_append, strip, ih]
theorem j8 (l : List Nat) (d : Nat) (hd : d ≠ 0) : strip (l ++ [d]) = l ++ [d] := by
 induction l with
 | nil => simp [strip, hd]
 | cons x r ih =>
  simp only [List.cons_append, strip, ih]
  cases h : r ++ [d] with
  | nil => simp at h
  | cons _ _ => rfl
theorem yU {b : Nat} (hb : 2 ≤ b) {n : Nat} : dg b n = [] ↔ n = 0 := by
 constructor
 ·intro h; rw [← yB hb n, h]; rfl
 ·intro h; subst h; exact qJ b
theorem jy {b : Nat} (hb : 2 ≤ b) (n : Nat) : n < b ^ (dg b n).length := by
 have := yi _ (dg_lt hb n)
 rwa [yB hb] at this
theorem jW {b : Nat} (hb : 2 ≤ b) {k : Nat} : ∀ {n : Nat}, n < b ^ k → (dg b n).length ≤ k := by
 induction k with
 | zero => intro n h; have : n = 0 := by simpa using h
           subst this; simp [qJ]
 | succ k ih =>
  intro n h
  by_cases h0 : n = 0
  ·subst h0; simp [qJ]
  ·rw [jQ hb (by omega), List.length_cons]
   have : n / b < b ^ k := by
    rw [Nat.div_lt_iff_lt_mul (by omega)]; rwa [Nat.pow_succ] at h
   have := ih this
   omega
theorem XQ {b : Nat} (hb : 2 ≤ b) : ∀ (k n : Nat), (dg b n).getD k 0 = n / b ^ k % b := by
 intro k
 induction k with
 | zero =>
  intro n
  by_cases h0 : n = 0
  ·subst h0; simp [qJ]
  ·rw [jQ hb (by omega)]; simp
 | succ k ih =>
  intro n
  by_cases h0 : n = 0
  ·subst h0; simp [qJ]
  ·rw [jQ hb (by omega)]
   have := ih (n / b)
   rw [List.getD_cons_succ, this, Nat.div_div_eq_div_mul, Nat.pow_succ, Nat.mul_comm (b ^ k) b]
theorem qr (b n k : Nat) : n % b ^ (k + 1) = n % b ^ k + b ^ k * (n / b ^ k % b) := by
 rw [Nat.pow_succ, Nat.mod_mul]
theorem JZ {a b k X l ak bk d l' : Nat} (h : X + b % 10 ^ k = a % 10 ^ k + l * 10 ^ k) (ha : a / 10 ^ k % 10 = ak) (hb : b / 10 ^ k % 10 = bk) (hd : d + bk + l = ak + 10 * l') :
  X + 10 ^ k * d + b % 10 ^ (k + 1) = a % 10 ^ (k + 1) + l' * 10 ^ (k + 1) := by
 rw [qr, qr, ha, hb, Nat.pow_succ]
 generalize 10 ^ k = p at *
 have e : p * d + p * bk + l * p = p * ak + l' * (p * 10) := by
  have := congrArg (p * ·) hd
  simp only [Nat.mul_add] at this
  rw [Nat.mul_comm l p, this, Nat.mul_comm l' (p * 10), Nat.mul_assoc]
 omega
theorem x4 {a b k X c ak bk d c' : Nat} (h : X + c * 10 ^ k = a % 10 ^ k + b % 10 ^ k) (ha : a / 10 ^ k % 10 = ak) (hb : b / 10 ^ k % 10 = bk) (hd : d + 10 * c' = ak + bk + c) :
  X + 10 ^ k * d + c' * 10 ^ (k + 1) = a % 10 ^ (k + 1) + b % 10 ^ (k + 1) := by
 rw [qr, qr, ha, hb, Nat.pow_succ]
 generalize 10 ^ k = p at *
 have e : p * d + c' * (p * 10) = p * ak + p * bk + c * p := by
  have := congrArg (p * ·) hd
  simp only [Nat.mul_add] at this
  rw [Nat.mul_comm c p, ← this, Nat.mul_comm c' (p * 10), Nat.mul_assoc]
 omega
theorem jH (b : Nat) (l : List Nat) (j v : Nat) (h : j < l.length) : ofd b (l.set j v) + b ^ j * l[j] = ofd b l + b ^ j * v := by
 induction l generalizing j with
 | nil => simp at h
 | cons d r ih =>
  cases j with
  | zero => simp [ofd]; omega
  | succ j =>
   have := ih j (by simpa using h)
   simp only [List.set_cons_succ, ofd, List.getElem_cons_succ]
   have h2 := congrArg (b * ·) this
   simp only [Nat.mul_add] at h2
   rw [Nat.pow_succ, Nat.mul_comm (b ^ j) b, Nat.mul_assoc, Nat.mul_assoc]
   omega
theorem V9 (b : Nat) (l : List Nat) (j : Nat) (h : j < l.length) : b ^ j * l[j] ≤ ofd b l := by
 have := jH b l j 0 h
 omega
theorem XY {a b i k X ai bk x : Nat} (ha : a / 10 ^ i % 10 = ai) (hb : b / 10 ^ k % 10 = bk) (h : X = a % 10 ^ i * b + 10 ^ i * (ai * (b % 10 ^ k))) {Y : Nat} (hY : Y + 10 ^ (i + k) * x = X + 10 ^ (i + k) * (x + ai * bk)) :
  Y = a % 10 ^ i * b + 10 ^ i * (ai * (b % 10 ^ (k + 1))) := by
 rw [qr, hb]
 have e : 10 ^ i * (ai * (b % 10 ^ k + 10 ^ k * bk)) = 10 ^ i * (ai * (b % 10 ^ k)) + 10 ^ (i + k) * (ai * bk) := by
  rw [Nat.mul_add, Nat.mul_add, Nat.pow_add]
  congr 1
  simp only [Nat.mul_assoc, Nat.mul_comm, Nat.mul_left_comm]
 rw [Nat.mul_add] at hY
 subst ha
 omega
theorem zbi {a b i ai : Nat} (ha : a / 10 ^ i % 10 = ai) : a % 10 ^ i * b + 10 ^ i * (ai * b) = a % 10 ^ (i + 1) * b := by
 rw [qr, ha, Nat.add_mul, Nat.mul_assoc]
theorem Yd {X x y j Y Z : Nat} (hY : Y + 10 ^ (j + 1) * y = X + 10 ^ (j + 1) * (y + x / 10)) (hZ : Z + 10 ^ j * x = Y + 10 ^ j * (x % 10)) : Z = X := by
 have e : 10 ^ j * x = 10 ^ j * (x % 10) + 10 ^ (j + 1) * (x / 10) := by
  rw [Nat.pow_succ, Nat.mul_assoc, ← Nat.mul_add]; congr 1; omega
 rw [Nat.mul_add] at hY
 omega
theorem zZ (b : Nat) (l : List Nat) (d : Nat) : ofd b (l ++ [d]) = ofd b l + b ^ l.length * d := by
 rw [jD]; simp [ofd]
end Go.Proofs.YtpbnmhnbkfnaeaaGreatDoor.Nt
namespace Go.Proofs.YtpbnmhnbkfnaeaaGreatDoor
open Go Nt
open Go.RowKit in
theorem hide {p : Prop} (h : p) : Hid p := h
open Go.RowKit in
theorem za {p : Prop} (h : Hid p) : p := h
def B (l : List UInt8) : ByteArray := ⟨l.toArray⟩
theorem zi (l : List UInt8) : (B l).size = l.length := by simp [B, ByteArray.size]
theorem x9 (l : List UInt8) : (B l).data.toList = l := by simp [B]
theorem B_get (l : List UInt8) (k : Nat) (h : k < (B l).size) : (B l)[k] = l[k]'(by rw [zi] at h; exact h) := by
 simp [B, ByteArray.getElem_eq_getElem_data]
theorem zW (l : List UInt8) (i j : Nat) : (B l).extract i j = B ((l.take j).drop i) := by
 apply ByteArray.ext
 simp [B, ByteArray.data_extract, List.extract_toArray]
 simp [List.drop_take]
theorem zN (l m : List UInt8) : B l ++ B m = B (l ++ m) := by
 apply ByteArray.ext
 simp [B, ByteArray.data_append]
def sg (d : Nat) : UInt8 := if d < 10 then UInt8.ofNat (48 + d) else UInt8.ofNat (87 + d)
theorem qA {d : Nat} (h : d < 16) : (sg d).toNat = if d < 10 then 48 + d else 87 + d := by
 unfold sg; split
 ·simp [UInt8.toNat_ofNat']; omega
 ·simp [UInt8.toNat_ofNat']; omega
theorem zbG {c d : Nat} (hc : c < 16) (hd : d < 16) (h : sg c = sg d) : c = d := by
 have := congrArg UInt8.toNat h
 rw [qA hc, qA hd] at this
 split at this <;> split at this <;> omega
def txl (b n : Nat) : List UInt8 := if n = 0 then [48] else ((dg b n).map sg).reverse
def txt (b n : Nat) : ByteArray := B (txl b n)
def dec (n : Nat) : ByteArray := txt 10 n
theorem qh (b : Nat) : txl b 0 = [48] := by simp [txl]
theorem ja {b n : Nat} (h : n ≠ 0) : txl b n = ((dg b n).map sg).reverse := by simp [txl, h]
theorem yu {b : Nat} (hb : 2 ≤ b) (n : Nat) : 0 < (txl b n).length := by
 by_cases h : n = 0
 ·subst h; simp [qh]
 ·rw [ja h]; simp only [List.length_reverse, List.length_map]
  rw [jQ hb (by omega)]; simp
theorem x8 {b : Nat} (hb : 2 ≤ b) (n : Nat) : n < b ^ (txl b n).length := by
 by_cases h : n = 0
 ·subst h; simp only [qh, List.length_singleton, Nat.pow_one]; omega
 ·rw [ja h]; simp only [List.length_reverse, List.length_map]; exact jy hb n
theorem qk {b : Nat} (hb : 2 ≤ b) {k n : Nat} (hk : 0 < k) (h : n < b ^ k) : (txl b n).length ≤ k := by
 by_cases h0 : n = 0
 ·subst h0; simp only [qh, List.length_singleton]; omega
 ·rw [ja h0]; simp only [List.length_reverse, List.length_map]; exact jW hb h
theorem YC {b : Nat} (hb : 2 ≤ b) (hb16 : b ≤ 16) {m n : Nat} (h : txl b m = txl b n) : m = n := by
 have key : ∀ m, ofd b (((txl b m).reverse).map fun c => if c.toNat < 58 then c.toNat - 48 else c.toNat - 87) = m := by
  intro m
  by_cases h0 : m = 0
  ·subst h0; simp [qh, ofd]
  ·rw [ja h0, List.reverse_reverse, List.map_map]
   have : (dg b m).map ((fun c : UInt8 => if c.toNat < 58 then c.toNat - 48 else c.toNat - 87) ∘ sg) = (dg b m).map id := by
    apply List.map_congr_left
    intro d hd
    have hd' := dg_lt hb m d hd
    simp only [Function.comp]
    rw [qA (by omega)]
    split <;> simp <;> omega
   rw [this, List.map_id, yB hb]
 rw [← key m, h, key]
theorem qW (n : Nat) : 0 < (dec n).size := by
 unfold dec txt; rw [zi]; exact yu (by omega) n
theorem Yv (n k : Nat) (h : k < (txl 10 n).length) : ((txl 10 n).reverse)[k]'(by simpa using h) = sg (n / 10 ^ k % 10) := by
 by_cases h0 : n = 0
 ·subst h0
  have : k = 0 := by simp [qh] at h; omega
  subst this
  simp [qh, sg]
 ·have hl : k < (dg 10 n).length := by rw [ja h0] at h; simpa using h
  have e : (txl 10 n).reverse = (dg 10 n).map sg := by rw [ja h0, List.reverse_reverse]
  have g := XQ (b := 10) (by omega) k n
  rw [List.getD_eq_getElem?_getD, List.getElem?_eq_getElem hl] at g
  simp only [e, List.getElem_map]
  rw [← g]; rfl
theorem Qm (n k : Nat) (h : (txl 10 n).length ≤ k) : n / 10 ^ k = 0 := by
 apply Nat.div_eq_of_lt
 exact Nat.lt_of_lt_of_le (x8 (by omega) n) (Nat.pow_le_pow_right (by omega) h)
def trim : List UInt8 → List UInt8
 | [] => []
 | c :: r => if c = 48 ∧ r ≠ [] then trim r else c :: r
theorem vl (l : List Nat) (h : ∀ d ∈ l, d < 10) (hl : l ≠ []) : trim ((l.map sg).reverse) = txl 10 (ofd 10 l) := by
 have key : ∀ (n : Nat) (l : List Nat), l.length = n → (∀ d ∈ l, d < 10) → l ≠ [] → trim ((l.map sg).reverse) = txl 10 (ofd 10 l) := by
  intro n
  induction n with
  | zero => intro l hn _ hl; exact absurd (List.eq_nil_of_length_eq_zero hn) hl
  | succ n ih =>
   intro l hn hd hl
   have hdec := List.dropLast_concat_getLast hl
   generalize hm : l.dropLast = m at hdec
   generalize hx : l.getLast hl = x at hdec
   have hxl : x < 10 := hd x (by rw [← hdec]; simp)
   have hml : m.length = n := by rw [← hdec] at hn; simpa using hn
   have hmd : ∀ d ∈ m, d < 10 := fun d h => hd d (by rw [← hdec]; simp [h])
   rw [← hdec, List.map_append, List.reverse_append]
   simp only [List.map_cons, List.map_nil, List.reverse_cons, List.reverse_nil, List.nil_append, List.cons_append, trim]
   by_cases hx0 : x = 0
   ·subst hx0
    rw [jD]
    simp only [ofd, Nat.mul_zero, Nat.add_zero]
    by_cases hmn : m = []
    ·subst hmn; simp [ofd, qh, sg]
    ·rw [if_pos ⟨by simp [sg], by simpa using hmn⟩]
     exact ih m hml hmd hmn
   ·have hs : sg x ≠ 48 := by
     intro hc
     have := congrArg UInt8.toNat hc
     rw [qA (by omega), if_pos hxl] at this
     simp at this; omega
    rw [if_neg (fun hh => hs hh.1)]
    have hcan : can 10 (m ++ [x]) := ⟨fun d h => hd d (by rw [← hdec]; exact h), fun d h => by simp at h; omega⟩
    have hpos := yr (by omega) _ hcan (by simp)
    rw [ja (by omega), zak (by omega) _ hcan]
    simp
 exact key l.length l rfl h hl
theorem Vb (n : Nat) : trim (txl 10 n) = txl 10 n := by
 by_cases h0 : n = 0
 ·subst h0; simp [qh, trim]
 ·have := vl (dg 10 n) (dg_lt (by omega) n) (fun h => h0 ((yU (by omega)).1 h))
  rw [yB (by omega)] at this
  rwa [ja h0] at this ⊢
theorem vv (l : List UInt8) : (trim l).length ≤ l.length := by
 induction l with
 | nil => simp [trim]
 | cons c r ih => simp only [trim]; split <;> simp <;> omega
theorem Kk (l : List UInt8) (k : Nat) (h : k + 1 < l.length) (hz : l[k]'(by omega) = 48) : trim (l.drop k) = trim (l.drop (k + 1)) := by
 rw [List.drop_eq_getElem_cons (by omega), hz]
 simp only [trim]
 rw [if_pos ⟨by trivial, by simp; omega⟩]
theorem Qf (l : List UInt8) (h : l.length ≤ 1 ∨ ∃ c r, l = c :: r ∧ c ≠ 48) : trim l = l := by
 rcases h with h | ⟨c, r, rfl, hc⟩
 ·match l, h with
  | [], _ => rfl
  | [c], _ => simp [trim]
 ·simp [trim, hc]
end Go.Proofs.YtpbnmhnbkfnaeaaGreatDoor
namespace Go.Proofs.YtpbnmhnbkfnaeaaGreatDoor
open Go.RowKit Nt
theorem zT {a b : ByteArray} (h : a = b) : Ending.returned (.string a) = .returned (.string b) := by rw [h]
theorem zF {k : IntKind} {a b : Int} (h : a = b) : Ending.returned (.int k a) = .returned (.int k b) := by rw [h]
theorem zD {a b : Bool} (h : a = b) : Ending.returned (.bool a) = .returned (.bool b) := by rw [h]
def u8v (c : UInt8) : Value := .int .u8 c.toNat
def ints (l : List Nat) : List Value := l.map fun (d : Nat) => Value.int .i64 (d : Int)
theorem wi64 (x : Int) (h0 : -9223372036854775808 ≤ x) (h1 : x ≤ 9223372036854775807) : IntKind.i64.wrap x = x := by rw [IntKind.wrap_i64]; omega
theorem wu8 (x : Int) (h0 : 0 ≤ x) (h1 : x ≤ 255) : IntKind.u8.wrap x = x := by rw [IntKind.wrap_u8]; omega
theorem wu64 (x : Int) (h0 : 0 ≤ x) (h1 : x ≤ 18446744073709551615) : IntKind.u64.wrap x = x := by rw [IntKind.wrap_u64]; omega
theorem jF {n : Nat} {a w : World} (h : Below n a.drew w) : Below n a w := ⟨h.os, h.tape, h.output, h.size, h.block⟩
theorem zr {w w' : World} {base : Nat} {e : TypeId} {size : Nat} {v : Value} {n : Nat} {xs : List Value} (h : w.ownsRow base e size v n xs) (hb : Below w.heap.size w w') :
  w'.ownsRow base e size v n xs := by
 refine ⟨h.1, ?_⟩
 rcases h.2 with hn | ⟨g, cap, cur, rfl, hbg, hgg, rest⟩
 ·exact .inl hn
 ·exact .inr ⟨g, cap, cur, rfl, hbg, by rw [hb.block g (Array.getElem?_eq_some_iff.1 hgg).1]; exact hgg, rest⟩
theorem zK {w : World} {base base' : Nat} {e : TypeId} {size : Nat} {v : Value} {n : Nat} {xs : List Value} (h : w.ownsRow base e size v n xs) (hb : base' ≤ base) :
  w.ownsRow base' e size v n xs := by
 refine ⟨h.1, ?_⟩
 rcases h.2 with hn | ⟨g, cap, cur, rfl, hbg, rest⟩
 ·exact .inl hn
 ·exact .inr ⟨g, cap, cur, rfl, by omega, rest⟩
theorem zw {B : Nat} {w w' : World} {v : Value} {e : TypeId} {size n : Nat} {xs : List Value} {a : World} (h : Below B a w) (own : w.ownsRow B e size v n xs) (hg : w.grownBy w' v.ownBlock) (hB : B ≤ w.heap.size) : Below B a w' :=
 h.grown hg hB (fun k hk => (own.lt k hk).1)
theorem vK {b d : Nat} {xs : List Nat} (h : Hid (∀ x ∈ xs, x < b)) (hd : d < b) : Hid (∀ x ∈ xs ++ [d], x < b) := by
 intro x hx
 rcases List.mem_append.1 hx with h1 | h1
 ·exact za h x h1
 ·simp at h1; omega
theorem qx {P : Program} {w : World} {src dst e : TypeId} {base sz : Nat} {v : Value} {n : Nat} {l : List UInt8}
  (hs : P.underlying src = some (.slice e)) (he : P.underlying e = some (.int .u8)) (hd : P.underlying dst = some .string)
  (h : w.ownsRow base sz 1 v n (l.map u8v)) : (convert src dst v).run P w = .ok (.string (B l)) w := by
 have hl : l.length = n := by simpa using h.1
 have fold : ∀ (ns : List UInt8) (s : ByteArray), (ns.map (fun c => (c.toNat : Int))).foldl (fun r n => r.push (UInt8.ofNat n.toNat)) s = s ++ B ns := by
  intro ns
  induction ns with
  | nil => intro s; apply ByteArray.ext; simp [B, ByteArray.data_append]
  | cons c r ih =>
   intro s
   simp only [List.map_cons, List.foldl_cons, ih]
   apply ByteArray.ext
   simp [B, ByteArray.data_append, ByteArray.data_push]
 have fold0 : (l.map (fun c => (c.toNat : Int))).foldl (fun r n => r.push (UInt8.ofNat n.toNat)) ByteArray.empty = B l := by
  rw [fold]; apply ByteArray.ext; simp
 rcases h.2 with ⟨rfl, hn⟩ | ⟨g, cap, cur, rfl, _, hg, hnc, _, hcs, htake⟩
 ·have : l = [] := List.eq_nil_of_length_eq_zero (by omega)
  subst this
  rw [run_convert_bytes_string w src dst e none 0 0 hs he hd]
  rfl
 ·rw [run_convert_bytes_string w src dst e _ _ _ hs he hd]
  have hc := h.cells (g := g) rfl
  have hload := run_loadCells_list (P := P) (w := w) ⟨g, 0, none⟩ (l.map u8v) hc
  have e1 : (l.map u8v) = (l.map (fun c => (c.toNat : Int))).map (Value.int .u8) := by simp [u8v, Function.comp]
  rw [List.length_map, hl] at hload
  rw [e1] at hload
  have := run_bytesToString (P := P) w ⟨g, 0, none⟩ n cap (l.map (fun c => (c.toNat : Int))) hload
  rw [this, fold0]
theorem qB {w : World} {base : Nat} {e : TypeId} {g n cap : Nat} {xs : List Value} (h : w.ownsRow base e 1 (.slice (some ⟨g, 0, none⟩) n cap) n xs) (j : Nat) (hj : j < n) :
  ∃ v, w.cell? ⟨g, j, none⟩ = some v := by
 have hx : xs.length = n := by simpa using h.1
 exact ⟨xs[j], by rw [h.cellAt j (by omega)]; exact List.getElem?_eq_getElem (by omega)⟩
theorem QZ {d : Nat} (h : d < 10) : u8v (sg d) = .int .u8 (48 + (d : Int)) := by
 unfold u8v; rw [qA (by omega), if_pos h]; simp
theorem vI (l : List Nat) (d : Nat) : ints l ++ [.int .i64 (d : Int)] = ints (l ++ [d]) := by simp [ints]
abbrev Nd := Int × List UInt8 × List Int
abbrev Dt := List Nd × List Int
def IntsAt (w : World) (v : Value) (xs : List Int) : Prop :=
 ∃ a cap, v = .slice a xs.length cap ∧ xs.length ≤ cap ∧ cap ≤ maxLen ∧ (0 < xs.length → ∃ b off, a = some ⟨b, off, none⟩ ∧ b < w.heap.size ∧ ∀ j x, xs[j]? = some x → w.cell? ⟨b, off + j, none⟩ = some (.int .i64 x))
theorem IntsAt.below {w w' : World} {v : Value} {xs : List Int} (h : IntsAt w v xs) (k : Below w.heap.size w w') : IntsAt w' v xs := by
 obtain ⟨a, cap, rfl, h1, h2, h3⟩ := h
 refine ⟨a, cap, rfl, h1, h2, fun h0 => ?_⟩
 obtain ⟨b, off, rfl, hb, hc⟩ := h3 h0
 exact ⟨b, off, rfl, Nat.lt_of_lt_of_le hb k.size, fun j x hx => by rw [k.cell (p := ⟨b, off + j, none⟩) hb]; exact hc j x hx⟩
theorem IntsAt.len {w : World} {v : Value} {xs : List Int} (h : IntsAt w v xs) : xs.length ≤ maxLen := by
 obtain ⟨a, cap, _, h1, h2, _⟩ := h; omega
def NodesAt (w : World) (v : Value) (ns : List Nd) : Prop :=
 ∃ a cap, v = .slice a ns.length cap ∧ ns.length ≤ cap ∧ cap ≤ maxLen ∧ (0 < ns.length → ∃ b off, a = some ⟨b, off, none⟩ ∧ b < w.heap.size ∧ ∀ j nd, ns[j]? = some nd →
  w.cell? ⟨b, off + j * 3, none⟩ = some (.int .i64 nd.1) ∧ w.cell? ⟨b, off + j * 3 + 1, none⟩ = some (.string (B nd.2.1)) ∧ nd.2.1.length ≤ maxLen ∧ ∃ kv, w.cell? ⟨b, off + j * 3 + 2, none⟩ = some kv ∧ IntsAt w kv nd.2.2)
theorem NodesAt.below {w w' : World} {v : Value} {ns : List Nd} (h : NodesAt w v ns) (k : Below w.heap.size w w') : NodesAt w' v ns := by
 obtain ⟨a, cap, rfl, h1, h2, h3⟩ := h
 refine ⟨a, cap, rfl, h1, h2, fun h0 => ?_⟩
 obtain ⟨b, off, rfl, hb, hc⟩ := h3 h0
 refine ⟨b, off, rfl, Nat.lt_of_lt_of_le hb k.size, fun j nd hx => ?_⟩
 obtain ⟨c0, c1, hl, kv, c2, hk⟩ := hc j nd hx
 exact ⟨by rw [k.cell (p := ⟨b, off + j * 3, none⟩) hb]; exact c0, by rw [k.cell (p := ⟨b, off + j * 3 + 1, none⟩) hb]; exact c1, hl, kv, by rw [k.cell (p := ⟨b, off + j * 3 + 2, none⟩) hb]; exact c2, hk.below k⟩
def DataAt (w : World) (v : Value) (d : Dt) : Prop := ∃ nv rv, v = .agg #[nv, rv] ∧ NodesAt w nv d.1 ∧ IntsAt w rv d.2
theorem DataAt.below {w w' : World} {v : Value} {d : Dt} (h : DataAt w v d) (k : Below w.heap.size w w') : DataAt w' v d := by
 obtain ⟨nv, rv, rfl, h1, h2⟩ := h; exact ⟨nv, rv, rfl, h1.below k, h2.below k⟩
theorem zb {w w3 : World} {cs : Array Value} {T : TypeId} (h : Below (w.heap.size + 1) (w.alloc (.cells cs T)) w3) (j : Nat) : w3.cell? ⟨w.heap.size, j, none⟩ = cs[j]? := by
 rw [h.cell (p := ⟨w.heap.size, j, none⟩) (Nat.lt_succ_self _)]
 exact World.cell?_alloc_at cs T _ j rfl
theorem zh {w w3 : World} {cs : Array Value} {T : TypeId} (h : Below (w.heap.size + 1) (w.alloc (.cells cs T)) w3) (j : Nat) : w3.frozen? ⟨w.heap.size, j, none⟩ = false := by
 rw [h.frozen (p := ⟨w.heap.size, j, none⟩) (Nat.lt_succ_self _)]
 exact World.frozen?_alloc_at cs T _ j rfl
theorem zm {w w3 : World} {o : Obj} (h : Below (w.heap.size + 1) (w.alloc o) w3) : Below w.heap.size w w3 :=
 ((Below.refl _ _).alloc (Nat.le_refl _) _).trans (h.mono (by omega))
theorem zn {w w1 : World} {o : Obj} (h : Below (w.alloc o).heap.size (w.alloc o) w1) : Below (w.heap.size + 1) (w.alloc o) w1 := by simpa using h
theorem zk {B : Nat} {a b c : World} (h : Below B a b) (hB : B ≤ b.heap.size) (k : Below b.heap.size b c) : Below B a c ∧ B ≤ c.heap.size :=
 ⟨h.trans (k.mono hB), Nat.le_trans hB k.size⟩
def u64s (l : List Nat) : List Value := l.map fun (d : Nat) => Value.int .u64 (d : Int)
theorem zQ (l : List Nat) : (u64s l).length = l.length := by simp [u64s]
theorem zx (l : List Nat) (j : Nat) (h : j < l.length) : (u64s l)[j]? = some (.int .u64 (l[j] : Nat)) := by simp [u64s, h]
theorem qS (l : List Nat) (j d : Nat) (v : Int) (h : v = (d : Int)) : (u64s l).set j (.int .u64 v) = u64s (l.set j d) := by rw [h]; simp [u64s, List.map_set]
theorem qE (n : Nat) : List.replicate n (Value.int .u64 0) = u64s (List.replicate n 0) := by simp [u64s]
theorem Ve {w : World} {base : Nat} {e : TypeId} {g n cap : Nat} {xs : List Value} (h : w.ownsRow base e 1 (.slice (some ⟨g, 0, none⟩) n cap) n xs) (k : Nat) (hk : k ≤ n) :
  w.ownsRow base e 1 (.slice (some ⟨g, 0, none⟩) k cap) k (xs.take k) := by
 have hx : xs.length = n := by simpa using h.1
 refine ⟨by simp; omega, ?_⟩
 rcases h.2 with ⟨h', _⟩ | ⟨g', cap', cur, h', hb, hg, hnc, hcm, hcs, htake⟩
 ·simp at h'
 ·simp only [Value.slice.injEq, Option.some.injEq, Addr.mk.injEq, and_true, true_and] at h'
  obtain ⟨rfl, rfl⟩ := h'
  refine .inr ⟨g, cap, cur, rfl, hb, hg, by omega, hcm, hcs, ?_⟩
  rw [← htake, List.take_take]; simp; omega
theorem vN {w : World} {base : Nat} {e : TypeId} {v : Value} {n : Nat} {xs : List Value} (h : w.ownsRow base e 1 v n xs) :
  (v = .slice none 0 0 ∧ n = 0 ∧ xs = []) ∨ ∃ g cap, v = .slice (some ⟨g, 0, none⟩) n cap ∧ n ≤ cap ∧ base ≤ g ∧ g < w.heap.size := by
 rcases h.2 with ⟨rfl, hn⟩ | ⟨g, cap, cur, rfl, hb, hg, hnc, _⟩
 ·left
  exact ⟨rfl, hn, List.eq_nil_of_length_eq_zero (by have := h.1; omega)⟩
 ·right
  exact ⟨g, cap, rfl, hnc, hb, (Array.getElem?_eq_some_iff.1 hg).1⟩
theorem zt {w : World} {base : Nat} {e : TypeId} {v : Value} {n : Nat} {xs : List Value} (h : w.ownsRow base e 1 v n xs) : ∃ p cap, v = .slice p n cap := by
 rcases vN h with ⟨rfl, rfl, _⟩ | ⟨g, cap, rfl, _⟩
 ·exact ⟨_, _, rfl⟩
 ·exact ⟨_, _, rfl⟩
theorem qn {w : World} {base : Nat} {e : TypeId} {v : Value} {n : Nat} {xs : List Value} (h : w.ownsRow base e 1 v n xs) (hn : 0 < n) :
  ∃ g cap, v = .slice (some ⟨g, 0, none⟩) n cap ∧ n ≤ cap ∧ base ≤ g ∧ g < w.heap.size := by
 rcases vN h with ⟨_, rfl, _⟩ | hh
 ·omega
 ·exact hh
theorem qy {p : Nat → Prop} {l : List Nat} {j v : Nat} (h : ∀ d ∈ l, p d) (hv : p v) : ∀ d ∈ l.set j v, p d := by
 intro d hd
 rcases List.mem_or_eq_of_mem_set hd with h1 | h1
 ·exact h d h1
 ·rw [h1]; exact hv
theorem jZ {w : World} {base e g n : Nat} {xs : List Value} (h : w.ownsRow base e 1 (.slice (some ⟨g, 0, none⟩) n n) n xs) : w.heap[g]? = some (.cells xs.toArray e (0, 0)) := by
 rcases h.2 with ⟨h', _⟩ | ⟨g', cap', cur, h', hb, hg, hnc, hcm, hcs, htake⟩
 ·simp at h'
 ·simp only [Value.slice.injEq, Option.some.injEq, Addr.mk.injEq, and_true, true_and] at h'
  obtain ⟨rfl, rfl⟩ := h'
  rw [hg]
  have : cur.toList = xs := by
   rw [← htake, List.take_of_length_le]
   rw [Array.length_toList, hcs]; exact Nat.le_refl _
  rw [← this]
theorem jx {w : World} {base e g n : Nat} {xs : List Value} (h : w.heap[g]? = some (.cells xs.toArray e (0, 0))) (hl : xs.length = n) (hn : n ≤ maxLen) (hb : base ≤ g) :
  w.ownsRow base e 1 (.slice (some ⟨g, 0, none⟩) n n) n xs := by
 refine ⟨by omega, .inr ⟨g, n, xs.toArray, rfl, hb, h, Nat.le_refl _, hn, by simp; omega, ?_⟩⟩
 rw [List.take_of_length_le (by simp; omega)]
theorem Zd (l : List Nat) : ∀ u ∈ u64s l, u.oneCell' = true := by
 intro u hu
 obtain ⟨d, _, rfl⟩ := List.mem_map.1 hu
 rfl
theorem yG (l m : List Nat) : u64s (l ++ m) = u64s l ++ u64s m := by simp [u64s]
theorem xq (l : List Nat) (k : Nat) : u64s (l.drop k) = (u64s l).drop k := by simp [u64s, List.map_drop]
theorem wi32 (x : Int) (h0 : -2147483648 ≤ x) (h1 : x ≤ 2147483647) : IntKind.i32.wrap x = x := by rw [IntKind.wrap_i32]; omega
def AtC2 (w : World) (b : Nat) (x y : Value) (T : TypeId) : Prop := w.heap[b]? = some (.cells #[x, y] T (0, 0))
theorem AtC2.lt {w : World} {b : Nat} {x y : Value} {T : TypeId} (h : AtC2 w b x y T) : b < w.heap.size := (Array.getElem?_eq_some_iff.1 h).1
theorem AtC2.new (w : World) (x y : Value) (T : TypeId) : AtC2 (w.alloc (.cells #[x, y] T)) w.heap.size x y T := by
 show (w.heap.push _)[w.heap.size]? = _; rw [Array.getElem?_push, if_pos rfl]
theorem AtC2.below {w w' : World} {b : Nat} {x y : Value} {T : TypeId} (h : AtC2 w b x y T) (k : Below w.heap.size w w') : AtC2 w' b x y T := (k.block b h.lt).trans h
theorem AtC2.n0 {w : World} {b : Nat} {x y : Value} {T : TypeId} (h : AtC2 w b x y T) : w.cell? ⟨b, 0, none⟩ = some x := by unfold AtC2 at h; simp [World.cell?, h]
theorem AtC2.n1 {w : World} {b : Nat} {x y : Value} {T : TypeId} (h : AtC2 w b x y T) : w.cell? ⟨b, 1, none⟩ = some y := by unfold AtC2 at h; simp [World.cell?, h]
theorem AtC2.f {w : World} {b : Nat} {x y : Value} {T : TypeId} (h : AtC2 w b x y T) (j : Nat) : w.frozen? ⟨b, j, none⟩ = false := by unfold AtC2 at h; simp [World.frozen?, h]
theorem AtC2.far {w : World} {b : Nat} {x y : Value} {T : TypeId} (h : AtC2 w b x y T) {a : Addr} (ha : a.block ≠ b) (u : Value) : AtC2 (w.setCell a u) b x y T := by
 unfold AtC2
 obtain ⟨g, o, sp⟩ := a
 rw [Below.heap_setCell _ _ _ _ (Ne.symm ha)]
 exact h
theorem AtC2.st0 {w : World} {b : Nat} {x y : Value} {T : TypeId} (h : AtC2 w b x y T) (u : Value) : AtC2 (w.setCell ⟨b, 0, none⟩ u) b u y T := by
 show (w.heap.modify b _)[b]? = _
 rw [Array.getElem?_modify, if_pos rfl, show w.heap[b]? = _ from h]; rfl
theorem AtC2.st1 {w : World} {b : Nat} {x y : Value} {T : TypeId} (h : AtC2 w b x y T) (u : Value) : AtC2 (w.setCell ⟨b, 1, none⟩ u) b x u T := by
 show (w.heap.modify b _)[b]? = _
 rw [Array.getElem?_modify, if_pos rfl, show w.heap[b]? = _ from h]; rfl
theorem zj {a w w' : World} (h : Below a.heap.size a w) (hb : Below w.heap.size w w') : Below a.heap.size a w' := h.trans (hb.mono h.size)
theorem zf {a w : World} (h : Below a.heap.size a w) (o : Obj) : Below a.heap.size a (w.alloc o) := h.alloc h.size o
structure Kept (S : Nat → Prop) (w w' : World) : Prop where
 os : w'.os = w.os
 tape : w'.tape = w.tape
 output : w'.output = w.output
 size : w.heap.size ≤ w'.heap.size
 block : ∀ b, b < w.heap.size → ¬ S b → w'.heap[b]? = w.heap[b]?
theorem Kept.refl (S : Nat → Prop) (w : World) : Kept S w w := ⟨rfl, rfl, rfl, Nat.le_refl _, fun _ _ _ => rfl⟩
theorem Kept.trans {S : Nat → Prop} {w w' w'' : World} (h : Kept S w w') (k : Kept S w' w'') : Kept S w w'' :=
 ⟨k.os.trans h.os, k.tape.trans h.tape, k.output.trans h.output, Nat.le_trans h.size k.size, fun b hb ho => (k.block b (Nat.lt_of_lt_of_le hb h.size) ho).trans (h.block b hb ho)⟩
theorem Kept.of_below {S : Nat → Prop} {w w' : World} (h : Below w.heap.size w w') : Kept S w w' := ⟨h.os, h.tape, h.output, h.size, fun b hb _ => h.block b hb⟩
theorem Kept.set {S : Nat → Prop} {w : World} {a : Addr} (h : S a.block) (u : Value) : Kept S w (w.setCell a u) :=
 ⟨rfl, rfl, rfl, by simp, fun b _ ho => heap_setCell_other w a b u (fun e => ho (by rw [e]; exact h))⟩
theorem Kept.below {S : Nat → Prop} {base : Nat} {w w' : World} (h : Kept S w w') (hb : base ≤ w.heap.size) (hs : ∀ b, S b → base ≤ b) : Below base w w' :=
 ⟨h.os, h.tape, h.output, h.size, fun b hlt => h.block b (by omega) (fun e => by have := hs b e; omega)⟩
theorem AtC2.alloc {w : World} {b : Nat} {x y : Value} {T : TypeId} (h : AtC2 w b x y T) (o : Obj) : AtC2 (w.alloc o) b x y T := h.below ((Below.refl _ _).alloc (Nat.le_refl _) o)
theorem jM (w : World) (n : Nat) : Below w.heap.size w (w.drewN n) := by
 induction n with
 | zero => exact Below.refl _ _
 | succ n ih => exact ih.drew
def NdAt (w : World) (v : Value) (nd : Nd) : Prop := ∃ kv, v = .agg #[.int .i64 nd.1, .string (B nd.2.1), kv] ∧ nd.2.1.length ≤ maxLen ∧ IntsAt w kv nd.2.2
def zM (ns : List Nd) : Prop := ∀ nd ∈ ns, nd.2.1.length ≤ 1048576 ∧ nd.2.2.length ≤ 1048576
theorem NodesAt.node {w : World} {b off n cap : Nat} {ns : List Nd} (h : NodesAt w (.slice (some ⟨b, off, none⟩) n cap) ns) {k : Nat} {nd : Nd} (hk : ns[k]? = some nd) :
  ∃ kv, w.cell? ⟨b, off + k * 3, none⟩ = some (.int .i64 nd.1) ∧ w.cell? ⟨b, off + k * 3 + 1, none⟩ = some (.string (B nd.2.1)) ∧ w.cell? ⟨b, off + k * 3 + 2, none⟩ = some kv ∧ nd.2.1.length ≤ maxLen ∧ IntsAt w kv nd.2.2 := by
 obtain ⟨a, c, hv, h1, h2, h3⟩ := h
 have h0 : 0 < ns.length := by
  have := (List.getElem?_eq_some_iff.1 hk).1; omega
 obtain ⟨b', off', rfl, hb, hc⟩ := h3 h0
 injection hv with e1 e2 e3
 injection e1 with e1
 injection e1 with e4 e5
 subst e4 e5
 obtain ⟨c0, c1, hl, kv, c2, hk'⟩ := hc k nd hk
 exact ⟨kv, c0, c1, c2, hl, hk'⟩
theorem NodesAt.form {w : World} {v : Value} {ns : List Nd} (h : NodesAt w v ns) (h0 : 0 < ns.length) : ∃ b off cap, v = .slice (some ⟨b, off, none⟩) ns.length cap ∧ ns.length ≤ cap ∧ cap ≤ maxLen ∧ b < w.heap.size := by
 obtain ⟨a, c, hv, h1, h2, h3⟩ := h
 obtain ⟨b', off', rfl, hb, hc⟩ := h3 h0
 exact ⟨b', off', c, hv, h1, h2, hb⟩
theorem qO {B : Nat} {a w : World} (h : Below B a w) (n : Nat) : Below B a (w.drewN n) := ⟨h.os, h.tape, h.output, h.size, h.block⟩
theorem IntsAt.form {w : World} {v : Value} {xs : List Int} (h : IntsAt w v xs) : ∃ a cap, v = .slice a xs.length cap ∧ xs.length ≤ cap ∧ cap ≤ maxLen := by
 obtain ⟨a, cap, hv, h1, h2, _⟩ := h; exact ⟨a, cap, hv, h1, h2⟩
theorem IntsAt.cell {w : World} {a : Option Addr} {n cap : Nat} {xs : List Int} (h : IntsAt w (.slice a n cap) xs) {k : Nat} {x : Int} (hk : xs[k]? = some x) : ∃ b off, a = some ⟨b, off, none⟩ ∧ b < w.heap.size ∧ w.cell? ⟨b, off + k, none⟩ = some (.int .i64 x) := by
 obtain ⟨a', c, hv, h1, h2, h3⟩ := h
 have h0 : 0 < xs.length := by
  have := (List.getElem?_eq_some_iff.1 hk).1; omega
 obtain ⟨b, off, rfl, hb, hc⟩ := h3 h0
 injection hv with e1 e2 e3
 subst e1
 exact ⟨b, off, rfl, hb, hc k x hk⟩
def AtC3 (w : World) (b : Nat) (x y z : Value) (T : TypeId) : Prop := w.heap[b]? = some (.cells #[x, y, z] T (0, 0))
theorem AtC3.lt {w : World} {b : Nat} {x y z : Value} {T : TypeId} (h : AtC3 w b x y z T) : b < w.heap.size := (Array.getElem?_eq_some_iff.1 h).1
theorem AtC3.new (w : World) (x y z : Value) (T : TypeId) : AtC3 (w.alloc (.cells #[x, y, z] T)) w.heap.size x y z T := by
 show (w.heap.push _)[w.heap.size]? = _; rw [Array.getElem?_push, if_pos rfl]
theorem AtC3.below {w w' : World} {b : Nat} {x y z : Value} {T : TypeId} (h : AtC3 w b x y z T) (k : Below w.heap.size w w') : AtC3 w' b x y z T := (k.block b h.lt).trans h
theorem AtC3.n0 {w : World} {b : Nat} {x y z : Value} {T : TypeId} (h : AtC3 w b x y z T) : w.cell? ⟨b, 0, none⟩ = some x := by unfold AtC3 at h; simp [World.cell?, h]
theorem AtC3.n1 {w : World} {b : Nat} {x y z : Value} {T : TypeId} (h : AtC3 w b x y z T) : w.cell? ⟨b, 1, none⟩ = some y := by unfold AtC3 at h; simp [World.cell?, h]
theorem AtC3.n2 {w : World} {b : Nat} {x y z : Value} {T : TypeId} (h : AtC3 w b x y z T) : w.cell? ⟨b, 2, none⟩ = some z := by unfold AtC3 at h; simp [World.cell?, h]
theorem AtC3.f {w : World} {b : Nat} {x y z : Value} {T : TypeId} (h : AtC3 w b x y z T) (j : Nat) : w.frozen? ⟨b, j, none⟩ = false := by unfold AtC3 at h; simp [World.frozen?, h]
theorem NodesAt.form0 {w : World} {v : Value} {ns : List Nd} (h : NodesAt w v ns) : ∃ a cap, v = .slice a ns.length cap ∧ ns.length ≤ cap ∧ cap ≤ maxLen := by
 obtain ⟨a, cap, hv, h1, h2, _⟩ := h; exact ⟨a, cap, hv, h1, h2⟩
theorem NodesAt.addr {w : World} {a : Option Addr} {n cap : Nat} {ns : List Nd} (h : NodesAt w (.slice a n cap) ns) (h0 : 0 < ns.length) : ∃ b off, a = some ⟨b, off, none⟩ ∧ b < w.heap.size := by
 obtain ⟨a', c, hv, h1, h2, h3⟩ := h
 obtain ⟨b, off, rfl, hb, hc⟩ := h3 h0
 injection hv with e1 e2 e3
 subst e1
 exact ⟨b, off, rfl, hb⟩
theorem Q1 (l : List UInt8) (k : Nat) (hk : k < l.length) (h : k + 1 < l.length → l[k] ≠ 48) : trim (l.drop k) = l.drop k := by
 apply Qf
 by_cases hl : k + 1 < l.length
 ·right
  exact ⟨l[k], l.drop (k + 1), List.drop_eq_getElem_cons (by omega), h hl⟩
 ·left; simp; omega
theorem yx (l : List UInt8) (w : World) (hs : l.length ≤ 1000000000) :
  Calls Tryz.prog 125 #[.string (B l)] w fun e w' => e = .returned (.string (B (trim l))) ∧ w' = w := by
 have hsz : (B l).size ≤ 1000000000 := by rw [zi]; exact hs
 go_enter Tryz.func125, Tryz.ntmps125
 go_wp2
 go_loop [3] (fun i => ∃ k : Nat, k ≤ l.length ∧ (k = 0 ∨ k < l.length) ∧ i = .int .i64 k ∧ Hid (trim l = trim (l.drop k))) (fun i => l.length - (intOf i).toNat)
 case atStart => exact ⟨0, Nat.zero_le _, .inl rfl, rfl, rfl⟩
 case round =>
  obtain ⟨k, hk, hk', rfl, ht⟩ := hrel
  have fin : (k + 1 < l.length → ∀ h, l[k]'h ≠ 48) → (B l).extract k (B l).size = B (trim l) := by
   intro h
   rw [zW, zi, List.take_length, ht.out]
   by_cases h0 : k < l.length
   ·rw [Q1 l k h0 (fun hh => h hh h0)]
   ·have : l = [] := by apply List.eq_nil_of_length_eq_zero; omega
    subst this; simp [trim]
  have Fin := hide fin
  clear fin
  by_cases hlt : k + 1 < l.length
  ·have hlt2 : k + 1 < (B l).size := by rw [zi]; exact hlt
   go_wp2
   ·have hz : l[k] = 48 := by
     have h := ‹(((B l)[k].toNat : Int) == 48) = true›
     rw [B_get] at h
     apply UInt8.toNat_inj.1
     have := beq_iff_eq.1 h
     simp only [UInt8.toNat_ofNat]
     omega
    go_round
    case rel => exact ⟨k + 1, by omega, by omega, by go_num, by show trim l = _; rw [ht.out]; exact Kk l k (by omega) hz⟩
    case measure => simp [intOf]; omega
   ·have hz : ∀ h : k < l.length, l[k] ≠ 48 := by
     have h := beq_eq_false_iff_ne.1 ‹(((B l)[k].toNat : Int) == 48) = false›
     rw [B_get] at h
     intro hh hc
     rw [hc] at h
     exact h rfl
    go_ret
    exact ⟨zT (za Fin (fun _ h => hz h)), rfl⟩
  ·have hlt2 : ¬ k + 1 < (B l).size := by rw [zi]; exact hlt
   have hkk : k ≤ (B l).size := by rw [zi]; exact hk
   go_wp2
   go_ret
   exact ⟨zT (za Fin (fun h => absurd h hlt)), rfl⟩
theorem zbx (n k : Nat) (w : World) (hs : (dec n).size ≤ 1000000000) (hk : k ≤ 1000000000) :
  Calls Tryz.prog 163 #[.string (dec n), .int .i64 k] w fun e w' => e = .returned (.int .i64 ((n / 10 ^ k % 10 : Nat) : Int)) ∧ w' = w := by
 by_cases h : k < (dec n).size
 ·have hb : (n / 10 ^ k % 10) < 10 := Nat.mod_lt _ (by omega)
  have hd : (dec n)[(dec n).size - 1 - k]'(by omega) = sg (n / 10 ^ k % 10) := by
   have h1 : k < (txl 10 n).length := by simpa [dec, txt, zi] using h
   have := Yv n k h1
   rw [List.getElem_reverse] at this
   rw [← this]
   simp only [dec, txt, B_get, zi]
  have hn : ((dec n)[(dec n).size - 1 - k]'(by omega)).toNat = 48 + n / 10 ^ k % 10 := by rw [hd, qA (by omega), if_pos hb]
  generalize hg : n / 10 ^ k % 10 = d at *
  have Hn := hide hn
  clear hn hd hg
  go_enter Tryz.func163, Tryz.ntmps163
  go_wp2
  go_ret
  exact ⟨zF (by rw [za Hn]; omega), rfl⟩
 ·have hz : n / 10 ^ k % 10 = 0 := by
   rw [Qm n k (by simpa [dec, txt, zi] using h)]
  rw [hz]
  go_enter Tryz.func163, Tryz.ntmps163
  go_wp2
  go_ret
  exact ⟨rfl, rfl⟩
theorem vH (n k d : Nat) (w : World) (hd : n / 10 ^ k % 10 = d) (hs : (dec n).size ≤ 1000000000) (hk : k ≤ 1000000000) :
  Calls Tryz.prog 163 #[.string (dec n), .int .i64 k] w fun e w' => e = .returned (.int .i64 (d : Int)) ∧ w' = w := by
 subst hd; exact zbx n k w hs hk
theorem Tryz.infoInt : (Tryz.prog.info? 3).map (fun i => (i.zero, i.size, i.bytes)) = some (some (.int .i64 0), 1, 8) := by kernel_rfl
theorem Tryz.infoByte : (Tryz.prog.info? 5).map (fun i => (i.zero, i.size, i.bytes)) = some (some (.int .u8 0), 1, 1) := by kernel_rfl
def qC (xs : List Nat) (n k : Nat) : List UInt8 := List.replicate (n - k) 0 ++ ((xs.take k).map sg).reverse
theorem Z4 (xs : List Nat) (k : Nat) (h : k < xs.length) :
  (qC xs xs.length k).set (xs.length - 1 - k) (sg xs[k]) = qC xs xs.length (k + 1) := by
 unfold qC
 have e : xs.length - k = (xs.length - 1 - k) + 1 := by omega
 rw [e, List.replicate_succ', List.append_assoc, List.set_append_right _ _ (by simp)]
 have e2 : xs.length - (k + 1) = xs.length - 1 - k := by omega
 rw [e2, List.length_replicate, Nat.sub_self, List.take_succ_eq_append_getElem h, List.map_append, List.reverse_append]
 simp
theorem ZV (xs : List Nat) : qC xs xs.length xs.length = (xs.map sg).reverse := by simp [qC]
theorem Zn (xs : List Nat) : qC xs xs.length 0 = List.replicate xs.length 0 := by simp [qC]
theorem zai (xs : List Nat) (hd : ∀ d ∈ xs, d < 10) (hx : xs ≠ []) : trim (qC xs xs.length xs.length) = txl 10 (ofd 10 xs) := by
 rw [ZV]; exact vl xs hd hx
theorem ZH (xs : List Nat) (v : Value) (w : World) (hd : ∀ d ∈ xs, d < 10) (hs : xs.length ≤ 1000000000) (h : w.ownsRow 0 3 1 v xs.length (ints xs)) :
  Calls Tryz.prog 164 #[v] w fun e w' => e = .returned (.string (dec (ofd 10 xs))) ∧ Below w.heap.size w w' := by
 obtain ⟨i0, hi, hz0, hz1, hz2⟩ := info_parts Tryz.infoByte
 rcases h.2 with ⟨rfl, hn⟩ | ⟨g, cap, cur, rfl, hbg, hgg, hnc, hcm, hcs, htake⟩
 ·have hx : xs = [] := List.eq_nil_of_length_eq_zero hn
  subst hx
  clear h hs hd hn
  go_enter Tryz.func164, Tryz.ntmps164
  go_wp2_with (refine wpList_make_full _ rfl (.tmp 6) (.tmp 6) 22 rfl w.heap.size 5 i0 (.int .u8 0) 1 Tryz.underlying22 hi hz0 hz1 .i64 .i64 0 0 0 rfl rfl rfl rfl (by rw [hz2]; omega) (by decide) (Nat.le_refl _) ?_; intro w1 hown1 hg1)
  have hb := (Below.refl w.heap.size w).grown hg1 (Nat.le_refl _) (fun _ h => by cases h)
  clear hown1 hg1
  refine wp_loop_rounds 1 ?_; rw [rounds_succ]
  go_wp2
  go_ret
  exact ⟨rfl, hb⟩
 ·clear htake hcs hcm hgg hbg
  have Hd := hide hd
  clear hd
  go_enter Tryz.func164, Tryz.ntmps164
  go_wp2_with (refine wpList_make_full _ rfl (.tmp 6) (.tmp 6) 22 rfl w.heap.size 5 i0 (.int .u8 0) 1 Tryz.underlying22 hi hz0 hz1 .i64 .i64 xs.length xs.length xs.length rfl rfl rfl rfl (by rw [hz2]; omega) (by unfold maxLen; omega) (Nat.le_refl _) ?_; intro w1 hown1 hg1)
  go_loopw [4] (fun i wr => ∃ k : Nat, k ≤ xs.length ∧ i = .int .i64 k ∧ wr.ownsRow w.heap.size 5 1 (.slice (some ⟨w.heap.size, 0, none⟩) xs.length xs.length) xs.length ((qC xs xs.length k).map u8v) ∧ Below w.heap.size w wr)
   (fun i _ => xs.length - (intOf i).toNat)
  case atStart =>
   refine ⟨0, Nat.zero_le _, rfl, ?_, (Below.refl _ _).grown hg1 (Nat.le_refl _) (fun _ h => by cases h)⟩
   rw [Zn]
   simpa [Value.cells, toList_madeCells_one, u8v] using hown1
  case round =>
   obtain ⟨k, hk, rfl, hown, hb⟩ := hrel
   by_cases hlt : k < xs.length
   ·have hc1 : wr.cell? ⟨g, k, none⟩ = some (.int .i64 (xs[k] : Nat)) := by
     rw [(zr h hb).cellAt k (by omega)]; simp [ints, hlt]
    have hf := hown.frozenAt (xs.length - 1 - k)
    obtain ⟨v0, hv0⟩ := qB hown (xs.length - 1 - k) (by omega)
    have hst := hown.stored (xs.length - 1 - k) (u8v (sg xs[k]))
    have hdk : xs[k] < 10 := za Hd _ (List.getElem_mem hlt)
    rw [← List.map_set, Z4 xs k hlt, QZ hdk] at hst
    have Hst := hide hst
    clear hst
    go_wp2
    go_roundw
    case rel => exact ⟨k + 1, by omega, by go_num, (za Hst).1, hb.setCell (by simp) _⟩
    case measure => simp [intOf]; omega
   ·have hkn : k = xs.length := by omega
    subst hkn
    by_cases hx : xs = []
    ·subst hx
     go_wp2
     go_ret
     exact ⟨rfl, hb⟩
    ·have hx0 : ((xs.length : Int) == 0) = false := by
      have : xs.length ≠ 0 := fun h => hx (List.eq_nil_of_length_eq_zero h)
      rw [beq_eq_false_iff_ne]; omega
     have hconv := qx (dst := 9) Tryz.underlying22 Tryz.underlying5 Tryz.underlying9 hown
     have Fin := hide (zai xs (za Hd) hx)
     go_wp2_with (go_at_call 125; refine (yx _ _ (by simp [qC]; omega)).mono ?_; rintro e w' ⟨rfl, rfl⟩)
     go_ret
     exact ⟨zT (by rw [za Fin]; rfl), hb⟩
def iv (xs : List Int) : List Value := xs.map (Value.int .i64)
theorem Yb (xs : List Int) (j : Nat) : (iv xs)[j]? = (xs[j]?).map (Value.int .i64) := by simp [iv]
theorem qD {w : World} {base : Nat} {v : Value} {xs : List Int} (h : w.ownsRow base 3 1 v xs.length (iv xs)) : IntsAt w v xs := by
 rcases h.2 with ⟨rfl, h0⟩ | ⟨g, cap, cur, rfl, hb, hg, h1, h2, h3, h4⟩
 ·exact ⟨none, 0, by rw [h0], by omega, by unfold maxLen; omega, fun h => absurd h (by omega)⟩
 ·refine ⟨_, cap, rfl, h1, h2, fun _ => ⟨g, 0, rfl, (Array.getElem?_eq_some_iff.1 hg).1, fun j x hx => ?_⟩⟩
  have hj := (List.getElem?_eq_some_iff.1 hx).1
  have := h.cellAt j (by omega)
  rw [Yb, hx] at this
  simpa using this
def Apart (l : List Value) : Prop := l.Pairwise (fun a b => ∀ i, a.ownBlock = some i → b.ownBlock ≠ some i)
def NodesOwn (w : World) (base g n : Nat) (ns : List Nd) (kvs : List Value) : Prop :=
 (base ≤ g ∧ g < w.heap.size ∧ kvs.length = ns.length) ∧ (∀ j, w.frozen? ⟨g, j, none⟩ = false) ∧ (∀ j, j < n * 3 → ∃ u, w.cell? ⟨g, j, none⟩ = some u) ∧
 (∀ j nd kv, ns[j]? = some nd → kvs[j]? = some kv → w.cell? ⟨g, j * 3, none⟩ = some (.int .i64 nd.1) ∧ w.cell? ⟨g, j * 3 + 1, none⟩ = some (.string (B nd.2.1)) ∧ w.cell? ⟨g, j * 3 + 2, none⟩ = some kv ∧ nd.2.1.length ≤ maxLen ∧ w.ownsRow base 3 1 kv nd.2.2.length (iv nd.2.2)) ∧
 Apart kvs ∧ (∀ kv ∈ kvs, kv.ownBlock ≠ some g)
theorem NodesOwn.below {w w' : World} {base g n : Nat} {ns : List Nd} {kvs : List Value} (h : NodesOwn w base g n ns kvs) (k : Below w.heap.size w w') : NodesOwn w' base g n ns kvs := by
 obtain ⟨⟨h1, h2, h3⟩, hf, hc, hn, ha, hg⟩ := h
 refine ⟨⟨h1, Nat.lt_of_lt_of_le h2 k.size, h3⟩, fun j => by rw [k.frozen (p := ⟨g, j, none⟩) h2]; exact hf j, fun j hj => ?_, fun j nd kv e1 e2 => ?_, ha, hg⟩
 ·obtain ⟨u, hu⟩ := hc j hj
  exact ⟨u, by rw [k.cell (p := ⟨g, j, none⟩) h2]; exact hu⟩
 ·obtain ⟨c0, c1, c2, hl, ho⟩ := hn j nd kv e1 e2
  exact ⟨by rw [k.cell (p := ⟨g, j * 3, none⟩) h2]; exact c0, by rw [k.cell (p := ⟨g, j * 3 + 1, none⟩) h2]; exact c1, by rw [k.cell (p := ⟨g, j * 3 + 2, none⟩) h2]; exact c2, hl, zr ho k⟩
theorem vE {w : World} {g i : Nat} {u v t : Value} {a : Addr} (h : a.block = g → a.off < i ∨ i + 3 ≤ a.off) : (((w.setCell ⟨g, i, none⟩ u).setCell ⟨g, i + 1, none⟩ v).setCell ⟨g, i + 2, none⟩ t).cell? a = w.cell? a := by
 have key : ∀ j, j < 3 → (⟨g, i + j, none⟩ : Addr) ≠ a := by
  intro j hj e
  subst e
  have := h rfl
  simp at this
  omega
 rw [World.cell?_setCell_other _ _ _ _ (key 2 (by omega)), World.cell?_setCell_other _ _ _ _ (key 1 (by omega)), World.cell?_setCell_other _ ⟨g, i, none⟩ _ _ (key 0 (by omega))]
theorem Xb {w : World} {g i : Nat} {u v t : Value} (h0 : ∃ x, w.cell? ⟨g, i, none⟩ = some x) (h1 : ∃ x, w.cell? ⟨g, i + 1, none⟩ = some x) (h2 : ∃ x, w.cell? ⟨g, i + 2, none⟩ = some x) :
  (((w.setCell ⟨g, i, none⟩ u).setCell ⟨g, i + 1, none⟩ v).setCell ⟨g, i + 2, none⟩ t).cell? ⟨g, i, none⟩ = some u ∧
  (((w.setCell ⟨g, i, none⟩ u).setCell ⟨g, i + 1, none⟩ v).setCell ⟨g, i + 2, none⟩ t).cell? ⟨g, i + 1, none⟩ = some v ∧
  (((w.setCell ⟨g, i, none⟩ u).setCell ⟨g, i + 1, none⟩ v).setCell ⟨g, i + 2, none⟩ t).cell? ⟨g, i + 2, none⟩ = some t := by
 obtain ⟨x0, h0⟩ := h0
 obtain ⟨x1, h1⟩ := h1
 obtain ⟨x2, h2⟩ := h2
 have n01 : (⟨g, i, none⟩ : Addr) ≠ ⟨g, i + 1, none⟩ := by intro e; injection e with _ e2; omega
 have n02 : (⟨g, i, none⟩ : Addr) ≠ ⟨g, i + 2, none⟩ := by intro e; injection e with _ e2; omega
 have n12 : (⟨g, i + 1, none⟩ : Addr) ≠ ⟨g, i + 2, none⟩ := by intro e; injection e with _ e2; omega
 refine ⟨?_, ?_, ?_⟩
 ·rw [World.cell?_setCell_other _ _ _ _ (Ne.symm n02), World.cell?_setCell_other _ _ _ _ (Ne.symm n01), World.cell?_setCell_same _ _ _ h0]
 ·rw [World.cell?_setCell_other _ _ _ _ (Ne.symm n12)]
  exact World.cell?_setCell_same _ _ _ (u := x1) (by rw [World.cell?_setCell_other _ _ _ _ n01]; exact h1)
 ·exact World.cell?_setCell_same _ _ _ (u := x2) (by rw [World.cell?_setCell_other _ _ _ _ n12, World.cell?_setCell_other _ _ _ _ n02]; exact h2)
theorem K5 {w : World} {g i : Nat} {u v t : Value} {a : Addr} (h : ∃ x, w.cell? a = some x) : ∃ x, (((w.setCell ⟨g, i, none⟩ u).setCell ⟨g, i + 1, none⟩ v).setCell ⟨g, i + 2, none⟩ t).cell? a = some x := by
 have key : ∀ {w : World} {p : Addr} {x : Value}, (∃ y, w.cell? a = some y) → ∃ y, (w.setCell p x).cell? a = some y := by
  intro w p x ⟨y, hy⟩
  by_cases e : p = a
  ·subst e; exact ⟨x, World.cell?_setCell_same _ _ _ hy⟩
  ·exact ⟨y, by rw [World.cell?_setCell_other _ _ _ _ e]; exact hy⟩
 exact key (key (key h))
theorem kC {w : World} {base g i n : Nat} {e : TypeId} {size : Nat} {kv : Value} {xs : List Value} {u v t : Value} (h : w.ownsRow base e size kv n xs) (hg : kv.ownBlock ≠ some g) :
  (((w.setCell ⟨g, i, none⟩ u).setCell ⟨g, i + 1, none⟩ v).setCell ⟨g, i + 2, none⟩ t).ownsRow base e size kv n xs := by
 refine h.kept (row := some g) ⟨rfl, rfl, rfl, by simp, fun k _ hk => ?_⟩ (.inr hg)
 have hk' : k ≠ g := fun e => hk (by rw [e])
 rw [heap_setCell_other _ ⟨g, i + 2, none⟩ k _ hk', heap_setCell_other _ ⟨g, i + 1, none⟩ k _ hk', heap_setCell_other _ ⟨g, i, none⟩ k _ hk']
theorem NodesOwn.store {w : World} {base g n : Nat} {ns : List Nd} {kvs : List Value} {nd : Nd} {kv : Value} (h : NodesOwn w base g n ns kvs) (hk : ns.length < n) (hl : nd.2.1.length ≤ maxLen) (ho : w.ownsRow base 3 1 kv nd.2.2.length (iv nd.2.2)) (hg : kv.ownBlock ≠ some g)
  (hd : ∀ k' ∈ kvs, ∀ i, k'.ownBlock = some i → kv.ownBlock ≠ some i) :
  NodesOwn (((w.setCell ⟨g, ns.length * 3, none⟩ (.int .i64 nd.1)).setCell ⟨g, ns.length * 3 + 1, none⟩ (.string (B nd.2.1))).setCell ⟨g, ns.length * 3 + 2, none⟩ kv) base g n (ns ++ [nd]) (kvs ++ [kv]) := by
 obtain ⟨⟨h1, h2, h3⟩, hf, hc, hn, ha, hgg⟩ := h
 refine ⟨⟨h1, by simpa using h2, by simp [h3]⟩, fun j => by simpa using hf j, fun j hj => K5 (hc j hj), fun j nd' kv' e1 e2 => ?_, ?_, ?_⟩
 ·by_cases hj : j < ns.length
  ·rw [List.getElem?_append_left hj] at e1
   rw [List.getElem?_append_left (by omega)] at e2
   obtain ⟨c0, c1, c2, hl', ho'⟩ := hn j nd' kv' e1 e2
   refine ⟨?_, ?_, ?_, hl', kC ho' (hgg kv' (List.mem_of_getElem? e2))⟩
   ·rw [vE (by intro _; left; show j * 3 < ns.length * 3; omega)]; exact c0
   ·rw [vE (by intro _; left; show j * 3 + 1 < ns.length * 3; omega)]; exact c1
   ·rw [vE (by intro _; left; show j * 3 + 2 < ns.length * 3; omega)]; exact c2
  ·have hj2 : j = ns.length := by
    have := (List.getElem?_eq_some_iff.1 e1).1
    simp at this; omega
   subst hj2
   rw [List.getElem?_append_right (Nat.le_refl _)] at e1
   rw [List.getElem?_append_right (by omega), h3] at e2
   simp at e1 e2
   subst e1 e2
   obtain ⟨c0, c1, c2⟩ := Xb (w := w) (g := g) (i := ns.length * 3) (u := .int .i64 nd.1) (v := .string (B nd.2.1)) (t := kv) (hc _ (by omega)) (hc _ (by omega)) (hc _ (by omega))
   exact ⟨c0, c1, c2, hl, kC ho hg⟩
 ·unfold Apart
  rw [List.pairwise_append]
  refine ⟨ha, List.pairwise_singleton _ _, fun a ha' b hb => ?_⟩
  simp at hb
  subst hb
  exact hd a ha'
 ·intro k' hk'
  simp at hk'
  rcases hk' with hk' | rfl
  ·exact hgg k' hk'
  ·exact hg
theorem Tryz.infoNode : (Tryz.prog.info? 56).map (fun i => (i.zero, i.size, i.bytes)) = some (some (.agg #[.int .i64 0, .string ⟨#[]⟩, .slice none 0 0]), 3, 48) := by kernel_rfl
theorem NodesOwn.made {w : World} {g n cap : Nat} {xs : List Value} (h : w.ownsRow g 56 3 (.slice (some ⟨g, 0, none⟩) n cap) n xs) (hg : g < w.heap.size) : NodesOwn w g g n [] [] :=
 ⟨⟨Nat.le_refl _, hg, rfl⟩, fun j => h.frozenAt j, fun j hj => by
   have hx : j < xs.length := by rw [h.1]; exact hj
   exact ⟨xs[j], by rw [h.cellAt j hj]; exact List.getElem?_eq_getElem hx⟩, fun j nd kv e1 _ => by simp at e1, List.Pairwise.nil, fun kv hk => by simp at hk⟩
theorem NodesOwn.old {w : World} {base g n : Nat} {ns : List Nd} {kvs : List Value} (h : NodesOwn w base g n ns kvs) : ∀ k' ∈ kvs, ∀ i, k'.ownBlock = some i → i < w.heap.size := by
 intro k' hk i hi
 obtain ⟨j, hj⟩ := List.getElem?_of_mem hk
 have hjl := (List.getElem?_eq_some_iff.1 hj).1
 have hl := h.1.2.2
 obtain ⟨_, _, _, _, ho⟩ := h.2.2.2.1 j (ns[j]'(by omega)) k' (List.getElem?_eq_getElem _) hj
 exact (ho.lt i hi).2
def DataOwn (w : World) (base top : Nat) (v : Value) (d : Dt) : Prop :=
 ∃ nv rv kvs, v = .agg #[nv, rv] ∧ ((d.1 = [] ∧ nv = .slice none 0 0 ∧ kvs = []) ∨ ∃ g cap, nv = .slice (some ⟨g, 0, none⟩) d.1.length cap ∧ d.1.length ≤ cap ∧ cap ≤ maxLen ∧ NodesOwn w base g d.1.length d.1 kvs) ∧
  w.ownsRow base 3 1 rv d.2.length (iv d.2) ∧ Apart (rv :: kvs) ∧ (∀ i, nv.ownBlock = some i → rv.ownBlock ≠ some i) ∧ (∀ x, x = nv ∨ x = rv ∨ x ∈ kvs → ∀ i, x.ownBlock = some i → i < top) ∧ top ≤ w.heap.size
theorem NodesOwn.base {w : World} {base base' g n : Nat} {ns : List Nd} {kvs : List Value} (h : NodesOwn w base g n ns kvs) (hb : base' ≤ base) : NodesOwn w base' g n ns kvs := by
 obtain ⟨⟨h1, h2, h3⟩, hf, hc, hn, ha, hg⟩ := h
 exact ⟨⟨Nat.le_trans hb h1, h2, h3⟩, hf, hc, fun j nd kv e1 e2 => by
  obtain ⟨c0, c1, c2, hl, ho⟩ := hn j nd kv e1 e2
  exact ⟨c0, c1, c2, hl, zK ho hb⟩, ha, hg⟩
theorem NodesOwn.at {w : World} {base g n cap : Nat} {ns : List Nd} {kvs : List Value} (h : NodesOwn w base g n ns kvs) (hc : ns.length ≤ cap) (hm : cap ≤ maxLen) : NodesAt w (.slice (some ⟨g, 0, none⟩) ns.length cap) ns := by
 obtain ⟨⟨h1, h2, h3⟩, hf, hcc, hn, ha, hg⟩ := h
 refine ⟨_, cap, rfl, hc, hm, fun _ => ⟨g, 0, rfl, h2, fun j nd e1 => ?_⟩⟩
 have hj := (List.getElem?_eq_some_iff.1 e1).1
 obtain ⟨c0, c1, c2, hl, ho⟩ := hn j nd (kvs[j]'(by omega)) e1 (List.getElem?_eq_getElem _)
 exact ⟨by simpa using c0, by simpa using c1, hl, _, by simpa using c2, qD ho⟩
theorem DataOwn.at {w : World} {base top : Nat} {v : Value} {d : Dt} (h : DataOwn w base top v d) : DataAt w v d := by
 obtain ⟨nv, rv, kvs, rfl, hn, hr, _⟩ := h
 refine ⟨nv, rv, rfl, ?_, qD hr⟩
 rcases hn with ⟨e1, rfl, _⟩ | ⟨g, cap, rfl, h1, h2, hn⟩
 ·rw [e1]; exact ⟨none, 0, rfl, Nat.le_refl _, by unfold maxLen; omega, fun h => absurd h (by simp)⟩
 ·exact hn.at h1 h2
theorem NodesOwn.far {w : World} {base g n : Nat} {ns : List Nd} {kvs : List Value} (h : NodesOwn w base g n ns kvs) {a : Addr} (ha : a.block < base) (u : Value) : NodesOwn (w.setCell a u) base g n ns kvs := by
 obtain ⟨⟨h1, h2, h3⟩, hf, hc, hn, ha', hg⟩ := h
 have key : ∀ j, (w.setCell a u).cell? ⟨g, j, none⟩ = w.cell? ⟨g, j, none⟩ := fun j => World.cell?_setCell_far _ _ _ _ (by show a.block ≠ g; omega)
 refine ⟨⟨h1, by simpa using h2, h3⟩, fun j => by simpa using hf j, fun j hj => by rw [key]; exact hc j hj, fun j nd kv e1 e2 => ?_, ha', hg⟩
 obtain ⟨c0, c1, c2, hl, ho⟩ := hn j nd kv e1 e2
 exact ⟨by rw [key]; exact c0, by rw [key]; exact c1, by rw [key]; exact c2, hl, ownsRow_setCell_below ho ha u⟩
structure Keeps (g : Nat) (w w' : World) : Prop where
 os : w'.os = w.os
 tape : w'.tape = w.tape
 output : w'.output = w.output
 size : w.heap.size ≤ w'.heap.size
 block : ∀ k, k < w.heap.size → k ≠ g → w'.heap[k]? = w.heap[k]?
theorem Keeps.refl (g : Nat) (w : World) : Keeps g w w := ⟨rfl, rfl, rfl, Nat.le_refl _, fun _ _ _ => rfl⟩
theorem Keeps.trans {g : Nat} {a b c : World} (h : Keeps g a b) (k : Keeps g b c) : Keeps g a c :=
 ⟨k.os.trans h.os, k.tape.trans h.tape, k.output.trans h.output, Nat.le_trans h.size k.size, fun i hi hg => (k.block i (Nat.lt_of_lt_of_le hi h.size) hg).trans (h.block i hi hg)⟩
theorem Keeps.of_below {g : Nat} {w w' : World} (h : Below w.heap.size w w') : Keeps g w w' := ⟨h.os, h.tape, h.output, h.size, fun k hk _ => h.block k hk⟩
theorem Keeps.below {g B : Nat} {w w' : World} (h : Keeps g w w') (hg : B ≤ g) (hB : B ≤ w.heap.size) : Below B w w' := ⟨h.os, h.tape, h.output, h.size, fun k hk => h.block k (by omega) (by omega)⟩
theorem Keeps.drew {g : Nat} {a w : World} (h : Keeps g a w) : Keeps g a w.drew := ⟨h.os, h.tape, h.output, h.size, h.block⟩
theorem Keeps.drewN {g : Nat} {a w : World} (h : Keeps g a w) (n : Nat) : Keeps g a (w.drewN n) := ⟨h.os, h.tape, h.output, h.size, h.block⟩
theorem Keeps.alloc {g : Nat} {a w : World} (h : Keeps g a w) (o : Obj) : Keeps g a (w.alloc o) := h.trans (Keeps.of_below ((Below.refl _ _).alloc (Nat.le_refl _) o))
theorem Keeps.setOwn {g : Nat} {a w : World} (h : Keeps g a w) {p : Addr} (hp : p.block = g) (u : Value) : Keeps g a (w.setCell p u) :=
 h.trans ⟨rfl, rfl, rfl, by simp [World.setCell], fun k _ hg => Below.heap_setCell _ _ _ _ (by omega)⟩
theorem Keeps.cell {g : Nat} {w w' : World} (h : Keeps g w w') {p : Addr} (hp : p.block < w.heap.size) (hg : p.block ≠ g) : w'.cell? p = w.cell? p := World.cell?_of_block (w := w) (h.block p.block hp hg)
def Byts (w : World) (g : Nat) (a : Option Addr) (n : Nat) : Prop :=
 0 < n → ∃ q o, a = some ⟨q, o, none⟩ ∧ q < g ∧ q < w.heap.size ∧ ∀ j, j < n → ∃ x : Nat, x ≤ 255 ∧ w.cell? ⟨q, o + j, none⟩ = some (.int .u8 (x : Int))
theorem Byts.keeps {w w' : World} {g : Nat} {a : Option Addr} {n : Nat} (h : Byts w g a n) (k : Keeps g w w') : Byts w' g a n := by
 intro hn
 obtain ⟨q, o, rfl, hqg, hq, hc⟩ := h hn
 refine ⟨q, o, rfl, hqg, Nat.lt_of_lt_of_le hq k.size, fun j hj => ?_⟩
 obtain ⟨x, hx, hcj⟩ := hc j hj
 exact ⟨x, hx, by rw [k.cell hq (Nat.ne_of_lt hqg)]; exact hcj⟩
structure Rd (w : World) (g p : Nat) (a : Option Addr) (n cap : Nat) : Prop where
 heap : w.heap[g]? = some (.cells #[.slice a n cap, .int .i64 (p : Int)] 76 (0, 0))
 byts : Byts w g a n
 len : n ≤ 2000
theorem Rd.keep {w w' : World} {g p : Nat} {a : Option Addr} {n cap : Nat} (h : Rd w g p a n cap) (hb : Below w.heap.size w w') : Rd w' g p a n cap :=
 ⟨by rw [hb.block g (Array.getElem?_eq_some_iff.1 h.heap).1]; exact h.heap, h.byts.keeps (Keeps.of_below hb), h.len⟩
theorem Rd.drewN {w : World} {g p : Nat} {a : Option Addr} {n cap : Nat} (h : Rd w g p a n cap) (k : Nat) : Rd (w.drewN k) g p a n cap := ⟨h.heap, h.byts, h.len⟩
theorem Rd.drew {w : World} {g p : Nat} {a : Option Addr} {n cap : Nat} (h : Rd w g p a n cap) : Rd w.drew g p a n cap := ⟨h.heap, h.byts, h.len⟩
theorem Rd.lt {w : World} {g p : Nat} {a : Option Addr} {n cap : Nat} (h : Rd w g p a n cap) : g < w.heap.size := (Array.getElem?_eq_some_iff.1 h.heap).1
theorem Rd.c0 {w : World} {g p : Nat} {a : Option Addr} {n cap : Nat} (h : Rd w g p a n cap) : w.cell? ⟨g, 0, none⟩ = some (.slice a n cap) := by simp [World.cell?, h.heap]
theorem Rd.c1 {w : World} {g p : Nat} {a : Option Addr} {n cap : Nat} (h : Rd w g p a n cap) : w.cell? ⟨g, 1, none⟩ = some (.int .i64 (p : Int)) := by simp [World.cell?, h.heap]
theorem Rd.f1 {w : World} {g p : Nat} {a : Option Addr} {n cap : Nat} (h : Rd w g p a n cap) : w.frozen? ⟨g, 1, none⟩ = false := by simp [World.frozen?, h.heap]
theorem Rd.next {w : World} {g p : Nat} {a : Option Addr} {n cap : Nat} (h : Rd w g p a n cap) (v : Int) (hv : v = ((p + 1 : Nat) : Int)) : Rd (w.setCell ⟨g, 1, none⟩ (.int .i64 v)) g (p + 1) a n cap := by
 refine ⟨?_, h.byts.keeps ((Keeps.refl g w).setOwn (p := ⟨g, 1, none⟩) rfl _), h.len⟩
 subst hv
 rw [show (w.setCell ⟨g, 1, none⟩ (.int .i64 ((p + 1 : Nat) : Int))).heap[g]? = _ from Array.getElem?_modify, if_pos rfl, h.heap]
 simp
theorem Rd.below {w w' : World} {g p : Nat} {a : Option Addr} {n cap : Nat} (h : Rd w g p a n cap) (hb : Below (g + 1) w w') : Rd w' g p a n cap := by
 refine ⟨by rw [hb.block g (by omega)]; exact h.heap, ?_, h.len⟩
 intro hn
 obtain ⟨q, o, rfl, hqg, hq, hc⟩ := h.byts hn
 refine ⟨q, o, rfl, hqg, Nat.lt_of_lt_of_le hq hb.size, fun j hj => ?_⟩
 obtain ⟨x, hx, hcj⟩ := hc j hj
 exact ⟨x, hx, by rw [hb.cell (p := ⟨q, o + j, none⟩) (by show q < g + 1; omega)]; exact hcj⟩
def Drawn (w : World) (g p n cap : Nat) (a : Option Addr) (k : Nat) (w' : World) : Prop := (∃ p', p' ≤ p + k ∧ Rd w' g p' a n cap) ∧ Keeps g w w'
theorem Drawn.more {w w1 w2 : World} {g p n cap k : Nat} {a : Option Addr} (h : Drawn w g p n cap a k w1) (hg : g < w.heap.size) (hb : Below w.heap.size w1 w2) : Drawn w g p n cap a k w2 := by
 obtain ⟨⟨p', hp, hr⟩, hk⟩ := h
 exact ⟨⟨p', hp, hr.below (hb.mono (by omega))⟩, ⟨hb.os.trans hk.os, hb.tape.trans hk.tape, hb.output.trans hk.output, Nat.le_trans hk.size hb.size, fun i hi hig => (hb.block i hi).trans (hk.block i hi hig)⟩⟩
theorem Drawn.made {w w1 : World} {g p n cap k : Nat} {a : Option Addr} {o : Obj} (h : Drawn (w.alloc o) g p n cap a k w1) : Drawn w g p n cap a k w1 := ⟨h.1, ((Keeps.refl g w).alloc o).trans h.2⟩
theorem Rd.alloc {w : World} {g p : Nat} {a : Option Addr} {n cap : Nat} (h : Rd w g p a n cap) (o : Obj) : Rd (w.alloc o) g p a n cap := h.keep ((Below.refl _ _).alloc (Nat.le_refl _) _)
def At3 (w : World) (b : Nat) (x y z : Value) : Prop := w.heap[b]? = some (.cells #[x, y, z] 79 (0, 0))
theorem At3.lt {w : World} {b : Nat} {x y z : Value} (h : At3 w b x y z) : b < w.heap.size := (Array.getElem?_eq_some_iff.1 h).1
theorem At3.new (w : World) (x y z : Value) : At3 (w.alloc (.cells #[x, y, z] 79)) w.heap.size x y z := by
 show (w.heap.push _)[w.heap.size]? = _; rw [Array.getElem?_push, if_pos rfl]
theorem At3.keeps {w w' : World} {b g : Nat} {x y z : Value} (h : At3 w b x y z) (k : Keeps g w w') (hg : b ≠ g) : At3 w' b x y z := (k.block b h.lt hg).trans h
theorem At3.c0 {w : World} {b : Nat} {x y z : Value} (h : At3 w b x y z) : w.cell? ⟨b, 0, none⟩ = some x := by unfold At3 at h; simp [World.cell?, h]
theorem At3.c1 {w : World} {b : Nat} {x y z : Value} (h : At3 w b x y z) : w.cell? ⟨b, 1, none⟩ = some y := by unfold At3 at h; simp [World.cell?, h]
theorem At3.c2 {w : World} {b : Nat} {x y z : Value} (h : At3 w b x y z) : w.cell? ⟨b, 2, none⟩ = some z := by unfold At3 at h; simp [World.cell?, h]
theorem At3.f {w : World} {b : Nat} {x y z : Value} (h : At3 w b x y z) (j : Nat) : w.frozen? ⟨b, j, none⟩ = false := by unfold At3 at h; simp [World.frozen?, h]
theorem Kt {x y : Int} (hx0 : 0 ≤ x) (hx : x < 4611686018427387904) (hy0 : 0 ≤ y) (hy : y < 4611686018427387904) : 0 ≤ bits .xor .i64 x y ∧ bits .xor .i64 x y < 4611686018427387904 := by
 obtain ⟨a, rfl⟩ := Int.eq_ofNat_of_zero_le hx0
 obtain ⟨b, rfl⟩ := Int.eq_ofNat_of_zero_le hy0
 have e : (BitVec.ofInt 64 (a : Int) ^^^ BitVec.ofInt 64 (b : Int)).toNat = a ^^^ b := by
  rw [BitVec.toNat_xor, BitVec.ofInt_natCast, BitVec.ofInt_natCast, BitVec.toNat_ofNat, BitVec.toNat_ofNat, Nat.mod_eq_of_lt (by omega), Nat.mod_eq_of_lt (by omega)]
 have hlt : a ^^^ b < 2 ^ 62 := Nat.xor_lt_two_pow (by omega) (by omega)
 have hw : bits .xor .i64 (a : Int) (b : Int) = ((a ^^^ b : Nat) : Int) := by
  show IntKind.i64.wrap ((BitVec.ofInt 64 (a : Int) ^^^ BitVec.ofInt 64 (b : Int)).toNat : Int) = _
  rw [e, wi64 _ (by omega) (by omega)]
 rw [hw]; omega
end Go.Proofs.YtpbnmhnbkfnaeaaGreatDoor
namespace Go.Proofs.YtpbnmhnbkfnaeaaGreatDoor
open Go.RowKit Nt
def Row (Q : Nat → Value → Prop) (s : Nat) (e : TypeId) (w : World) (b c n : Nat) : Prop :=
 ∃ cs : Array Value, w.heap[b]? = some (.cells cs e (0, 0)) ∧ cs.size = c * s ∧ ∀ j u, j < n * s → cs[j]? = some u → Q (j % s) u
def SRow (Q : Nat → Value → Prop) (s : Nat) (e : TypeId) (w : World) (base : Nat) (v : Value) (n : Nat) : Prop :=
 (v = .slice none 0 0 ∧ n = 0) ∨ ∃ g c, v = .slice (some ⟨g, 0, none⟩) n c ∧ base ≤ g ∧ n ≤ c ∧ c ≤ maxLen ∧ Row Q s e w g c n
theorem Row.lt {Q : Nat → Value → Prop} {s : Nat} {e : TypeId} {w : World} {b c n : Nat} (h : Row Q s e w b c n) : b < w.heap.size := by
 obtain ⟨cs, h, _⟩ := h; exact (Array.getElem?_eq_some_iff.1 h).1
theorem Row.cap {Q Q' : Nat → Value → Prop} {s : Nat} {e : TypeId} {w : World} {b c c' n n' : Nat} (hs : 0 < s) (h : Row Q s e w b c n) (h' : Row Q' s e w b c' n') : c = c' := by
 obtain ⟨cs, h1, h2, _⟩ := h
 obtain ⟨cs', k1, k2, _⟩ := h'
 rw [h1] at k1
 simp only [Option.some.injEq, Obj.cells.injEq] at k1
 rw [k1.1, k2] at h2
 exact (Nat.eq_of_mul_eq_mul_right hs h2).symm
theorem Row.map {Q Q' : Nat → Value → Prop} {s : Nat} {e : TypeId} {w : World} {b c n : Nat} (h : Row Q s e w b c n) (hq : ∀ j u, Q j u → Q' j u) : Row Q' s e w b c n := by
 obtain ⟨cs, h1, h2, h3⟩ := h; exact ⟨cs, h1, h2, fun j u hj hu => hq _ _ (h3 j u hj hu)⟩
theorem Row.same {Q : Nat → Value → Prop} {s : Nat} {e : TypeId} {w w' : World} {b c n : Nat} (h : Row Q s e w b c n) (hb : w'.heap[b]? = w.heap[b]?) : Row Q s e w' b c n := by
 obtain ⟨cs, h1, h2⟩ := h; exact ⟨cs, hb.trans h1, h2⟩
theorem Row.cell {Q : Nat → Value → Prop} {s : Nat} {e : TypeId} {w : World} {b c n : Nat} (h : Row Q s e w b c n) (hn : n ≤ c) {j : Nat} (hj : j < n * s) : ∃ u, w.cell? ⟨b, j, none⟩ = some u ∧ Q (j % s) u := by
 obtain ⟨cs, h1, h2, h3⟩ := h
 have hle : n * s ≤ c * s := Nat.mul_le_mul_right _ hn
 have hx : cs[j]? = some (cs[j]'(by omega)) := Array.getElem?_eq_getElem _
 exact ⟨_, by simp only [World.cell?, h1]; exact hx, h3 j _ hj hx⟩
theorem Row.frozen {Q : Nat → Value → Prop} {s : Nat} {e : TypeId} {w : World} {b c n : Nat} (h : Row Q s e w b c n) (j : Nat) : w.frozen? ⟨b, j, none⟩ = false := by
 obtain ⟨cs, h1, h2, h3⟩ := h
 simp [World.frozen?, h1]
theorem Row.set {Q : Nat → Value → Prop} {s : Nat} {e : TypeId} {w : World} {b c n : Nat} (h : Row Q s e w b c n) {i : Nat} {x : Value} (hx : Q (i % s) x) : Row Q s e (w.setCell ⟨b, i, none⟩ x) b c n := by
 obtain ⟨cs, h1, h2, h3⟩ := h
 refine ⟨cs.setIfInBounds i x, ?_, by simpa using h2, fun j u hj hu => ?_⟩
 ·show (w.heap.modify b _)[b]? = _
  rw [Array.getElem?_modify, if_pos rfl, h1]; rfl
 ·rw [Array.getElem?_setIfInBounds] at hu
  split at hu
  ·rename_i e; subst e
   split at hu
   ·simp at hu; subst hu; exact hx
   ·simp at hu
  ·exact h3 j u hj hu
section
variable {P : Program}
theorem yJ (Q : Nat → Value → Prop) (w : World) (base s : Nat) (t ty e : TypeId) (i : TypeInfo) (z : Value) (bytes : Nat) (ht : P.underlying t = some (.slice e)) (hi : P.info? e = some i) (hz : i.zero = some z)
  (hsize : i.size = s) (hby : i.bytes = bytes) (hzs : z.cells.size = s) (hs : 0 < s)
  (v : Value) (n : Nat) (hv : SRow Q s e w base v n) (ad : Addr) (m c : Nat) (news : List Value) (hl : news.length = m * s) (hnews : ∀ j u, news[j]? = some u → w.cell? (ad.add j) = some u) (h1 : ∀ u ∈ news, u.oneCell' = true)
  (hQ : ∀ j u, news[j]? = some u → Q (j % s) u) (hm : 0 < m) (h63 : n + m ≤ maxLen) (hbytes : (n + m) * bytes ≤ 140737488355328) (hbase : base ≤ w.heap.size) :
  ∃ g cap w', (Builtin.append_ #[t, t] ty #[v, .slice (some ad) m c]).run P w = .ok (.slice (some ⟨g, 0, none⟩) (n + m) cap) w' ∧
   SRow Q s e w' base (.slice (some ⟨g, 0, none⟩) (n + m) cap) (n + m) ∧ w.grownBy w' v.ownBlock ∧ (∀ b c k, Row Q s e w b c k → Row Q s e w' b c k) := by
 subst hsize
 subst hby
 have grown : ∀ (olds : List Value) (old : Nat), old < n + m → olds.length = n * i.size → (∀ j u, olds[j]? = some u → Q (j % i.size) u) → ∀ (row : Option Nat) (w' : World),
   w' = w.drew.alloc (.cells (olds.toArray ++ news.toArray ++ Builtin.zeroCells z.cells (grownCap w (n + m) old e - (n + m))) e) →
   SRow Q i.size e w' base (.slice (some ⟨w.heap.size, 0, none⟩) (n + m) (grownCap w (n + m) old e)) (n + m) ∧ w.grownBy w' row ∧ (∀ b c k, Row Q i.size e w b c k → Row Q i.size e w' b c k) := by
  intro olds old ho hlo hqo row w' hw'
  subst hw'
  have hge := grownCap_ge w (n + m) old e
  have hcm : grownCap w (n + m) old e ≤ maxLen := grownCap_le_maxLen w (n + m) old e h63
  obtain ⟨G, hG⟩ : ∃ G, grownCap w (n + m) old e = G := ⟨_, rfl⟩
  rw [hG] at hge hcm ⊢
  refine ⟨.inr ⟨_, _, rfl, hbase, hge, hcm, _, heap_alloc_new w.drew _, ?_, ?_⟩, ⟨rfl, rfl, rfl, by simp, fun k hk _ => heap_alloc_old w.drew _ hk⟩, fun b c k hr => hr.same (heap_alloc_old w.drew _ hr.lt)⟩
  ·simp only [Array.size_append, List.size_toArray, size_zeroCells, hzs, hlo, hl, ← Nat.add_mul]
   congr 1
   omega
  ·intro j u hjm hu
   rw [← Array.getElem?_toList] at hu
   simp only [Array.toList_append, List.append_assoc] at hu
   rw [Nat.add_mul] at hjm
   by_cases hj : j < n * i.size
   ·rw [List.getElem?_append_left (by omega)] at hu
    exact hqo j u hu
   ·rw [List.getElem?_append_right (by omega)] at hu
    rw [List.getElem?_append_left (by omega)] at hu
    have := hQ _ u hu
    rw [hlo] at this
    have e1 : (j - n * i.size) % i.size = j % i.size := by
     rw [Nat.mul_comm]
     exact Nat.sub_mul_mod (by rw [Nat.mul_comm]; omega)
    rwa [e1] at this
 rcases hv with ⟨rfl, rfl⟩ | ⟨g, cap, rfl, hbg, hnc, hcm, cur, hg, hcs, hq⟩
 ·have hr := run_append_nil (P := P) w t ty e i z ht hi hz ad m c news hl hnews (by omega) (by unfold maxLen at h63; omega) (by have hb := hbytes; simp only [Nat.zero_add] at hb; omega)
  have hgr := grown [] 0 (by omega) (by simp) (fun j u h => by simp at h) (Value.ownBlock (.slice none 0 0)) _ rfl
  simp only [Nat.zero_add, Array.empty_append] at hgr ⊢
  exact ⟨_, _, _, hr, hgr.1, hgr.2.1, hgr.2.2⟩
 ·have hlc : n * i.size ≤ cur.size := by rw [hcs]; exact Nat.mul_le_mul_right _ hnc
  by_cases hroom : n + m ≤ cap
  ·have hfit : n * i.size + news.length ≤ cur.size := by rw [hl, hcs, ← Nat.add_mul]; exact Nat.mul_le_mul_right _ hroom
   have hr := run_append_room (P := P) w t ty e i ht hi g n cap cur hg ad m c news hl hnews h1 hroom hfit
   have hRow : ∀ k, (∀ j u, j < k * i.size → (j < n * i.size ∨ n * i.size + news.length ≤ j) → cur[j]? = some u → Q (j % i.size) u) →
     Row Q i.size e (w.setRow g (cur.toList.take (n * i.size) ++ news ++ cur.toList.drop (n * i.size + news.length)).toArray) g cap k := by
    intro k hk
    refine ⟨_, setRow_heap w g cur _ e _ hg, ?_, fun j u hjk hu => ?_⟩
    ·simp only [List.size_toArray, List.length_append, List.length_take, List.length_drop, Array.length_toList]
     omega
    ·rw [← Array.getElem?_toList] at hu
     simp only [List.append_assoc] at hu
     have hlt : (cur.toList.take (n * i.size)).length = n * i.size := by rw [List.length_take, Array.length_toList]; omega
     by_cases hj : j < n * i.size
     ·rw [List.getElem?_append_left (by omega), List.getElem?_take] at hu
      rw [if_pos hj, Array.getElem?_toList] at hu
      exact hk j u hjk (.inl hj) hu
     ·rw [List.getElem?_append_right (by omega), hlt] at hu
      by_cases hj2 : j - n * i.size < news.length
      ·rw [List.getElem?_append_left hj2] at hu
       have := hQ _ u hu
       have e1 : (j - n * i.size) % i.size = j % i.size := by
        rw [Nat.mul_comm]
        exact Nat.sub_mul_mod (by rw [Nat.mul_comm]; omega)
       rwa [e1] at this
      ·rw [List.getElem?_append_right (by omega), List.getElem?_drop, Array.getElem?_toList] at hu
       rw [show n * i.size + news.length + (j - n * i.size - news.length) = j by omega] at hu
       exact hk j u hjk (.inr (by omega)) hu
   refine ⟨_, _, _, hr, .inr ⟨_, _, rfl, hbg, hroom, hcm, hRow (n + m) fun j u hj ho hu => ?_⟩, ⟨rfl, rfl, rfl, by simp, fun k _ hk => setRow_other w g k _ (fun e => hk (by simp [Value.ownBlock, e]))⟩, fun b c' k hb => ?_⟩
   ·rcases ho with ho | ho
    ·exact hq j u ho hu
    ·rw [Nat.add_mul] at hj; omega
   ·by_cases hbg2 : b = g
    ·subst hbg2
     rw [← Row.cap hs ⟨cur, hg, hcs, hq⟩ hb]
     obtain ⟨cs', k1, k2, k3⟩ := hb
     rw [hg] at k1
     simp only [Option.some.injEq, Obj.cells.injEq] at k1
     obtain ⟨rfl, _⟩ := k1
     exact hRow k fun j u hj _ hu => k3 j u hj hu
    ·exact hb.same (setRow_other w g b _ hbg2)
  ·have hlo : (cur.toList.take (n * i.size)).length = n * i.size := by rw [List.length_take, Array.length_toList]; omega
   have holds : ∀ j u, (cur.toList.take (n * i.size))[j]? = some u → w.cell? ((⟨g, 0, none⟩ : Addr).add j) = some u := by
    intro j u hu
    rw [List.getElem?_take] at hu
    split at hu
    ·exact World.news_of_block hg j u hu
    ·simp at hu
   have hr := run_append_grow (P := P) w t ty e i z ht hi hz ⟨g, 0, none⟩ n cap _ hlo holds ad m c news hl hnews (by omega) (by unfold maxLen at h63; omega) (growslice_fits (by omega) hbytes)
   have hgr := grown (cur.toList.take (n * i.size)) cap (by omega) hlo (fun j u hu => by
    rw [List.getElem?_take] at hu
    split at hu
    ·rename_i hj; rw [Array.getElem?_toList] at hu; exact hq j u hj hu
    ·simp at hu) (Value.ownBlock (.slice (some ⟨g, 0, none⟩) n cap)) _ rfl
   exact ⟨_, _, _, hr, hgr.1, hgr.2.1, hgr.2.2⟩
end
end Go.Proofs.YtpbnmhnbkfnaeaaGreatDoor
namespace Go.Proofs.YtpbnmhnbkfnaeaaGreatDoor
open Go.RowKit Nt
def qI : Nat → Value → Prop := fun _ u => ∃ x, u = .int .i64 x
abbrev BI (w : World) (b c n : Nat) : Prop := Row qI 1 3 w b c n
abbrev SI (w : World) (base : Nat) (v : Value) (n : Nat) : Prop := SRow qI 1 3 w base v n
def qN (K : Nat) (w : World) (base : Nat) : Nat → Value → Prop := fun j u =>
 (j = 0 → ∃ x, u = .int .i64 x) ∧ (j = 1 → ∃ s : ByteArray, u = .string s ∧ s.size ≤ K) ∧ (j = 2 → ∃ n, n ≤ K ∧ SI w base u n)
abbrev BN (K : Nat) (w : World) (base b c n : Nat) : Prop := Row (qN K w base) 3 56 w b c n
abbrev SN (K : Nat) (w : World) (base : Nat) (v : Value) (n : Nat) : Prop := SRow (qN K w base) 3 56 w base v n
theorem SI.bi {w w' : World} {base : Nat} {v : Value} {n : Nat} (h : SI w base v n) (k : ∀ b c m, base ≤ b → BI w b c m → BI w' b c m) : SI w' base v n := by
 rcases h with h | ⟨g, c, rfl, h1, h2, h3, h4⟩
 ·exact .inl h
 ·exact .inr ⟨g, c, rfl, h1, h2, h3, k g c n h1 h4⟩
theorem qN.bi {K base : Nat} {w w' : World} {j : Nat} {u : Value} (h : qN K w base j u) (k : ∀ b c m, base ≤ b → BI w b c m → BI w' b c m) : qN K w' base j u :=
 ⟨h.1, h.2.1, fun e => by obtain ⟨n, hn, hs⟩ := h.2.2 e; exact ⟨n, hn, hs.bi k⟩⟩
theorem SI.base {w : World} {base base' : Nat} {v : Value} {n : Nat} (h : SI w base v n) (hb : base' ≤ base) : SI w base' v n := by
 rcases h with h | ⟨g, c, rfl, h1, h2⟩
 ·exact .inl h
 ·exact .inr ⟨g, c, rfl, Nat.le_trans hb h1, h2⟩
theorem SRow.form {Q : Nat → Value → Prop} {s : Nat} {e : TypeId} {w : World} {base : Nat} {v : Value} {n : Nat} (h : SRow Q s e w base v n) : ∃ a c, v = .slice a n c ∧ n ≤ c ∧ c ≤ maxLen := by
 rcases h with ⟨rfl, rfl⟩ | ⟨g, c, rfl, _, h2, h3, _⟩
 ·exact ⟨none, 0, rfl, Nat.le_refl _, by unfold maxLen; omega⟩
 ·exact ⟨_, c, rfl, h2, h3⟩
structure Ty (K base : Nat) (w w' : World) : Prop where
 bi : ∀ b c n, base ≤ b → BI w b c n → BI w' b c n
 bn : ∀ b c n, base ≤ b → BN K w base b c n → BN K w' base b c n
theorem Ty.trans {K base : Nat} {w w' w'' : World} (h : Ty K base w w') (k : Ty K base w' w'') : Ty K base w w'' := ⟨fun b c n hb x => k.bi b c n hb (h.bi b c n hb x), fun b c n hb x => k.bn b c n hb (h.bn b c n hb x)⟩
theorem SI.ty {K base : Nat} {w w' : World} {v : Value} {n : Nat} (h : SI w base v n) (k : Ty K base w w') : SI w' base v n := h.bi k.bi
theorem SN.ty {K base : Nat} {w w' : World} {v : Value} {n : Nat} (h : SN K w base v n) (k : Ty K base w w') : SN K w' base v n := by
 rcases h with h | ⟨g, c, rfl, h1, h2, h3, h4⟩
 ·exact .inl h
 ·exact .inr ⟨g, c, rfl, h1, h2, h3, k.bn g c n h1 h4⟩
theorem vC : 3 ≠ 56 := by decide
theorem Ty.same {K base : Nat} {w w' : World} (h : ∀ b cs e, base ≤ b → b < w.heap.size → (e = 3 ∨ e = 56) → w.heap[b]? = some (.cells cs e (0, 0)) → w'.heap[b]? = w.heap[b]?) : Ty K base w w' := by
 have hi : ∀ b c n, base ≤ b → BI w b c n → BI w' b c n := fun b c n hb x => by
  have hl := x.lt
  obtain ⟨cs, h1, _⟩ := id x
  exact Row.same x (h b cs _ hb hl (.inl rfl) h1)
 refine ⟨hi, fun b c n hb x => ?_⟩
 have hl := x.lt
 obtain ⟨cs, h1, _⟩ := id x
 exact (Row.same x (h b cs _ hb hl (.inr rfl) h1)).map fun j u q => q.bi hi
theorem Ty.below {K base : Nat} {w w' : World} (h : Below w.heap.size w w') : Ty K base w w' := Ty.same fun b _ _ _ hl _ _ => h.block b hl
theorem Ty.keeps {K base g : Nat} {w w' : World} (h : Keeps g w w') (hg : g < base) : Ty K base w w' := Ty.same fun b _ _ hb hl _ _ => h.block b hl (by omega)
theorem Ty.box {K base b i : Nat} {x y : Value} {T : TypeId} {w : World} (h : AtC2 w b x y T) (h1 : T ≠ 3) (h2 : T ≠ 56) (u : Value) : Ty K base w (w.setCell ⟨b, i, none⟩ u) := by
 refine Ty.same fun b' cs e _ _ he hc => ?_
 rw [Below.heap_setCell _ _ _ _ (show b' ≠ b from ?_)]
 intro e'
 subst e'
 unfold AtC2 at h
 rw [h] at hc
 simp only [Option.some.injEq, Obj.cells.injEq] at hc
 rcases he with he | he
 ·exact h1 (hc.2.1.trans he)
 ·exact h2 (hc.2.1.trans he)
theorem Row.ne {Q Q' : Nat → Value → Prop} {s s' : Nat} {e e' : TypeId} {w : World} {b b' c c' n n' : Nat} (h : Row Q s e w b c n) (h' : Row Q' s' e' w b' c' n') (he : e ≠ e') : b ≠ b' := by
 intro e1; subst e1
 obtain ⟨cs, h1, _⟩ := h
 obtain ⟨cs', k1, _⟩ := h'
 rw [h1] at k1
 simp only [Option.some.injEq, Obj.cells.injEq] at k1
 exact he k1.2.1
theorem Row.far {Q : Nat → Value → Prop} {s : Nat} {e : TypeId} {w : World} {b c n b' i : Nat} {u : Value} (h : Row Q s e w b c n) (hb : b ≠ b') : Row Q s e (w.setCell ⟨b', i, none⟩ u) b c n :=
 h.same (Below.heap_setCell _ _ _ _ hb)
theorem Ty.setI {K base b c n i : Nat} {x : Int} {w : World} (h : BI w b c n) : Ty K base w (w.setCell ⟨b, i, none⟩ (.int .i64 x)) := by
 have hi : ∀ b' c' m, base ≤ b' → BI w b' c' m → BI (w.setCell ⟨b, i, none⟩ (.int .i64 x)) b' c' m := fun b' c' m _ h' => by
  by_cases e : b' = b
  ·subst e; exact h'.set ⟨x, rfl⟩
  ·exact h'.far e
 refine ⟨hi, fun b' c' m hb h' => ?_⟩
 exact (h'.far (fun e => Row.ne h h' vC e.symm)).map fun j u q => q.bi hi
theorem Ty.setN {K base b c n i : Nat} {x : Value} {w : World} (h : BN K w base b c n) (hx : qN K w base (i % 3) x) : Ty K base w (w.setCell ⟨b, i, none⟩ x) := by
 have hi : ∀ b' c' m, base ≤ b' → BI w b' c' m → BI (w.setCell ⟨b, i, none⟩ x) b' c' m := fun b' c' m _ h' => h'.far (fun e => Row.ne h' h vC e)
 refine ⟨hi, fun b' c' m hb h' => ?_⟩
 by_cases e : b' = b
 ·subst e; exact (h'.set hx).map fun j u q => q.bi hi
 ·exact (h'.far e).map fun j u q => q.bi hi
structure Grown (e : TypeId) (K base : Nat) (w w' : World) : Prop where
 ty : Ty K base w w'
 low : Below base w w'
 oth : ∀ (b : Nat) (cs : Array Value) (T : TypeId) (fr : Nat × Nat), T ≠ e → w.heap[b]? = some (Obj.cells cs T fr) → w'.heap[b]? = some (Obj.cells cs T fr)
theorem AtC2.gr {e T : TypeId} {K base b : Nat} {w w' : World} {x y : Value} (h : AtC2 w b x y T) (k : Grown e K base w w') (hT : T ≠ e) : AtC2 w' b x y T := k.oth b _ T _ hT h
theorem AtC3.gr {e T : TypeId} {K base b : Nat} {w w' : World} {x y z : Value} (h : AtC3 w b x y z T) (k : Grown e K base w w') (hT : T ≠ e) : AtC3 w' b x y z T := k.oth b _ T _ hT h
theorem SRow.own {Q : Nat → Value → Prop} {s : Nat} {e : TypeId} {w : World} {base : Nat} {v : Value} {n g : Nat} (h : SRow Q s e w base v n) (hg : v.ownBlock = some g) : base ≤ g ∧ ∃ c, Row Q s e w g c n := by
 rcases h with ⟨rfl, _⟩ | ⟨g', c, rfl, h1, h2, h3, h4⟩
 ·simp [Value.ownBlock] at hg
 ·simp [Value.ownBlock] at hg
  subst hg
  exact ⟨h1, c, h4⟩
theorem JV {Q : Nat → Value → Prop} {s : Nat} {e : TypeId} {w w' : World} {base : Nat} {v : Value} {n : Nat} (h : SRow Q s e w base v n) (hg : w.grownBy w' v.ownBlock) (hb : base ≤ w.heap.size) :
  Below base w w' ∧ (∀ (b : Nat) (cs : Array Value) (T : TypeId) (fr : Nat × Nat), T ≠ e → w.heap[b]? = some (Obj.cells cs T fr) → w'.heap[b]? = some (Obj.cells cs T fr)) := by
 refine ⟨⟨hg.os, hg.tape, hg.output, hg.size, fun k hk => hg.block k (by omega) fun e' => ?_⟩, fun b cs T fr h1 ha => ?_⟩
 ·have := (h.own e'.symm).1; omega
 ·refine (hg.block b (Array.getElem?_eq_some_iff.1 ha).1 fun e' => ?_).trans ha
  obtain ⟨_, c, cs', k1, _⟩ := h.own e'.symm
  rw [ha] at k1
  simp only [Option.some.injEq, Obj.cells.injEq] at k1
  exact h1 k1.2.1
theorem KI {K base : Nat} {w w' : World} {v : Value} {n : Nat} (h : SI w base v n) (hg : w.grownBy w' v.ownBlock) (hb : base ≤ w.heap.size) (hr : ∀ b c k, BI w b c k → BI w' b c k) : Grown 3 K base w w' := by
 obtain ⟨k1, k2⟩ := JV h hg hb
 refine ⟨⟨fun b c m _ x => hr b c m x, fun b c m hbb x => ?_⟩, k1, k2⟩
 refine (Row.same x (hg.block b x.lt fun e' => ?_)).map fun j u q => q.bi fun b c m _ x => hr b c m x
 obtain ⟨_, c', k3⟩ := h.own e'.symm
 exact Row.ne k3 x vC rfl
theorem V3 {K base : Nat} {w w' : World} {v : Value} {n : Nat} (h : SN K w base v n) (hg : w.grownBy w' v.ownBlock) (hb : base ≤ w.heap.size) (hr : ∀ b c k, BN K w base b c k → Row (qN K w base) 3 56 w' b c k) : Grown 56 K base w w' := by
 obtain ⟨k1, k2⟩ := JV h hg hb
 have hi : ∀ b c m, base ≤ b → BI w b c m → BI w' b c m := fun b c m _ x => by
  refine Row.same x (hg.block b x.lt fun e' => ?_)
  obtain ⟨_, c', k3⟩ := h.own e'.symm
  exact Row.ne x k3 vC rfl
 exact ⟨⟨hi, fun b c m hbb x => (hr b c m x).map fun j u q => q.bi hi⟩, k1, k2⟩
theorem SI.oth {T : TypeId} {base b i n : Nat} {cs : Array Value} {fr : Nat × Nat} {w : World} {v : Value} (h : SI w base v n) (hb : w.heap[b]? = some (Obj.cells cs T fr)) (hT : T ≠ 3) (u : Value) : SI (w.setCell ⟨b, i, none⟩ u) base v n :=
 h.bi fun b' c m _ x => x.far fun e => by
  subst e
  obtain ⟨cs', k1, _⟩ := x
  rw [hb] at k1
  simp only [Option.some.injEq, Obj.cells.injEq] at k1
  exact hT k1.2.1
theorem AtC3.keeps {g b : Nat} {w w' : World} {x y z : Value} {T : TypeId} (h : AtC3 w b x y z T) (k : Keeps g w w') (hb : b ≠ g) : AtC3 w' b x y z T := (k.block b h.lt hb).trans h
theorem AtC2.keeps {g b : Nat} {w w' : World} {x y : Value} {T : TypeId} (h : AtC2 w b x y T) (k : Keeps g w w') (hb : b ≠ g) : AtC2 w' b x y T := (k.block b h.lt hb).trans h
theorem Keeps.more {g : Nat} {a w w' : World} (h : Keeps g a w) (hb : Below a.heap.size w w') : Keeps g a w' :=
 ⟨hb.os.trans h.os, hb.tape.trans h.tape, hb.output.trans h.output, Nat.le_trans h.size hb.size, fun i hi hig => (hb.block i hi).trans (h.block i hi hig)⟩
theorem vw {w : World} {b i : Nat} {cs : Array Value} {T : TypeId} (h : w.heap[b]? = some (.cells cs T (0, 0))) (u : Value) : (w.setCell ⟨b, i, none⟩ u).heap[b]? = some (.cells (cs.setIfInBounds i u) T (0, 0)) := by
 show (w.heap.modify b _)[b]? = _
 rw [Array.getElem?_modify, if_pos rfl, h]; rfl
theorem AtC3.put3 {w : World} {b : Nat} {x y z : Value} {T : TypeId} (h : AtC3 w b x y z T) (u v t : Value) : AtC3 (((w.setCell ⟨b, 0, none⟩ u).setCell ⟨b, 1, none⟩ v).setCell ⟨b, 2, none⟩ t) b u v t T :=
 vw (i := 2) (vw (i := 1) (vw (i := 0) h u) v) t
theorem AtC3.put2 {w : World} {b : Nat} {x y z : Value} {T : TypeId} (h : AtC3 w b x y z T) (t : Value) : AtC3 (w.setCell ⟨b, 2, none⟩ t) b x y t T := vw (i := 2) h t
theorem SI.put3 {T : TypeId} {base b n : Nat} {x y z : Value} {w : World} {v : Value} (h : SI w base v n) (hb : AtC3 w b x y z T) (hT : T ≠ 3) (u0 u1 u2 : Value) : SI (((w.setCell ⟨b, 0, none⟩ u0).setCell ⟨b, 1, none⟩ u1).setCell ⟨b, 2, none⟩ u2) base v n :=
 ((h.oth hb hT u0).oth (vw (i := 0) hb u0) hT u1).oth (vw (i := 1) (vw (i := 0) hb u0) u1) hT u2
theorem zbA (w : World) (cs : Array Value) (h : ∀ u ∈ cs.toList, ∃ x, u = .int .i64 x) : BI (w.alloc (.cells cs 3)) w.heap.size cs.size cs.size :=
 ⟨cs, heap_alloc_new w _, by simp, fun j u _ hu => h u (by have := Array.mem_of_getElem? hu; simpa using this)⟩
theorem zby (w : World) (cs : Array Value) (n : Nat) (hn : cs.size = n) (hm : n ≤ maxLen) (h : ∀ u ∈ cs.toList, ∃ x, u = .int .i64 x) : SI (w.alloc (.cells cs 3)) w.heap.size (.slice (some ⟨w.heap.size, 0, none⟩) n n) n := by
 subst hn; exact .inr ⟨_, _, rfl, Nat.le_refl _, Nat.le_refl _, hm, zbA w cs h⟩
theorem jd (w : World) (base : Nat) : SI w base (.slice none 0 0) 0 := .inl ⟨rfl, rfl⟩
theorem zbR (K : Nat) (w : World) (base : Nat) : SN K w base (.slice none 0 0) 0 := .inl ⟨rfl, rfl⟩
theorem zbu {K base : Nat} (w : World) (b : Nat) (x : Int) (s : ByteArray) (kv : Value) (n : Nat) (hs : s.size ≤ K) (hn : n ≤ K) (h : w.heap[b]? = some (.cells #[.int .i64 x, .string s, kv] 56 (0, 0))) (hk : SI w base kv n) : BN K w base b 1 1 :=
 ⟨_, h, rfl, fun j u hj hu => by
  match j, hj, hu with
  | 0, _, hu => simp at hu; subst hu; exact ⟨fun _ => ⟨x, rfl⟩, fun e => by simp at e, fun e => by simp at e⟩
  | 1, _, hu => simp at hu; subst hu; exact ⟨fun e => by simp at e, fun _ => ⟨s, rfl, hs⟩, fun e => by simp at e⟩
  | 2, _, hu => simp at hu; subst hu; exact ⟨fun e => by simp at e, fun e => by simp at e, fun _ => ⟨n, hn, hk⟩⟩⟩
theorem Kv {w : World} {q : Nat} {v : Value} (h : w.cell? ⟨q, 0, none⟩ = some v) : w.cell? ((⟨q, 0, none⟩ : Addr).add 0) = some v := by
 have e : (⟨q, 0, none⟩ : Addr).add 0 = ⟨q, 0, none⟩ := by unfold Addr.add; split <;> simp_all
 rw [e]; exact h
theorem xn {w : World} {q j : Nat} {v : Value} (h : w.cell? ⟨q, j, none⟩ = some v) : w.cell? ((⟨q, 0, none⟩ : Addr).add j) = some v := by
 have e : (⟨q, 0, none⟩ : Addr).add j = ⟨q, j, none⟩ := by unfold Addr.add; split <;> simp_all
 rw [e]; exact h
theorem xA (K : Nat) (w : World) (base : Nat) (ty : TypeId) (v : Value) (n q : Nat) (x : Int) (hv : SI w base v n) (hx : w.cell? ⟨q, 0, none⟩ = some (.int .i64 x)) (hn : n ≤ 10000000) (hbase : base ≤ w.heap.size) :
  ∃ g cap w', (Builtin.append_ #[24, 24] ty #[v, .slice (some ⟨q, 0, none⟩) 1 1]).run Tryz.prog w = .ok (.slice (some ⟨g, 0, none⟩) (n + 1) cap) w' ∧ SI w' base (.slice (some ⟨g, 0, none⟩) (n + 1) cap) (n + 1) ∧ Grown 3 K base w w' := by
 obtain ⟨i0, hi, hz0, hz1, hz2⟩ := info_parts Tryz.infoInt
 obtain ⟨g, cap, w', hr, h1, h2, h3⟩ := yJ (P := Tryz.prog) qI w base 1 24 ty 3 i0 (.int .i64 0) 8 Tryz.underlying24 hi hz0 hz1 hz2 rfl (by decide) v n hv ⟨q, 0, none⟩ 1 1 [.int .i64 x] rfl
  (fun j u h => by
   match j, h with
   | 0, h => simp at h; subst h; exact Kv hx
   | j + 1, h => simp at h)
  (fun u h => by simp at h; subst h; rfl) (fun j u h => by
   match j, h with
   | 0, h => simp at h; subst h; exact ⟨x, rfl⟩
   | j + 1, h => simp at h) (by decide) (by unfold maxLen; omega) (by omega) hbase
 exact ⟨g, cap, w', hr, h1, KI hv h2 hbase h3⟩
theorem Q3 (K : Nat) (w : World) (base : Nat) (ty : TypeId) (v : Value) (n q : Nat) (x : Int) (s : ByteArray) (kv : Value) (m : Nat) (hv : SN K w base v n) (h0 : w.cell? ⟨q, 0, none⟩ = some (.int .i64 x)) (h1 : w.cell? ⟨q, 1, none⟩ = some (.string s)) (h2 : w.cell? ⟨q, 2, none⟩ = some kv)
  (hs : s.size ≤ K) (hm : m ≤ K) (hk : SI w base kv m) (hn : n ≤ 1000000) (hbase : base ≤ w.heap.size) :
  ∃ g cap w', (Builtin.append_ #[23, 23] ty #[v, .slice (some ⟨q, 0, none⟩) 1 1]).run Tryz.prog w = .ok (.slice (some ⟨g, 0, none⟩) (n + 1) cap) w' ∧ SN K w' base (.slice (some ⟨g, 0, none⟩) (n + 1) cap) (n + 1) ∧ Grown 56 K base w w' := by
 obtain ⟨i0, hi, hz0, hz1, hz2⟩ := info_parts Tryz.infoNode
 have hone : kv.oneCell' = true := by
  rcases hk with ⟨rfl, _⟩ | ⟨g, c, rfl, _⟩ <;> rfl
 obtain ⟨g, cap, w', hr, k1, k2, k3⟩ := yJ (P := Tryz.prog) (qN K w base) w base 3 23 ty 56 i0 (.agg #[.int .i64 0, .string ⟨#[]⟩, .slice none 0 0]) 48 Tryz.underlying23 hi hz0 hz1 hz2 rfl (by decide) v n hv ⟨q, 0, none⟩ 1 1 [.int .i64 x, .string s, kv] rfl
  (fun j u h => by
   match j, h with
   | 0, h => simp at h; subst h; exact xn h0
   | 1, h => simp at h; subst h; exact xn h1
   | 2, h => simp at h; subst h; exact xn h2
   | j + 3, h => simp at h)
  (fun u h => by simp at h; rcases h with rfl | rfl | rfl <;> first | rfl | exact hone) (fun j u h => by
   match j, h with
   | 0, h => simp at h; subst h; exact ⟨fun _ => ⟨x, rfl⟩, fun e => by simp at e, fun e => by simp at e⟩
   | 1, h => simp at h; subst h; exact ⟨fun e => by simp at e, fun _ => ⟨s, rfl, hs⟩, fun e => by simp at e⟩
   | 2, h => simp at h; subst h; exact ⟨fun e => by simp at e, fun e => by simp at e, fun _ => ⟨m, hm, hk⟩⟩
   | j + 3, h => simp at h) (by decide) (by unfold maxLen; omega) (by omega) hbase
 have hG := V3 hv k2 hbase k3
 refine ⟨g, cap, w', hr, ?_, hG⟩
 rcases k1 with ⟨e, _⟩ | ⟨g', c, e, r1, r2, r3, r4⟩
 ·cases e
 ·exact .inr ⟨g', c, e, r1, r2, r3, r4.map fun j u q => q.bi hG.ty.bi⟩
theorem Zw {w : World} {ops : Array Oper} {rest : List Oper} {o : Oper} {a : Act} {Q : Exit → Act → World → Prop} (hgd : o.guard = none) (s x : Operand)
  (ho : o.op = .call { callee := .builtin .append, args := #[s, x], argTypes := #[24, 24] })
  (K base : Nat) (v : Value) (n q : Nat) (z : Int) (hs : a.eval s = v) (hxv : a.eval x = .slice (some ⟨q, 0, none⟩) 1 1) (hv : SI w base v n) (hx : w.cell? ⟨q, 0, none⟩ = some (.int .i64 z)) (hn : n ≤ 10000000) (hbase : base ≤ w.heap.size)
  (h : ∀ g cap w', SI w' base (.slice (some ⟨g, 0, none⟩) (n + 1) cap) (n + 1) → Grown 3 K base w w' → wpList Tryz.prog ops Q rest (a.put o.dst (.slice (some ⟨g, 0, none⟩) (n + 1) cap)) w') :
  wpList Tryz.prog ops Q (o :: rest) a w := by
 refine wpList_plain hgd fun K' hK => ?_
 obtain ⟨g, cap, w', hr, h2, h3⟩ := xA K w base o.type v n q z hv hx hn hbase
 unfold Oper.wp execOp
 simp only [ho, resolve, invoke, builtin, Sem.run_bind, Sem.run_pure, Result.andThen_ok, List.map_toArray, List.map_cons, List.map_nil, hs, hxv, hr]
 exact hK _ _ (h g cap w' h2 h3)
theorem qX {w : World} {ops : Array Oper} {o : Oper} {a : Act} {K' : Act → World → Prop} {Q : Exit → Act → World → Prop} {E : Prop} (hgd : o.guard = none) (s x : Operand)
  (ho : o.op = .call { callee := .builtin .append, args := #[s, x], argTypes := #[24, 24] })
  (K base : Nat) (v : Value) (n q : Nat) (z : Int) (hs : a.eval s = v) (hxv : a.eval x = .slice (some ⟨q, 0, none⟩) 1 1) (hv : SI w base v n) (hx : w.cell? ⟨q, 0, none⟩ = some (.int .i64 z)) (hn : n ≤ 10000000) (hbase : base ≤ w.heap.size) (d : Option Tmp) (hd : o.dst = d)
  (h : ∀ g cap w', SI w' base (.slice (some ⟨g, 0, none⟩) (n + 1) cap) (n + 1) → Grown 3 K base w w' → K' (a.put d (.slice (some ⟨g, 0, none⟩) (n + 1) cap)) w') :
  if Region.wanted o (yielded ops a.tmps) = true then Oper.wp Tryz.prog o a w K' Q else E := by
 subst hd
 have hw : Region.wanted o (yielded ops a.tmps) = true := by simp [Region.wanted, hgd]
 rw [if_pos hw]
 obtain ⟨g, cap, w', hr, h2, h3⟩ := xA K w base o.type v n q z hv hx hn hbase
 unfold Oper.wp execOp
 simp only [ho, resolve, invoke, builtin, Sem.run_bind, Sem.run_pure, Result.andThen_ok, List.map_toArray, List.map_cons, List.map_nil, hs, hxv, hr]
 exact h g cap w' h2 h3
theorem qe {w : World} {ops : Array Oper} {rest : List Oper} {o : Oper} {a : Act} {Q : Exit → Act → World → Prop} (hgd : o.guard = none) (s x : Operand)
  (ho : o.op = .call { callee := .builtin .append, args := #[s, x], argTypes := #[23, 23] })
  (K base : Nat) (v : Value) (n q : Nat) (z : Int) (t : ByteArray) (kv : Value) (m : Nat) (hs : a.eval s = v) (hxv : a.eval x = .slice (some ⟨q, 0, none⟩) 1 1) (hv : SN K w base v n) (h0 : w.cell? ⟨q, 0, none⟩ = some (.int .i64 z)) (h1 : w.cell? ⟨q, 1, none⟩ = some (.string t)) (h2 : w.cell? ⟨q, 2, none⟩ = some kv)
  (ht : t.size ≤ K) (hm : m ≤ K) (hk : SI w base kv m) (hn : n ≤ 1000000) (hbase : base ≤ w.heap.size)
  (h : ∀ g cap w', SN K w' base (.slice (some ⟨g, 0, none⟩) (n + 1) cap) (n + 1) → Grown 56 K base w w' → wpList Tryz.prog ops Q rest (a.put o.dst (.slice (some ⟨g, 0, none⟩) (n + 1) cap)) w') :
  wpList Tryz.prog ops Q (o :: rest) a w := by
 refine wpList_plain hgd fun K' hK => ?_
 obtain ⟨g, cap, w', hr, h2, h3⟩ := Q3 K w base o.type v n q z t kv m hv h0 h1 h2 ht hm hk hn hbase
 unfold Oper.wp execOp
 simp only [ho, resolve, invoke, builtin, Sem.run_bind, Sem.run_pure, Result.andThen_ok, List.map_toArray, List.map_cons, List.map_nil, hs, hxv, hr]
 exact hK _ _ (h g cap w' h2 h3)
theorem YU {α : Type} {n : Nat} {P : Nat → α → Prop} (h : ∀ j, j < n → ∃ x, P j x) : ∃ xs : List α, xs.length = n ∧ ∀ j x, xs[j]? = some x → P j x := by
 induction n with
 | zero => exact ⟨[], rfl, fun j x h => by simp at h⟩
 | succ n ih =>
  obtain ⟨xs, hl, hx⟩ := ih fun j hj => h j (by omega)
  obtain ⟨x, hp⟩ := h n (by omega)
  refine ⟨xs ++ [x], by simp [hl], fun j y hy => ?_⟩
  by_cases hj : j < xs.length
  ·rw [List.getElem?_append_left hj] at hy; exact hx j y hy
  ·have hj2 : j = n := by
    have := (List.getElem?_eq_some_iff.1 hy).1
    simp at this; omega
   subst hj2
   rw [List.getElem?_append_right (by omega), hl] at hy
   simp at hy; subst hy; exact hp
theorem SI.ints {w : World} {base : Nat} {v : Value} {n : Nat} (h : SI w base v n) : ∃ xs : List Int, xs.length = n ∧ IntsAt w v xs := by
 rcases h with ⟨rfl, rfl⟩ | ⟨g, c, rfl, h1, h2, h3, h4⟩
 ·exact ⟨[], rfl, none, 0, rfl, Nat.le_refl _, by unfold maxLen; omega, fun h => absurd h (by simp)⟩
 ·obtain ⟨xs, hl, hx⟩ := YU (n := n) (P := fun j x => w.cell? ⟨g, j, none⟩ = some (.int .i64 x)) fun j hj => by
   obtain ⟨u, hu, x, rfl⟩ := h4.cell h2 (j := j) (by omega)
   exact ⟨x, hu⟩
  exact ⟨xs, hl, _, c, by rw [hl], by omega, h3, fun _ => ⟨g, 0, rfl, h4.lt, fun j x e => by rw [Nat.zero_add]; exact hx j x e⟩⟩
theorem SN.base {K : Nat} {w : World} {base base' : Nat} {v : Value} {n : Nat} (h : SN K w base v n) (hb : base' ≤ base) : SN K w base' v n := by
 rcases h with h | ⟨g, c, rfl, h1, h2, h3, h4⟩
 ·exact .inl h
 ·exact .inr ⟨g, c, rfl, Nat.le_trans hb h1, h2, h3, h4.map fun j u q => ⟨q.1, q.2.1, fun e => by obtain ⟨k, hk, hs⟩ := q.2.2 e; exact ⟨k, hk, SI.base hs hb⟩⟩⟩
theorem zbp (s : ByteArray) : ∃ t : List UInt8, s = B t ∧ t.length = s.size := ⟨s.data.toList, rfl, Array.length_toList⟩
theorem SN.nodes {K : Nat} {w : World} {base : Nat} {v : Value} {n : Nat} (h : SN K w base v n) (hK : K ≤ maxLen) : ∃ ns : List Nd, ns.length = n ∧ NodesAt w v ns ∧ ∀ nd ∈ ns, nd.2.1.length ≤ K ∧ nd.2.2.length ≤ K := by
 rcases h with ⟨rfl, rfl⟩ | ⟨g, c, rfl, h1, h2, h3, h4⟩
 ·exact ⟨[], rfl, ⟨none, 0, rfl, Nat.le_refl _, by unfold maxLen; omega, fun h => absurd h (by simp)⟩, fun nd h => by simp at h⟩
 ·obtain ⟨ns, hl, hx⟩ := YU (α := Nd) (n := n) (P := fun j nd => w.cell? ⟨g, j * 3, none⟩ = some (.int .i64 nd.1) ∧ w.cell? ⟨g, j * 3 + 1, none⟩ = some (.string (B nd.2.1)) ∧ (nd.2.1.length ≤ K ∧ nd.2.2.length ≤ K) ∧ ∃ kv, w.cell? ⟨g, j * 3 + 2, none⟩ = some kv ∧ IntsAt w kv nd.2.2) fun j hj => by
   obtain ⟨u0, c0, q0⟩ := h4.cell h2 (j := j * 3) (by omega)
   obtain ⟨u1, c1, q1⟩ := h4.cell h2 (j := j * 3 + 1) (by omega)
   obtain ⟨u2, c2, q2⟩ := h4.cell h2 (j := j * 3 + 2) (by omega)
   obtain ⟨x, rfl⟩ := q0.1 (by omega)
   obtain ⟨s, rfl, hs⟩ := q1.2.1 (by omega)
   obtain ⟨m, hm, hk⟩ := q2.2.2 (by omega)
   obtain ⟨t, rfl, ht⟩ := zbp s
   obtain ⟨xs, hxl, hxs⟩ := hk.ints
   exact ⟨(x, t, xs), c0, c1, ⟨by show t.length ≤ K; omega, by show xs.length ≤ K; omega⟩, u2, c2, hxs⟩
  refine ⟨ns, hl, ⟨_, c, by rw [hl], by omega, h3, fun _ => ⟨g, 0, rfl, h4.lt, fun j nd e => ?_⟩⟩, fun nd hnd => ?_⟩
  ·obtain ⟨c0, c1, ⟨l1, l2⟩, kv, c2, hk⟩ := hx j nd e
   exact ⟨by rw [Nat.zero_add]; exact c0, by rw [Nat.zero_add]; exact c1, by omega, kv, by rw [Nat.zero_add]; exact c2, hk⟩
  ·obtain ⟨j, hj⟩ := List.getElem?_of_mem hnd
   exact (hx j nd hj).2.2.1
theorem Q8 {K : Nat} {w : World} {base : Nat} {nv rv : Value} {n m : Nat} (hn : SN K w base nv n) (hr : SI w base rv m) (hK : K ≤ maxLen) :
  ∃ d : Dt, DataAt w (.agg #[nv, rv]) d ∧ d.1.length = n ∧ d.2.length = m ∧ ∀ nd ∈ d.1, nd.2.1.length ≤ K ∧ nd.2.2.length ≤ K := by
 obtain ⟨ns, h1, h2, h3⟩ := hn.nodes hK
 obtain ⟨rs, k1, k2⟩ := hr.ints
 exact ⟨(ns, rs), ⟨nv, rv, rfl, h2, k2⟩, h1, k1, h3⟩
def zaz (m : Int) (i : Nat) : Prop := (i : Int) < m ∨ i = 0
theorem nameI (z : Int) (M : Int) (h0 : 0 ≤ z) (h1 : z ≤ M) (hM : M ≤ 9223372036854775807) : ∃ u : Nat, Hid (z = (u : Int)) ∧ IntKind.i64.wrap z = (u : Int) ∧ (u : Int) ≤ M :=
 ⟨z.toNat, by show z = _; omega, by rw [wi64 z (by omega) (by omega)]; omega, by omega⟩
theorem vV (g p n cap : Nat) (a : Option Addr) (m : Int) (w : World) (h : Rd w g p a n cap) (hp : p ≤ 1000000000) (hm : m ≤ 4611686018427387904) :
  Calls Tryz.prog 27 #[.pointer (some ⟨g, 0, none⟩), .int .i64 m] w fun e w' => (∃ i : Nat, e = .returned (.int .i64 (i : Int)) ∧ zaz m i) ∧ Rd w' g (p + 1) a n cap ∧ Keeps g w w' := by
 have c0 := h.c0
 have c1 := h.c1
 have f1 := h.f1
 have hlt := h.lt
 have hN := h.next ((p : Int) + 1) (by omega)
 have hK := (Keeps.refl g w).setOwn (p := ⟨g, 1, none⟩) rfl (.int .i64 ((p : Int) + 1))
 have d0 := hN.c0
 have d1 := hN.c1
 have hB := hN.byts
 have hlen := h.len
 have HN := hide hN
 have HK := hide hK
 clear hN hK h
 by_cases hm1 : m < 1
 ·go_enter Tryz.func27, Tryz.ntmps27
  go_wp2
  go_ret
  exact ⟨⟨0, rfl, .inr rfl⟩, za HN, za HK⟩
 ·by_cases hn0 : n = 0
  ·have hz : ((n : Int) == 0) = true := by simp [hn0]
   have hl : decide (m < 1) = false := decide_eq_false hm1
   go_enter Tryz.func27, Tryz.ntmps27
   go_wp2
   go_ret
   subst hn0
   exact ⟨⟨0, rfl, .inr rfl⟩, za HN, za HK⟩
  ·obtain ⟨q, o, rfl, hqg, hq, hcells⟩ := hB (by omega)
   have hz : ((n : Int) == 0) = false := by simp; omega
   have hl : decide (m < 1) = false := decide_eq_false hm1
   have Hc := hide hcells
   clear hcells hB
   by_cases hpn : p < n
   ·obtain ⟨x, hx, hcx⟩ := za Hc p hpn
    go_enter Tryz.func27, Tryz.ntmps27
    go_wp2
    go_ret
    refine ⟨⟨((x : Int) % m).toNat, zF ?_, .inl ?_⟩, za HN, za HK⟩
    ·rw [Int.toNat_of_nonneg (Int.emod_nonneg _ (by omega))]
    ·rw [Int.toNat_of_nonneg (Int.emod_nonneg _ (by omega))]; exact Int.emod_lt_of_pos _ (by omega)
   ·obtain ⟨i1, hi1, e1⟩ : ∃ i : Nat, i < n ∧ (p : Int).tmod n = (i : Int) := ⟨p % n, Nat.mod_lt _ (by omega), by rw [Int.tmod_eq_emod_of_nonneg (by omega)]; rfl⟩
    obtain ⟨k7, _, e3, hk7⟩ := nameI ((p : Int) * 7) 7000000000 (by omega) (by omega) (by omega)
    obtain ⟨k73, _, e4, hk73⟩ := nameI ((k7 : Int) + 3) 7000000003 (by omega) (by omega) (by omega)
    obtain ⟨i2, hi2, e5⟩ : ∃ i : Nat, i < n ∧ (k73 : Int).tmod n = (i : Int) := ⟨k73 % n, Nat.mod_lt _ (by omega), by rw [Int.tmod_eq_emod_of_nonneg (by omega)]; rfl⟩
    obtain ⟨x, hx, hcx⟩ := za Hc i1 hi1
    obtain ⟨y, hy, hcy⟩ := za Hc i2 hi2
    obtain ⟨u1, _, e6, hu1⟩ := nameI ((x : Int) * 131) 100000 (by omega) (by omega) (by omega)
    obtain ⟨u2, _, e7, hu2⟩ := nameI ((y : Int) * 1117) 1000000 (by omega) (by omega) (by omega)
    obtain ⟨u3, _, e8, hu3⟩ := nameI ((u1 : Int) + u2) 1100000 (by omega) (by omega) (by omega)
    obtain ⟨u4, _, e9, hu4⟩ := nameI ((p : Int) * 29) 29000000000 (by omega) (by omega) (by omega)
    obtain ⟨u5, _, e10, hu5⟩ := nameI ((u3 : Int) + u4) 30000000000 (by omega) (by omega) (by omega)
    obtain ⟨u6, hu6, e11⟩ : ∃ u : Nat, (u : Int) ≤ 1000000000 ∧ (p : Int).tdiv n = (u : Int) := ⟨p / n, by have := Nat.div_le_self p n; omega, by rw [Int.tdiv_eq_ediv_of_nonneg (by omega)]; rfl⟩
    have e11' := wi64 (u6 : Int) (by omega) (by omega)
    obtain ⟨u7, _, e12, hu7⟩ := nameI ((u6 : Int) * 53) 53000000000 (by omega) (by omega) (by omega)
    obtain ⟨u8, _, e13, hu8⟩ := nameI ((u5 : Int) + u7) 100000000000 (by omega) (by omega) (by omega)
    have hi1' : (i1 : Int) < n := by omega
    have hi2' : (i2 : Int) < n := by omega
    have hx256 : (x : Int) ≤ 255 := by omega
    have hy256 : (y : Int) ≤ 255 := by omega
    have hX := Kt (x := (u8 : Int)) (y := (u8 : Int) / 64) (by omega) (by omega) (by omega) (by omega)
    obtain ⟨z, hz⟩ : ∃ z : Nat, bits .xor .i64 (u8 : Int) ((u8 : Int) / 64) = (z : Int) := ⟨(bits .xor .i64 (u8 : Int) ((u8 : Int) / 64)).toNat, by omega⟩
    have Hz := hide hz
    clear hz hX
    go_enter Tryz.func27, Tryz.ntmps27
    go_wp2
    go_quiet (fail)
    go_wp2
    go_ret
    rw [za Hz]
    refine ⟨⟨((z : Int) % m).toNat, zF ?_, .inl ?_⟩, (za HN).drewN nq, (za HK).drewN nq⟩
    ·rw [Int.toNat_of_nonneg (Int.emod_nonneg _ (by omega)), Int.tmod_eq_emod_of_nonneg (by omega)]
    ·rw [Int.toNat_of_nonneg (Int.emod_nonneg _ (by omega))]; exact Int.emod_lt_of_pos _ (by omega)
theorem zX (g p n cap : Nat) (a : Option Addr) (m : Int) (w : World) (h : Rd w g p a n cap) (hp : p ≤ 1000000000) (hm : m ≤ 4611686018427387904) :
  Calls Tryz.prog 27 #[.pointer (some ⟨g, 0, none⟩), .int .i64 m] w fun e w' => (∃ i : Nat, e = .returned (.int .i64 (i : Int)) ∧ zaz m i) ∧ Drawn w g p n cap a 1 w' :=
 (vV g p n cap a m w h hp hm).mono fun _ _ h => ⟨h.1, ⟨p + 1, Nat.le_refl _, h.2.1⟩, h.2.2⟩
def Bytes0 (w : World) (a : Option Addr) (n : Nat) : Prop :=
 0 < n → ∃ q o, a = some ⟨q, o, none⟩ ∧ q < w.heap.size ∧ ∀ j, j < n → ∃ x : Nat, x ≤ 255 ∧ w.cell? ⟨q, o + j, none⟩ = some (.int .u8 (x : Int))
theorem Bytes0.below {w w' : World} {a : Option Addr} {n : Nat} (h : Bytes0 w a n) (k : Below w.heap.size w w') : Bytes0 w' a n := by
 intro hn
 obtain ⟨q, o, rfl, hq, hc⟩ := h hn
 refine ⟨q, o, rfl, Nat.lt_of_lt_of_le hq k.size, fun j hj => ?_⟩
 obtain ⟨x, hx, hcj⟩ := hc j hj
 exact ⟨x, hx, by rw [k.cell hq]; exact hcj⟩
theorem Bytes0.byts {w : World} {a : Option Addr} {n m : Nat} (h : Bytes0 w a n) (hm : m ≤ n) (o : Obj) : Byts (w.alloc o) w.heap.size a m := by
 intro hn
 obtain ⟨q, o', rfl, hq, hc⟩ := h (by omega)
 refine ⟨q, o', rfl, hq, by simp; omega, fun j hj => ?_⟩
 obtain ⟨x, hx, hcj⟩ := hc j (by omega)
 exact ⟨x, hx, by rw [Below.cell ((Below.refl w.heap.size w).alloc (Nat.le_refl _) o) hq]; exact hcj⟩
theorem Xu {w : World} {a : Option Addr} {n m cap : Nat} (h : Bytes0 w a n) (hm : m ≤ n) (h2 : m ≤ 2000) (v : Int) (hv : v = ((0 : Nat) : Int)) : Rd (w.alloc (.cells #[.slice a m cap, .int .i64 v] 76)) w.heap.size 0 a m cap := by
 subst hv
 exact ⟨by show (w.heap.push _)[w.heap.size]? = _; rw [Array.getElem?_push, if_pos rfl], h.byts hm _, h2⟩
theorem JQ (a : Option Addr) (n cap : Nat) (w : World) (h : Bytes0 w a n) (hcap : n ≤ cap) (hmax : cap ≤ maxLen) :
  Calls Tryz.prog 26 #[.slice a n cap] w fun e w' => e = .returned (.pointer (some ⟨w.heap.size, 0, none⟩)) ∧ (∃ m, m ≤ n ∧ Rd w' w.heap.size 0 a m cap) ∧ Below w.heap.size w w' := by
 unfold maxLen at hmax
 have H := hide h
 clear h
 by_cases hn : 2000 < n
 ·have hc2 : (2000 : Int) ≤ cap := by omega
  go_enter Tryz.func26, Tryz.ntmps26
  go_wp2
  go_ret
  exact ⟨rfl, ⟨2000, by omega, Xu (za H) (by omega) (by omega) _ rfl⟩, (Below.refl _ _).alloc (Nat.le_refl _) _⟩
 ·go_enter Tryz.func26, Tryz.ntmps26
  go_wp2
  go_ret
  exact ⟨rfl, ⟨n, by omega, Xu (za H) (by omega) (by omega) _ rfl⟩, (Below.refl _ _).alloc (Nat.le_refl _) _⟩
def isS (M : Nat) : Value → Bool | .string s => decide (s.size ≤ M) | _ => false
theorem zaD {M : Nat} {v : Value} (h : isS M v = true) : ∃ s, v = .string s ∧ s.size ≤ M := by
 cases v <;> simp [isS] at h
 exact ⟨_, rfl, h⟩
theorem of_c (g p n cap q : Nat) (a : Option Addr) (cs : Array Value) (L : Nat) (w : World) (h : Rd w g p a n cap) (hp : p ≤ 1000000000) (hL : L = cs.size) (hL0 : 0 < L) (hL9 : L ≤ 1000000)
  (hcs : w.heap[q]? = some (.cells cs 9 (0, 0))) (hqg : q ≠ g) :
  Calls Tryz.prog 119 #[.pointer (some ⟨g, 0, none⟩), .slice (some ⟨q, 0, none⟩) L L] w fun e w' => (∃ v, e = .returned v ∧ v ∈ cs.toList) ∧ Drawn w g p n cap a 1 w' := by
 have hq : q < w.heap.size := (Array.getElem?_eq_some_iff.1 hcs).1
 have H := hide h
 have Hcs := hide hcs
 have HL := hide hL
 clear h hcs hL
 go_enter Tryz.func119, Tryz.ntmps119
 go_wp2_with fail
 refine (vV g p n cap a L w (za H) hp (by omega)).mono ?_
 rintro e w1 ⟨⟨i, rfl, hi⟩, hr, hk⟩
 have hiL : i < L := by rcases hi with hi | hi <;> omega
 have hiL2 : (i : Int) < L := by omega
 have hlt : i < cs.toList.length := by rw [Array.length_toList, ← za HL]; exact hiL
 have hcell : w1.cell? ⟨q, i, none⟩ = some (cs.toList[i]'hlt) := by
  rw [hk.cell (p := ⟨q, i, none⟩) hq hqg]
  simp [World.cell?, za Hcs]
 have hmem : cs.toList[i]'hlt ∈ cs.toList := List.getElem_mem hlt
 generalize cs.toList[i]'hlt = v at *
 have Hm := hide hmem
 have HR := hide hr
 have HK := hide hk
 clear hr hk hmem hi
 go_wp2
 go_ret
 exact ⟨⟨v, rfl, za Hm⟩, ⟨p + 1, Nat.le_refl _, za HR⟩, za HK⟩
theorem zH (n : Nat) : (dec n).size = (txl 10 n).length := by simp [dec, txt, zi]
theorem qH (n : Nat) : n < 10 ^ (dec n).size := by rw [zH]; exact x8 (by omega) n
theorem za5 {a b X l : Nat} (hba : b ≤ a) (hX : X < 10 ^ (dec a).size) (h : X + b % 10 ^ (dec a).size = a % 10 ^ (dec a).size + l * 10 ^ (dec a).size) : X = a - b := by
 have ha := qH a
 rw [Nat.mod_eq_of_lt ha, Nat.mod_eq_of_lt (by omega)] at h
 generalize 10 ^ (dec a).size = p at *
 have : l = 0 := by
  rcases Nat.eq_zero_or_pos l with h0 | h0
  ·exact h0
  ·have := Nat.mul_le_mul_right p h0
   omega
 subst this; omega
theorem zaS (a b : Nat) (w : World) (hba : b ≤ a) (hs : (dec a).size ≤ 100000) :
  Calls Tryz.prog 153 #[.string (dec a), .string (dec b)] w fun e w' => e = .returned (.string (dec (a - b))) ∧ Below w.heap.size w w' := by
 obtain ⟨i0, hi, hz0, hz1, hz2⟩ := info_parts Tryz.infoInt
 have hbs : (dec b).size ≤ 1000000000 := by
  have := qk (b := 10) (by omega) (qW a) (Nat.lt_of_le_of_lt hba (qH a))
  rw [zH b]; omega
 have Hba := hide hba
 clear hba
 go_enter Tryz.func153, Tryz.ntmps153
 go_wp2
 go_loopw [5, 6, 7] (fun v l i wr => ∃ (k c : Nat) (xs : List Nat), k ≤ (dec a).size ∧ i = .int .i64 k ∧ l = .int .i64 c ∧ c ≤ 1 ∧ xs.length = k ∧ wr.ownsRow w.heap.size 3 1 v k (ints xs) ∧ Below w.heap.size w wr ∧
   Hid (∀ d ∈ xs, d < 10) ∧ Hid (ofd 10 xs + b % 10 ^ k = a % 10 ^ k + c * 10 ^ k))
  (fun _ _ i _ => (dec a).size - (intOf i).toNat)
 case atStart =>
  exact ⟨0, 0, [], Nat.zero_le _, rfl, rfl, by omega, rfl, World.ownsRow_made w #[] 0 (Nat.le_refl _) (by decide) (by simp), (Below.refl _ _).alloc (Nat.le_refl _) _, hide (by simp), hide (by simp [ofd, Nat.mod_one])⟩
 case round =>
  obtain ⟨k, c, xs, hk, rfl, rfl, hc, hxk, hown, hb, hdg, hval⟩ := hrel
  by_cases hlt : k < (dec a).size
  ·have hak : a / 10 ^ k % 10 < 10 := Nat.mod_lt _ (by omega)
   have hbk : b / 10 ^ k % 10 < 10 := Nat.mod_lt _ (by omega)
   generalize hga : a / 10 ^ k % 10 = ak at *
   generalize hgb : b / 10 ^ k % 10 = bk at *
   have Ha := hide hga
   have Hb := hide hgb
   clear hga hgb
   go_wp2_with fail
   refine (vH a k ak _ (za Ha) (by omega) (by omega)).mono ?_
   rintro e w1 ⟨rfl, rfl⟩
   go_wp2_with fail
   refine (vH b k bk _ (za Hb) (by omega) (by omega)).mono ?_
   rintro e w1 ⟨rfl, rfl⟩
   by_cases hneg : (ak : Int) - bk - c < 0
   ·obtain ⟨d, hd⟩ : ∃ d : Nat, (ak : Int) - bk - c + 10 = d := ⟨((ak : Int) - bk - c + 10).toNat, by omega⟩
    have hdl : d < 10 := by omega
    have hw := hb.size
    go_wp2_with (at_builtin; refine wpList_append_own _ rfl (.tmp 29) (.tmp 31) 24 rfl w.heap.size 3 i0 (.int .i64 0) 1 8 Tryz.underlying24 hi hz0 hz1 hz2 rfl (by decide) _ _ _ rfl (hown.alloc _) ⟨w1.heap.size, 0, none⟩ 1 1 [.int .i64 d] rfl rfl (cell_one_new _ _ _) (by intro u hu; simp at hu; subst hu; rfl) (by unfold maxLen; omega) (by omega) (by simp; omega) ?_; intro v2 w2 hown2 hg2 _)
    have hbX := zw (hb.alloc hw _) (hown.alloc _) hg2 (by simp; omega)
    go_roundw
    case rel => exact ⟨k + 1, 1, xs ++ [d], by omega, by go_num, rfl, by omega, by simp [hxk], by rw [← vI]; exact hown2, hbX, vK hdg hdl, hide (by rw [zZ, hxk]; exact JZ (za hval) (za Ha) (za Hb) (by omega))⟩
    case measure => simp [intOf]; omega
   ·obtain ⟨d, hd⟩ : ∃ d : Nat, (ak : Int) - bk - c = d := ⟨((ak : Int) - bk - c).toNat, by omega⟩
    have hdl : d < 10 := by omega
    have hw := hb.size
    go_wp2_with (at_builtin; refine wpList_append_own _ rfl (.tmp 29) (.tmp 31) 24 rfl w.heap.size 3 i0 (.int .i64 0) 1 8 Tryz.underlying24 hi hz0 hz1 hz2 rfl (by decide) _ _ _ rfl (hown.alloc _) ⟨w1.heap.size, 0, none⟩ 1 1 [.int .i64 d] rfl rfl (cell_one_new _ _ _) (by intro u hu; simp at hu; subst hu; rfl) (by unfold maxLen; omega) (by omega) (by simp; omega) ?_; intro v2 w2 hown2 hg2 _)
    have hbX := zw (hb.alloc hw _) (hown.alloc _) hg2 (by simp; omega)
    go_roundw
    case rel => exact ⟨k + 1, 0, xs ++ [d], by omega, by go_num, rfl, by omega, by simp [hxk], by rw [← vI]; exact hown2, hbX, vK hdg hdl, hide (by rw [zZ, hxk]; exact JZ (za hval) (za Ha) (za Hb) (by omega))⟩
    case measure => simp [intOf]; omega
  ·go_wp2_with fail
   refine (ZH xs _ _ (za hdg) (by omega) (zK (hxk ▸ hown) (Nat.zero_le _))).mono ?_
   rintro e w1 ⟨rfl, hb1⟩
   go_wp2
   go_ret
   have hkn : k = (dec a).size := by omega
   subst hkn
   exact ⟨zT (by rw [za5 (za Hba) (hxk ▸ yi xs (za hdg)) (za hval)]), hb.trans (hb1.mono hb.size)⟩
theorem Zm (n k : Nat) (h : (dec n).size ≤ k) : n / 10 ^ k % 10 = 0 := by
 rw [Qm n k (by rw [← zH]; exact h)]
theorem zaV {a b X k : Nat} (h1 : (dec a).size ≤ k) (h2 : (dec b).size ≤ k) (h : X + 0 * 10 ^ k = a % 10 ^ k + b % 10 ^ k) : X = a + b := by
 have ha := Nat.lt_of_lt_of_le (qH a) (Nat.pow_le_pow_right (show 0 < 10 by omega) h1)
 have hb := Nat.lt_of_lt_of_le (qH b) (Nat.pow_le_pow_right (show 0 < 10 by omega) h2)
 rw [Nat.mod_eq_of_lt ha, Nat.mod_eq_of_lt hb] at h
 omega
theorem zaZ (a b : Nat) (w : World) (hsa : (dec a).size ≤ 100000) (hsb : (dec b).size ≤ 100000) :
  Calls Tryz.prog 132 #[.string (dec a), .string (dec b)] w fun e w' => e = .returned (.string (dec (a + b))) ∧ Below w.heap.size w w' := by
 obtain ⟨i0, hi, hz0, hz1, hz2⟩ := info_parts Tryz.infoInt
 obtain ⟨M, hM1, hM2, hM3⟩ : ∃ M, (dec a).size ≤ M ∧ (dec b).size ≤ M ∧ M ≤ 100000 := ⟨max (dec a).size (dec b).size, by omega, by omega, by omega⟩
 go_enter Tryz.func132, Tryz.ntmps132
 go_wp2
 go_loopw [5, 6, 7] (fun v l i wr => ∃ (k c : Nat) (xs : List Nat), k ≤ M + 1 ∧ k + c ≤ M + 1 ∧ i = .int .i64 k ∧ l = .int .i64 c ∧ c ≤ 1 ∧ xs.length = k ∧ wr.ownsRow w.heap.size 3 1 v k (ints xs) ∧ Below w.heap.size w wr ∧
   Hid (∀ d ∈ xs, d < 10) ∧ Hid (ofd 10 xs + c * 10 ^ k = a % 10 ^ k + b % 10 ^ k))
  (fun _ _ i _ => M + 1 - (intOf i).toNat)
 case atStart =>
  exact ⟨0, 0, [], by omega, by omega, rfl, rfl, by omega, rfl, World.ownsRow_made w #[] 0 (Nat.le_refl _) (by decide) (by simp), (Below.refl _ _).alloc (Nat.le_refl _) _, hide (by simp), hide (by simp [ofd, Nat.mod_one])⟩
 case round =>
  obtain ⟨k, c, xs, hk, hkc, rfl, rfl, hc, hxk, hown, hb, hdg, hval⟩ := hrel
  have hak : a / 10 ^ k % 10 < 10 := Nat.mod_lt _ (by omega)
  have hbk : b / 10 ^ k % 10 < 10 := Nat.mod_lt _ (by omega)
  have ha0 := Zm a k
  have hb0 := Zm b k
  generalize hga : a / 10 ^ k % 10 = ak at *
  generalize hgb : b / 10 ^ k % 10 = bk at *
  have Ha := hide hga
  have Hb := hide hgb
  clear hga hgb
  obtain ⟨d, hd⟩ : ∃ d : Nat, ((ak : Int) + bk + c) % 10 = d := ⟨(((ak : Int) + bk + c) % 10).toNat, by omega⟩
  obtain ⟨c', hc'⟩ : ∃ d : Nat, ((ak : Int) + bk + c) / 10 = d := ⟨(((ak : Int) + bk + c) / 10).toNat, by omega⟩
  have hdl : d < 10 := by omega
  have hcl : (dec a).size ≤ k → (dec b).size ≤ k → c' = 0 := fun h1 h2 => by have := ha0 h1; have := hb0 h2; omega
  have hkM : k < (dec a).size ∨ k < (dec b).size ∨ 0 < c → k + 1 + c' ≤ M + 1 := by
   intro h
   by_cases h1 : (dec a).size ≤ k
   ·by_cases h2 : (dec b).size ≤ k
    ·have := hcl h1 h2; omega
    ·omega
   ·omega
  have HkM := hide hkM
  clear hcl hkM ha0 hb0
  by_cases h1 : k < (dec a).size
  ·have hkm := za HkM (.inl h1)
   go_wp2_with fail
   refine (vH a k ak _ (za Ha) (by omega) (by omega)).mono ?_
   rintro e w1 ⟨rfl, rfl⟩
   go_wp2_with fail
   refine (vH b k bk _ (za Hb) (by omega) (by omega)).mono ?_
   rintro e w1 ⟨rfl, rfl⟩
   have hw := hb.size
   go_wp2_with (at_builtin; refine wpList_append_own _ rfl (.tmp 35) (.tmp 38) 24 rfl w.heap.size 3 i0 (.int .i64 0) 1 8 Tryz.underlying24 hi hz0 hz1 hz2 rfl (by decide) _ _ _ rfl (hown.alloc _) ⟨w1.heap.size, 0, none⟩ 1 1 [.int .i64 d] rfl rfl (cell_one_new _ _ _) (by intro u hu; simp at hu; subst hu; rfl) (by unfold maxLen; omega) (by omega) (by simp; omega) ?_; intro v2 w2 hown2 hg2 _)
   have hbX := zw (hb.alloc hw _) (hown.alloc _) hg2 (by simp; omega)
   go_roundw
   case rel => exact ⟨k + 1, c', xs ++ [d], by omega, by omega, by go_num, by rw [hc'], by omega, by simp [hxk], by rw [← vI]; exact hown2, hbX, vK hdg hdl, hide (by rw [zZ, hxk]; exact x4 (za hval) (za Ha) (za Hb) (by omega))⟩
   case measure => simp [intOf]; omega
  ·by_cases h2 : k < (dec b).size
   ·have hkm := za HkM (.inr (.inl h2))
    go_wp2_with fail
    refine (vH a k ak _ (za Ha) (by omega) (by omega)).mono ?_
    rintro e w1 ⟨rfl, rfl⟩
    go_wp2_with fail
    refine (vH b k bk _ (za Hb) (by omega) (by omega)).mono ?_
    rintro e w1 ⟨rfl, rfl⟩
    have hw := hb.size
    go_wp2_with (at_builtin; refine wpList_append_own _ rfl (.tmp 35) (.tmp 38) 24 rfl w.heap.size 3 i0 (.int .i64 0) 1 8 Tryz.underlying24 hi hz0 hz1 hz2 rfl (by decide) _ _ _ rfl (hown.alloc _) ⟨w1.heap.size, 0, none⟩ 1 1 [.int .i64 d] rfl rfl (cell_one_new _ _ _) (by intro u hu; simp at hu; subst hu; rfl) (by unfold maxLen; omega) (by omega) (by simp; omega) ?_; intro v2 w2 hown2 hg2 _)
    have hbX := zw (hb.alloc hw _) (hown.alloc _) hg2 (by simp; omega)
    go_roundw
    case rel => exact ⟨k + 1, c', xs ++ [d], by omega, by omega, by go_num, by rw [hc'], by omega, by simp [hxk], by rw [← vI]; exact hown2, hbX, vK hdg hdl, hide (by rw [zZ, hxk]; exact x4 (za hval) (za Ha) (za Hb) (by omega))⟩
    case measure => simp [intOf]; omega
   ·by_cases h3 : 0 < c
    ·have hkm := za HkM (.inr (.inr h3))
     go_wp2_with fail
     refine (vH a k ak _ (za Ha) (by omega) (by omega)).mono ?_
     rintro e w1 ⟨rfl, rfl⟩
     go_wp2_with fail
     refine (vH b k bk _ (za Hb) (by omega) (by omega)).mono ?_
     rintro e w1 ⟨rfl, rfl⟩
     have hw := hb.size
     go_wp2_with (at_builtin; refine wpList_append_own _ rfl (.tmp 35) (.tmp 38) 24 rfl w.heap.size 3 i0 (.int .i64 0) 1 8 Tryz.underlying24 hi hz0 hz1 hz2 rfl (by decide) _ _ _ rfl (hown.alloc _) ⟨w1.heap.size, 0, none⟩ 1 1 [.int .i64 d] rfl rfl (cell_one_new _ _ _) (by intro u hu; simp at hu; subst hu; rfl) (by unfold maxLen; omega) (by omega) (by simp; omega) ?_; intro v2 w2 hown2 hg2 _)
     have hbX := zw (hb.alloc hw _) (hown.alloc _) hg2 (by simp; omega)
     go_roundw
     case rel => exact ⟨k + 1, c', xs ++ [d], by omega, by omega, by go_num, by rw [hc'], by omega, by simp [hxk], by rw [← vI]; exact hown2, hbX, vK hdg hdl, hide (by rw [zZ, hxk]; exact x4 (za hval) (za Ha) (za Hb) (by omega))⟩
     case measure => simp [intOf]; omega
    ·have hc0 : c = 0 := by omega
     subst hc0
     go_wp2_with fail
     refine (ZH xs _ _ (za hdg) (by omega) (zK (hxk ▸ hown) (Nat.zero_le _))).mono ?_
     rintro e w1 ⟨rfl, hb1⟩
     go_wp2
     go_ret
     exact ⟨zT (by rw [zaV (Nat.le_of_not_lt h1) (Nat.le_of_not_lt h2) (za hval)]), hb.trans (hb1.mono hb.size)⟩
end Go.Proofs.YtpbnmhnbkfnaeaaGreatDoor
