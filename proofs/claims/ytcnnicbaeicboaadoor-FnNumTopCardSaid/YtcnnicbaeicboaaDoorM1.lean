/- A part of the proof, put together out of smaller texts. -/
import Derived.Test.YtcnnicbaeicboaaDoorRows
import Derived.Below
import Derived.WalkKit
import Derived.WalkSpells
import Derived.WalkLawsBesides
import Derived.Deep.QuietTactic
import Derived.BigQuiet
import Derived.Laws.CopyOwn
import Derived.BigRegion
import Derived.Deep.RegionWith
import Derived.Deep.RegionHeld3
set_option linter.all false
set_option maxRecDepth 100000
set_option maxHeartbeats 16000000
namespace Go.Proofs.YtcnnicbaeicboaaDoor.Nt
def ofd (b : Nat) : List Nat → Nat
 | [] => 0
 | d :: r => d + b * ofd b r
def dgf (b : Nat) : Nat → Nat → List Nat
 | 0, _ => []
 | f + 1, n => if n = 0 then [] else n % b :: dgf b f (n / b)
def dg (b n : Nat) : List Nat := dgf b n n
theorem kB {b : Nat} (hb : 2 ≤ b) : ∀ (f g n : Nat), n ≤ f → n ≤ g → dgf b f n = dgf b g n := by
 intro f
 induction f with
 | zero => intro g n h1 h2; have : n = 0 := by omega
           subst this; cases g <;> simp [dgf]
 | succ f ih =>
  intro g n h1 h2
  cases g with
  | zero => have : n = 0 := by omega
            subst this; simp [dgf]
  | succ g =>
   simp only [dgf]
   by_cases h : n = 0
   ·simp [h]
   ·have hlt : n / b < n := Nat.div_lt_self (by omega) (by omega)
    simp only [h, if_false]
    rw [ih g (n / b) (by omega) (by omega)]
theorem qk (b : Nat) : dg b 0 = [] := by simp [dg, dgf]
theorem qO {b n : Nat} (hb : 2 ≤ b) (hn : 0 < n) : dg b n = n % b :: dg b (n / b) := by
 unfold dg
 cases n with
 | zero => omega
 | succ m =>
  have hlt : (m + 1) / b < m + 1 := Nat.div_lt_self (by omega) (by omega)
  simp only [dgf]
  rw [if_neg (by omega), kB hb m ((m + 1) / b) ((m + 1) / b) (by omega) (by omega)]
theorem jJ {b : Nat} (hb : 2 ≤ b) : ∀ n, ofd b (dg b n) = n := by
 intro n
 induction n using Nat.strongRecOn with
 | _ n ih =>
  by_cases h : n = 0
  ·subst h; simp [qk, ofd]
  ·rw [qO hb (by omega), ofd, ih _ (Nat.div_lt_self (by omega) (by omega))]
   exact Nat.mod_add_div n b
theorem dg_lt {b : Nat} (hb : 2 ≤ b) : ∀ n, ∀ d ∈ dg b n, d < b := by
 intro n
 induction n using Nat.strongRecOn with
 | _ n ih =>
  by_cases h : n = 0
  ·subst h; simp [qk]
  ·rw [qO hb (by omega)]
   intro d hd
   rcases List.mem_cons.1 hd with rfl | hd
   ·exact Nat.mod_lt _ (by omega)
   ·exact ih _ (Nat.div_lt_self (by omega) (by omega)) d hd
def can (b : Nat) (l : List Nat) : Prop := (∀ d ∈ l, d < b) ∧ (∀ d, l.getLast? = some d → d ≠ 0)
theorem ju {b : Nat} (hb : 2 ≤ b) : ∀ l, can b l → l ≠ [] → 0 < ofd b l := by
 intro l
 induction l with
 | nil => intro _ h; exact absurd rfl h
 | cons d r ih =>
  intro hc _
  simp only [ofd]
  by_cases hr : r = []
  ·subst hr
   have := hc.2 d (by simp)
   simp only [ofd]; omega
  ·have hc' : can b r := ⟨fun x hx => hc.1 x (List.mem_cons_of_mem _ hx), fun x hx => hc.2 x (by rw [List.getLast?_cons]; rw [hx]; rfl)⟩
   have h1 := ih hc' hr
   have h2 := Nat.mul_pos (show 0 < b by omega) h1
   omega
theorem ZD {b d : Nat} {r : List Nat} (h : can b (d :: r)) : can b r :=
 ⟨fun x hx => h.1 x (List.mem_cons_of_mem _ hx), fun x hx => h.2 x (by rw [List.getLast?_cons]; rw [hx]; rfl)⟩
theorem ZN {b : Nat} (hb : 2 ≤ b) : ∀ l, can b l → dg b (ofd b l) = l := by
 intro l
 induction l with
 | nil => intro _; simp [ofd, qk]
 | cons d r ih =>
  intro hc
  have hp := ju hb (d :: r) hc (by simp)
  have hd : d < b := hc.1 d (by simp)
  rw [qO hb hp]
  simp only [ofd]
  rw [Nat.add_mul_mod_self_left, Nat.mod_eq_of_lt hd, Nat.add_mul_div_left _ _ (by omega), Nat.div_eq_of_lt hd, Nat.zero_add, ih (ZD hc)]
theorem ZL {b : Nat} (hb : 2 ≤ b) : ∀ n, can b (dg b n) := by
 intro n
 refine ⟨dg_lt hb n, ?_⟩
 induction n using Nat.strongRecOn with
 | _ n ih =>
  by_cases h : n = 0
  ·subst h; simp [qk]
  ·rw [qO hb (by omega)]
   intro d hd
   have hlt : n / b < n := Nat.div_lt_self (by omega) (by omega)
   by_cases hr : dg b (n / b) = []
   ·rw [hr] at hd
    simp at hd
    have hz : n / b = 0 := by rw [← jJ hb (n / b), hr]; rfl
    rcases (Nat.div_eq_zero_iff).1 hz with h0 | h0
    ·omega
    ·rw [← hd, Nat.mod_eq_of_lt h0]; omega
   ·rw [List.getLast?_cons] at hd
    have : (dg b (n / b)).getLast? = some d := by
     cases hg : (dg b (n / b)).getLast? with
     | none => exact absurd (List.getLast?_eq_none_iff.1 hg) hr
     | some y => rw [hg] at hd; simpa using hd
    exact ih _ hlt d this
theorem qF (b : Nat) (l m : List Nat) : ofd b (l ++ m) = ofd b l + b ^ l.length * ofd b m := by
 induction l with
 | nil => simp [ofd]
 | cons d r ih => simp only [List.cons_append, ofd, ih, List.length_cons, Nat.pow_succ]; rw [Nat.mul_add, ← Nat.add_assoc, Nat.mul_comm (b ^ r.length) b, Nat.mul_assoc]
theorem jt {b : Nat} (l : List Nat) (h : ∀ d ∈ l, d < b) : ofd b l < b ^ l.length := by
 induction l with
 | nil => simp [ofd]
 | cons d r ih =>
  have h1 := ih (fun x hx => h x (List.mem_cons_of_mem _ hx))
  have h2 := h d (by simp)
  simp only [ofd, List.length_cons, Nat.pow_succ]
  have h3 : b * (ofd b r + 1) ≤ b * b ^ r.length := Nat.mul_le_mul_left _ h1
  rw [Nat.mul_add] at h3
  rw [Nat.mul_comm (b ^ r.length) b]
  omega
theorem zL (b k : Nat) : ofd b (List.replicate k 0) = 0 := by
 induction k with
 | zero => rfl
 | succ k ih => simp [List.replicate_succ, ofd, ih]
def strip : List Nat → List Nat
 | [] => []
 | d :: r => match strip r with
  | [] => if d = 0 then [] else [d]
  | x :: y => d :: x :: y
theorem Zb (b : Nat) (l : List Nat) : ofd b (strip l) = ofd b l := by
 induction l with
 | nil => rfl
 | cons d r ih =>
  simp only [strip, ofd]
  rw [← ih]
  cases h : strip r with
  | nil => by_cases hd : d = 0 <;> simp [hd, ofd]
  | cons x y => simp [ofd]
theorem Zo {l : List Nat} {d : Nat} (h : d ∈ strip l) : d ∈ l := by
 induction l with
 | nil => simp [strip] at h
 | cons x r ih =>
  simp only [strip] at h
  cases hs : strip r with
  | nil =>
   rw [hs] at h
   by_cases hx : x = 0
   ·simp [hx] at h
   ·simp [hx] at h; simp [h]
  | cons y z =>
   rw [hs] at h ih
   rcases List.mem_cons.1 h with h | h
   ·simp [h]
   ·exact List.mem_cons_of_mem _ (ih h)
theorem xb {l : List Nat} {d : Nat} (h : (strip l).getLast? = some d) : d ≠ 0 := by
 induction l with
 | nil => simp [strip] at h
 | cons x r ih =>
  simp only [strip] at h
  cases hs : strip r with
  | nil =>
   rw [hs] at h
   by_cases hx : x = 0
   ·simp [hx] at h
   ·simp [hx] at h; omega
  | cons y z =>
   rw [hs] at h ih
   exact ih (by simpa [List.getLast?_cons] using h)
theorem Zn {b : Nat} {l : List Nat} (h : ∀ d ∈ l, d < b) : can b (strip l) :=
 ⟨fun d hd => h d (Zo hd), fun _ hd => xb hd⟩
theorem j7 {b : Nat} (hb : 2 ≤ b) {l : List Nat} (h : ∀ d ∈ l, d < b) : strip l = dg b (ofd b l) := by
 rw [← Zb, ZN hb _ (Zn h)]
theorem jn (l : List Nat) : strip (l ++ [0]) = strip l := by
 induction l with
 | nil => simp [strip]
 | cons d r ih => simp only [List.cons_append, strip, ih]
theorem jx (l : List Nat) (d : Nat) (hd : d ≠ 0) : strip (l ++ [d]) = l ++ [d] := by
 induction l with
 | nil => simp [strip, hd]
 | cons x r ih =>
  simp only [List.cons_append, strip, ih]
  cases h : r ++ [d] with
  | nil => simp at h
  | cons _ _ => rfl
theorem jW {b : Nat} (hb : 2 ≤ b) {n : Nat} : dg b n = [] ↔ n = 0 := by
 constructor
 ·intro h; rw [← jJ hb n, h]; rfl
 ·intro h; subst h; exact qk b
theorem qE {b : Nat} (hb : 2 ≤ b) (n : Nat) : n < b ^ (dg b n).length := by
 have := jt _ (dg_lt hb n)
 rwa [jJ hb] at this
theorem qr {b : Nat} (hb : 2 ≤ b) {k : Nat} : ∀ {n : Nat}, n < b ^ k → (dg b n).length ≤ k := by
 induction k with
 | zero => intro n h; have : n = 0 := by simpa using h
           subst this; simp [qk]
 | succ k ih =>
  intro n h
  by_cases h0 : n = 0
  ·subst h0; simp [qk]
  ·rw [qO hb (by omega), List.length_cons]
   have : n / b < b ^ k := by
    rw [Nat.div_lt_iff_lt_mul (by omega)]; rwa [Nat.pow_succ] at h
   have := ih this
   omega
theorem ZM {b : Nat} (hb : 2 ≤ b) : ∀ (k n : Nat), (dg b n).getD k 0 = n / b ^ k % b := by
 intro k
 induction k with
 | zero =>
  intro n
  by_cases h0 : n = 0
  ·subst h0; simp [qk]
  ·rw [qO hb (by omega)]; simp
 | succ k ih =>
  intro n
  by_cases h0 : n = 0
  ·subst h0; simp [qk]
  ·rw [qO hb (by omega)]
   have := ih (n / b)
   rw [List.getD_cons_succ, this, Nat.div_div_eq_div_mul, Nat.pow_succ, Nat.mul_comm (b ^ k) b]
theorem zS (b n k : Nat) : n % b ^ (k + 1) = n % b ^ k + b ^ k * (n / b ^ k % b) := by
 rw [Nat.pow_succ, Nat.mod_mul]
theorem km {a b k X l ak bk d l' : Nat} (h : X + b % 10 ^ k = a % 10 ^ k + l * 10 ^ k) (ha : a / 10 ^ k % 10 = ak) (hb : b / 10 ^ k % 10 = bk) (hd : d + bk + l = ak + 10 * l') :
  X + 10 ^ k * d + b % 10 ^ (k + 1) = a % 10 ^ (k + 1) + l' * 10 ^ (k + 1) := by
 rw [zS, zS, ha, hb, Nat.pow_succ]
 generalize 10 ^ k = p at *
 have e : p * d + p * bk + l * p = p * ak + l' * (p * 10) := by
  have := congrArg (p * ·) hd
  simp only [Nat.mul_add] at this
  rw [Nat.mul_comm l p, this, Nat.mul_comm l' (p * 10), Nat.mul_assoc]
 omega
theorem vt {a b k X c ak bk d c' : Nat} (h : X + c * 10 ^ k = a % 10 ^ k + b % 10 ^ k) (ha : a / 10 ^ k % 10 = ak) (hb : b / 10 ^ k % 10 = bk) (hd : d + 10 * c' = ak + bk + c) :
  X + 10 ^ k * d + c' * 10 ^ (k + 1) = a % 10 ^ (k + 1) + b % 10 ^ (k + 1) := by
 rw [zS, zS, ha, hb, Nat.pow_succ]
 generalize 10 ^ k = p at *
 have e : p * d + c' * (p * 10) = p * ak + p * bk + c * p := by
  have := congrArg (p * ·) hd
  simp only [Nat.mul_add] at this
  rw [Nat.mul_comm c p, ← this, Nat.mul_comm c' (p * 10), Nat.mul_assoc]
 omega
theorem qH (b : Nat) (l : List Nat) (j v : Nat) (h : j < l.length) : ofd b (l.set j v) + b ^ j * l[j] = ofd b l + b ^ j * v := by
 induction l generalizing j with
 | nil => simp at h
 | cons d r ih =>
  cases j with
  | zero => simp [ofd]; omega
  | succ j =>
   have := ih j (by simpa using h)
   simp only [List.set_cons_succ, ofd, List.getElem_cons_succ]
   have h2 := congrArg (b * ·) this
   simp only [Nat.mul_add] at h2
   rw [Nat.pow_succ, Nat.mul_comm (b ^ j) b, Nat.mul_assoc, Nat.mul_assoc]
   omega
theorem kO (b : Nat) (l : List Nat) (j : Nat) (h : j < l.length) : b ^ j * l[j] ≤ ofd b l := by
 have := qH b l j 0 h
 omega
theorem Z8 {a b i k X ai bk x : Nat} (ha : a / 10 ^ i % 10 = ai) (hb : b / 10 ^ k % 10 = bk) (h : X = a % 10 ^ i * b + 10 ^ i * (ai * (b % 10 ^ k))) {Y : Nat} (hY : Y + 10 ^ (i + k) * x = X + 10 ^ (i + k) * (x + ai * bk)) :
  Y = a % 10 ^ i * b + 10 ^ i * (ai * (b % 10 ^ (k + 1))) := by
 rw [zS, hb]
 have e : 10 ^ i * (ai * (b % 10 ^ k + 10 ^ k * bk)) = 10 ^ i * (ai * (b % 10 ^ k)) + 10 ^ (i + k) * (ai * bk) := by
  rw [Nat.mul_add, Nat.mul_add, Nat.pow_add]
  congr 1
  simp only [Nat.mul_assoc, Nat.mul_comm, Nat.mul_left_comm]
 rw [Nat.mul_add] at hY
 subst ha
 omega
theorem QG {a b i ai : Nat} (ha : a / 10 ^ i % 10 = ai) : a % 10 ^ i * b + 10 ^ i * (ai * b) = a % 10 ^ (i + 1) * b := by
 rw [zS, ha, Nat.add_mul, Nat.mul_assoc]
theorem kz {X x y j Y Z : Nat} (hY : Y + 10 ^ (j + 1) * y = X + 10 ^ (j + 1) * (y + x / 10)) (hZ : Z + 10 ^ j * x = Y + 10 ^ j * (x % 10)) : Z = X := by
 have e : 10 ^ j * x = 10 ^ j * (x % 10) + 10 ^ (j + 1) * (x / 10) := by
  rw [Nat.pow_succ, Nat.mul_assoc, ← Nat.mul_add]; congr 1; omega
 rw [Nat.mul_add] at hY
 omega
theorem zG (b : Nat) (l : List Nat) (d : Nat) : ofd b (l ++ [d]) = ofd b l + b ^ l.length * d := by
 rw [qF]; simp [ofd]
end Go.Proofs.YtcnnicbaeicboaaDoor.Nt
namespace Go.Proofs.YtcnnicbaeicboaaDoor
open Go Nt
open Go.RowKit in
theorem hide {p : Prop} (h : p) : Hid p := h
open Go.RowKit in
theorem za {p : Prop} (h : Hid p) : p := h
def B (l : List UInt8) : ByteArray := ⟨l.toArray⟩
theorem jK (s : ByteArray) : B s.data.toList = s := by cases s; rfl
theorem zy (l : List UInt8) : (B l).size = l.length := by simp [B, ByteArray.size]
theorem QT (l : List UInt8) : (B l).data.toList = l := by simp [B]
theorem B_get (l : List UInt8) (k : Nat) (h : k < (B l).size) : (B l)[k] = l[k]'(by rw [zy] at h; exact h) := by
 simp [B, ByteArray.getElem_eq_getElem_data]
theorem vW (l : List UInt8) (i j : Nat) : (B l).extract i j = B ((l.take j).drop i) := by
 apply ByteArray.ext
 simp [B, ByteArray.data_extract, List.extract_toArray]
 simp [List.drop_take]
theorem jo (l m : List UInt8) : B l ++ B m = B (l ++ m) := by
 apply ByteArray.ext
 simp [B, ByteArray.data_append]
def sg (d : Nat) : UInt8 := if d < 10 then UInt8.ofNat (48 + d) else UInt8.ofNat (87 + d)
theorem zY {d : Nat} (h : d < 16) : (sg d).toNat = if d < 10 then 48 + d else 87 + d := by
 unfold sg; split
 ·simp [UInt8.toNat_ofNat']; omega
 ·simp [UInt8.toNat_ofNat']; omega
theorem Q2 {c d : Nat} (hc : c < 16) (hd : d < 16) (h : sg c = sg d) : c = d := by
 have := congrArg UInt8.toNat h
 rw [zY hc, zY hd] at this
 split at this <;> split at this <;> omega
def txl (b n : Nat) : List UInt8 := if n = 0 then [48] else ((dg b n).map sg).reverse
def txt (b n : Nat) : ByteArray := B (txl b n)
def dec (n : Nat) : ByteArray := txt 10 n
theorem zM (b : Nat) : txl b 0 = [48] := by simp [txl]
theorem qo {b n : Nat} (h : n ≠ 0) : txl b n = ((dg b n).map sg).reverse := by simp [txl, h]
theorem jy {b : Nat} (hb : 2 ≤ b) (n : Nat) : 0 < (txl b n).length := by
 by_cases h : n = 0
 ·subst h; simp [zM]
 ·rw [qo h]; simp only [List.length_reverse, List.length_map]
  rw [qO hb (by omega)]; simp
theorem vC {b : Nat} (hb : 2 ≤ b) (n : Nat) : n < b ^ (txl b n).length := by
 by_cases h : n = 0
 ·subst h; simp only [zM, List.length_singleton, Nat.pow_one]; omega
 ·rw [qo h]; simp only [List.length_reverse, List.length_map]; exact qE hb n
theorem qb {b : Nat} (hb : 2 ≤ b) {k n : Nat} (hk : 0 < k) (h : n < b ^ k) : (txl b n).length ≤ k := by
 by_cases h0 : n = 0
 ·subst h0; simp only [zM, List.length_singleton]; omega
 ·rw [qo h0]; simp only [List.length_reverse, List.length_map]; exact qr hb h
theorem xG {b : Nat} (hb : 2 ≤ b) (hb16 : b ≤ 16) {m n : Nat} (h : txl b m = txl b n) : m = n := by
 have key : ∀ m, ofd b (((txl b m).reverse).map fun c => if c.toNat < 58 then c.toNat - 48 else c.toNat - 87) = m := by
  intro m
  by_cases h0 : m = 0
  ·subst h0; simp [zM, ofd]
  ·rw [qo h0, List.reverse_reverse, List.map_map]
   have : (dg b m).map ((fun c : UInt8 => if c.toNat < 58 then c.toNat - 48 else c.toNat - 87) ∘ sg) = (dg b m).map id := by
    apply List.map_congr_left
    intro d hd
    have hd' := dg_lt hb m d hd
    simp only [Function.comp]
    rw [zY (by omega)]
    split <;> simp <;> omega
   rw [this, List.map_id, jJ hb]
 rw [← key m, h, key]
theorem qv (n : Nat) : 0 < (dec n).size := by
 unfold dec txt; rw [zy]; exact jy (by omega) n
theorem kA (n k : Nat) (h : k < (txl 10 n).length) : ((txl 10 n).reverse)[k]'(by simpa using h) = sg (n / 10 ^ k % 10) := by
 by_cases h0 : n = 0
 ·subst h0
  have : k = 0 := by simp [zM] at h; omega
  subst this
  simp [zM, sg]
 ·have hl : k < (dg 10 n).length := by rw [qo h0] at h; simpa using h
  have e : (txl 10 n).reverse = (dg 10 n).map sg := by rw [qo h0, List.reverse_reverse]
  have g := ZM (b := 10) (by omega) k n
  rw [List.getD_eq_getElem?_getD, List.getElem?_eq_getElem hl] at g
  simp only [e, List.getElem_map]
  rw [← g]; rfl
theorem vX (n k : Nat) (h : (txl 10 n).length ≤ k) : n / 10 ^ k = 0 := by
 apply Nat.div_eq_of_lt
 exact Nat.lt_of_lt_of_le (vC (by omega) n) (Nat.pow_le_pow_right (by omega) h)
def trim : List UInt8 → List UInt8
 | [] => []
 | c :: r => if c = 48 ∧ r ≠ [] then trim r else c :: r
theorem qW (l : List Nat) (h : ∀ d ∈ l, d < 10) (hl : l ≠ []) : trim ((l.map sg).reverse) = txl 10 (ofd 10 l) := by
 have key : ∀ (n : Nat) (l : List Nat), l.length = n → (∀ d ∈ l, d < 10) → l ≠ [] → trim ((l.map sg).reverse) = txl 10 (ofd 10 l) := by
  intro n
  induction n with
  | zero => intro l hn _ hl; exact absurd (List.eq_nil_of_length_eq_zero hn) hl
  | succ n ih =>
   intro l hn hd hl
   have hdec := List.dropLast_concat_getLast hl
   generalize hm : l.dropLast = m at hdec
   generalize hx : l.getLast hl = x at hdec
   have hxl : x < 10 := hd x (by rw [← hdec]; simp)
   have hml : m.length = n := by rw [← hdec] at hn; simpa using hn
   have hmd : ∀ d ∈ m, d < 10 := fun d h => hd d (by rw [← hdec]; simp [h])
   rw [← hdec, List.map_append, List.reverse_append]
   simp only [List.map_cons, List.map_nil, List.reverse_cons, List.reverse_nil, List.nil_append, List.cons_append, trim]
   by_cases hx0 : x = 0
   ·subst hx0
    rw [qF]
    simp only [ofd, Nat.mul_zero, Nat.add_zero]
    by_cases hmn : m = []
    ·subst hmn; simp [ofd, zM, sg]
    ·rw [if_pos ⟨by simp [sg], by simpa using hmn⟩]
     exact ih m hml hmd hmn
   ·have hs : sg x ≠ 48 := by
     intro hc
     have := congrArg UInt8.toNat hc
     rw [zY (by omega), if_pos hxl] at this
     simp at this; omega
    rw [if_neg (fun hh => hs hh.1)]
    have hcan : can 10 (m ++ [x]) := ⟨fun d h => hd d (by rw [← hdec]; exact h), fun d h => by simp at h; omega⟩
    have hpos := ju (by omega) _ hcan (by simp)
    rw [qo (by omega), ZN (by omega) _ hcan]
    simp
 exact key l.length l rfl h hl
theorem kp (n : Nat) : trim (txl 10 n) = txl 10 n := by
 by_cases h0 : n = 0
 ·subst h0; simp [zM, trim]
 ·have := qW (dg 10 n) (dg_lt (by omega) n) (fun h => h0 ((jW (by omega)).1 h))
  rw [jJ (by omega)] at this
  rwa [qo h0] at this ⊢
theorem q4 (l : List UInt8) : (trim l).length ≤ l.length := by
 induction l with
 | nil => simp [trim]
 | cons c r ih => simp only [trim]; split <;> simp <;> omega
theorem Zs (l : List UInt8) (k : Nat) (h : k + 1 < l.length) (hz : l[k]'(by omega) = 48) : trim (l.drop k) = trim (l.drop (k + 1)) := by
 rw [List.drop_eq_getElem_cons (by omega), hz]
 simp only [trim]
 rw [if_pos ⟨by trivial, by simp; omega⟩]
theorem yx (l : List UInt8) (h : l.length ≤ 1 ∨ ∃ c r, l = c :: r ∧ c ≠ 48) : trim l = l := by
 rcases h with h | ⟨c, r, rfl, hc⟩
 ·match l, h with
  | [], _ => rfl
  | [c], _ => simp [trim]
 ·simp [trim, hc]
end Go.Proofs.YtcnnicbaeicboaaDoor
namespace Go.Proofs.YtcnnicbaeicboaaDoor
open Go.RowKit Nt
theorem qn {a b : ByteArray} (h : a = b) : Ending.returned (.string a) = .returned (.string b) := by rw [h]
theorem jT {k : IntKind} {a b : Int} (h : a = b) : Ending.returned (.int k a) = .returned (.int k b) := by rw [h]
theorem zx {a b : Bool} (h : a = b) : Ending.returned (.bool a) = .returned (.bool b) := by rw [h]
def u8v (c : UInt8) : Value := .int .u8 c.toNat
def ints (l : List Nat) : List Value := l.map fun (d : Nat) => Value.int .i64 (d : Int)
theorem wi64 (x : Int) (h0 : -9223372036854775808 ≤ x) (h1 : x ≤ 9223372036854775807) : IntKind.i64.wrap x = x := by rw [IntKind.wrap_i64]; omega
theorem wu8 (x : Int) (h0 : 0 ≤ x) (h1 : x ≤ 255) : IntKind.u8.wrap x = x := by rw [IntKind.wrap_u8]; omega
theorem wu64 (x : Int) (h0 : 0 ≤ x) (h1 : x ≤ 18446744073709551615) : IntKind.u64.wrap x = x := by rw [IntKind.wrap_u64]; omega
theorem q5 {n : Nat} {a w : World} (h : Below n a.drew w) : Below n a w := ⟨h.os, h.tape, h.output, h.size, h.block⟩
theorem zl {w w' : World} {base : Nat} {e : TypeId} {size : Nat} {v : Value} {n : Nat} {xs : List Value} (h : w.ownsRow base e size v n xs) (hb : Below w.heap.size w w') :
  w'.ownsRow base e size v n xs := by
 refine ⟨h.1, ?_⟩
 rcases h.2 with hn | ⟨g, cap, cur, rfl, hbg, hgg, rest⟩
 ·exact .inl hn
 ·exact .inr ⟨g, cap, cur, rfl, hbg, by rw [hb.block g (Array.getElem?_eq_some_iff.1 hgg).1]; exact hgg, rest⟩
theorem zE {w : World} {base base' : Nat} {e : TypeId} {size : Nat} {v : Value} {n : Nat} {xs : List Value} (h : w.ownsRow base e size v n xs) (hb : base' ≤ base) :
  w.ownsRow base' e size v n xs := by
 refine ⟨h.1, ?_⟩
 rcases h.2 with hn | ⟨g, cap, cur, rfl, hbg, rest⟩
 ·exact .inl hn
 ·exact .inr ⟨g, cap, cur, rfl, by omega, rest⟩
theorem zV {B : Nat} {w w' : World} {v : Value} {e : TypeId} {size n : Nat} {xs : List Value} {a : World} (h : Below B a w) (own : w.ownsRow B e size v n xs) (hg : w.grownBy w' v.ownBlock) (hB : B ≤ w.heap.size) : Below B a w' :=
 h.grown hg hB (fun k hk => (own.lt k hk).1)
theorem q8 {b d : Nat} {xs : List Nat} (h : Hid (∀ x ∈ xs, x < b)) (hd : d < b) : Hid (∀ x ∈ xs ++ [d], x < b) := by
 intro x hx
 rcases List.mem_append.1 hx with h1 | h1
 ·exact za h x h1
 ·simp at h1; omega
theorem qB {P : Program} {w : World} {src dst e : TypeId} {base sz : Nat} {v : Value} {n : Nat} {l : List UInt8}
  (hs : P.underlying src = some (.slice e)) (he : P.underlying e = some (.int .u8)) (hd : P.underlying dst = some .string)
  (h : w.ownsRow base sz 1 v n (l.map u8v)) : (convert src dst v).run P w = .ok (.string (B l)) w := by
 have hl : l.length = n := by simpa using h.1
 have fold : ∀ (ns : List UInt8) (s : ByteArray), (ns.map (fun c => (c.toNat : Int))).foldl (fun r n => r.push (UInt8.ofNat n.toNat)) s = s ++ B ns := by
  intro ns
  induction ns with
  | nil => intro s; apply ByteArray.ext; simp [B, ByteArray.data_append]
  | cons c r ih =>
   intro s
   simp only [List.map_cons, List.foldl_cons, ih]
   apply ByteArray.ext
   simp [B, ByteArray.data_append, ByteArray.data_push]
 have fold0 : (l.map (fun c => (c.toNat : Int))).foldl (fun r n => r.push (UInt8.ofNat n.toNat)) ByteArray.empty = B l := by
  rw [fold]; apply ByteArray.ext; simp
 rcases h.2 with ⟨rfl, hn⟩ | ⟨g, cap, cur, rfl, _, hg, hnc, _, hcs, htake⟩
 ·have : l = [] := List.eq_nil_of_length_eq_zero (by omega)
  subst this
  rw [run_convert_bytes_string w src dst e none 0 0 hs he hd]
  rfl
 ·rw [run_convert_bytes_string w src dst e _ _ _ hs he hd]
  have hc := h.cells (g := g) rfl
  have hload := run_loadCells_list (P := P) (w := w) ⟨g, 0, none⟩ (l.map u8v) hc
  have e1 : (l.map u8v) = (l.map (fun c => (c.toNat : Int))).map (Value.int .u8) := by simp [u8v, Function.comp]
  rw [List.length_map, hl] at hload
  rw [e1] at hload
  have := run_bytesToString (P := P) w ⟨g, 0, none⟩ n cap (l.map (fun c => (c.toNat : Int))) hload
  rw [this, fold0]
theorem zZ {w : World} {base : Nat} {e : TypeId} {g n cap : Nat} {xs : List Value} (h : w.ownsRow base e 1 (.slice (some ⟨g, 0, none⟩) n cap) n xs) (j : Nat) (hj : j < n) :
  ∃ v, w.cell? ⟨g, j, none⟩ = some v := by
 have hx : xs.length = n := by simpa using h.1
 exact ⟨xs[j], by rw [h.cellAt j (by omega)]; exact List.getElem?_eq_getElem (by omega)⟩
theorem yR {d : Nat} (h : d < 10) : u8v (sg d) = .int .u8 (48 + (d : Int)) := by
 unfold u8v; rw [zY (by omega), if_pos h]; simp
theorem jb (l : List Nat) (d : Nat) : ints l ++ [.int .i64 (d : Int)] = ints (l ++ [d]) := by simp [ints]
theorem zi {w w3 : World} {cs : Array Value} {T : TypeId} (h : Below (w.heap.size + 1) (w.alloc (.cells cs T)) w3) (j : Nat) : w3.cell? ⟨w.heap.size, j, none⟩ = cs[j]? := by
 rw [h.cell (p := ⟨w.heap.size, j, none⟩) (Nat.lt_succ_self _)]
 exact World.cell?_alloc_at cs T _ j rfl
theorem zF {w w3 : World} {cs : Array Value} {T : TypeId} (h : Below (w.heap.size + 1) (w.alloc (.cells cs T)) w3) (j : Nat) : w3.frozen? ⟨w.heap.size, j, none⟩ = false := by
 rw [h.frozen (p := ⟨w.heap.size, j, none⟩) (Nat.lt_succ_self _)]
 exact World.frozen?_alloc_at cs T _ j rfl
theorem zA {w w3 : World} {o : Obj} (h : Below (w.heap.size + 1) (w.alloc o) w3) : Below w.heap.size w w3 :=
 ((Below.refl _ _).alloc (Nat.le_refl _) _).trans (h.mono (by omega))
theorem zu {w w1 : World} {o : Obj} (h : Below (w.alloc o).heap.size (w.alloc o) w1) : Below (w.heap.size + 1) (w.alloc o) w1 := by simpa using h
theorem zf {B : Nat} {a b c : World} (h : Below B a b) (hB : B ≤ b.heap.size) (k : Below b.heap.size b c) : Below B a c ∧ B ≤ c.heap.size :=
 ⟨h.trans (k.mono hB), Nat.le_trans hB k.size⟩
def u64s (l : List Nat) : List Value := l.map fun (d : Nat) => Value.int .u64 (d : Int)
theorem zD (l : List Nat) : (u64s l).length = l.length := by simp [u64s]
theorem zh (l : List Nat) (j : Nat) (h : j < l.length) : (u64s l)[j]? = some (.int .u64 (l[j] : Nat)) := by simp [u64s, h]
theorem qj (l : List Nat) (j d : Nat) (v : Int) (h : v = (d : Int)) : (u64s l).set j (.int .u64 v) = u64s (l.set j d) := by rw [h]; simp [u64s, List.map_set]
theorem qh (n : Nat) : List.replicate n (Value.int .u64 0) = u64s (List.replicate n 0) := by simp [u64s]
theorem Zv (l : List Nat) (d : Nat) : u64s l ++ [.int .u64 (d : Int)] = u64s (l ++ [d]) := by simp [u64s]
theorem kf {w : World} {base : Nat} {e : TypeId} {g n cap : Nat} {xs : List Value} (h : w.ownsRow base e 1 (.slice (some ⟨g, 0, none⟩) n cap) n xs) (k : Nat) (hk : k ≤ n) :
  w.ownsRow base e 1 (.slice (some ⟨g, 0, none⟩) k cap) k (xs.take k) := by
 have hx : xs.length = n := by simpa using h.1
 refine ⟨by simp; omega, ?_⟩
 rcases h.2 with ⟨h', _⟩ | ⟨g', cap', cur, h', hb, hg, hnc, hcm, hcs, htake⟩
 ·simp at h'
 ·simp only [Value.slice.injEq, Option.some.injEq, Addr.mk.injEq, and_true, true_and] at h'
  obtain ⟨rfl, rfl⟩ := h'
  refine .inr ⟨g, cap, cur, rfl, hb, hg, by omega, hcm, hcs, ?_⟩
  rw [← htake, List.take_take]; simp; omega
theorem jc {w : World} {base : Nat} {e : TypeId} {v : Value} {n : Nat} {xs : List Value} (h : w.ownsRow base e 1 v n xs) :
  (v = .slice none 0 0 ∧ n = 0 ∧ xs = []) ∨ ∃ g cap, v = .slice (some ⟨g, 0, none⟩) n cap ∧ n ≤ cap ∧ base ≤ g ∧ g < w.heap.size := by
 rcases h.2 with ⟨rfl, hn⟩ | ⟨g, cap, cur, rfl, hb, hg, hnc, _⟩
 ·left
  exact ⟨rfl, hn, List.eq_nil_of_length_eq_zero (by have := h.1; omega)⟩
 ·right
  exact ⟨g, cap, rfl, hnc, hb, (Array.getElem?_eq_some_iff.1 hg).1⟩
theorem zd {w : World} {base : Nat} {e : TypeId} {v : Value} {n : Nat} {xs : List Value} (h : w.ownsRow base e 1 v n xs) : ∃ p cap, v = .slice p n cap := by
 rcases jc h with ⟨rfl, rfl, _⟩ | ⟨g, cap, rfl, _⟩
 ·exact ⟨_, _, rfl⟩
 ·exact ⟨_, _, rfl⟩
theorem zU {w : World} {base : Nat} {e : TypeId} {v : Value} {n : Nat} {xs : List Value} (h : w.ownsRow base e 1 v n xs) (hn : 0 < n) :
  ∃ g cap, v = .slice (some ⟨g, 0, none⟩) n cap ∧ n ≤ cap ∧ base ≤ g ∧ g < w.heap.size := by
 rcases jc h with ⟨_, rfl, _⟩ | hh
 ·omega
 ·exact hh
theorem zX {p : Nat → Prop} {l : List Nat} {j v : Nat} (h : ∀ d ∈ l, p d) (hv : p v) : ∀ d ∈ l.set j v, p d := by
 intro d hd
 rcases List.mem_or_eq_of_mem_set hd with h1 | h1
 ·exact h d h1
 ·rw [h1]; exact hv
theorem qV {w : World} {base e g n : Nat} {xs : List Value} (h : w.ownsRow base e 1 (.slice (some ⟨g, 0, none⟩) n n) n xs) : w.heap[g]? = some (.cells xs.toArray e (0, 0)) := by
 rcases h.2 with ⟨h', _⟩ | ⟨g', cap', cur, h', hb, hg, hnc, hcm, hcs, htake⟩
 ·simp at h'
 ·simp only [Value.slice.injEq, Option.some.injEq, Addr.mk.injEq, and_true, true_and] at h'
  obtain ⟨rfl, rfl⟩ := h'
  rw [hg]
  have : cur.toList = xs := by
   rw [← htake, List.take_of_length_le]
   rw [Array.length_toList, hcs]; exact Nat.le_refl _
  rw [← this]
theorem qA {w : World} {base e g n : Nat} {xs : List Value} (h : w.heap[g]? = some (.cells xs.toArray e (0, 0))) (hl : xs.length = n) (hn : n ≤ maxLen) (hb : base ≤ g) :
  w.ownsRow base e 1 (.slice (some ⟨g, 0, none⟩) n n) n xs := by
 refine ⟨by omega, .inr ⟨g, n, xs.toArray, rfl, hb, h, Nat.le_refl _, hn, by simp; omega, ?_⟩⟩
 rw [List.take_of_length_le (by simp; omega)]
theorem vL (l : List Nat) : ∀ u ∈ u64s l, u.oneCell' = true := by
 intro u hu
 obtain ⟨d, _, rfl⟩ := List.mem_map.1 hu
 rfl
theorem jz (l m : List Nat) : u64s (l ++ m) = u64s l ++ u64s m := by simp [u64s]
theorem j4 (l : List Nat) (k : Nat) : u64s (l.drop k) = (u64s l).drop k := by simp [u64s, List.map_drop]
theorem wi32 (x : Int) (h0 : -2147483648 ≤ x) (h1 : x ≤ 2147483647) : IntKind.i32.wrap x = x := by rw [IntKind.wrap_i32]; omega
theorem Tryd.infoU64 : (Tryd.prog.info? 80).map (fun i => (i.zero, i.size, i.bytes)) = some (some (.int .u64 0), 1, 8) := by kernel_rfl
theorem Zu (xs : List Nat) (base : Nat) (v : Value) (w : World) (hs : xs.length ≤ 1000000000) (h : w.ownsRow base 80 1 v xs.length (u64s xs)) :
  Calls Tryd.prog 98 #[v] w fun e w' => (∃ v', e = .returned v' ∧ w.ownsRow base 80 1 v' (strip xs).length (u64s (strip xs)) ∧ v'.ownBlock = v.ownBlock) ∧ w' = w := by
 rcases jc h with ⟨rfl, hn, hx⟩ | ⟨g, cap, rfl, hnc, hbg, hgw⟩
 ·have : xs = [] := List.eq_nil_of_length_eq_zero hn
  subst this
  have H := hide h
  clear h hn hx hs
  go_enter Tryd.func98, Tryd.ntmps98
  go_wp2
  refine wp_loop_rounds 1 ?_; rw [rounds_succ]
  go_wp2
  go_ret
  exact ⟨⟨_, rfl, za H, rfl⟩, rfl⟩
 ·go_enter Tryd.func98, Tryd.ntmps98
  go_wp2
  go_loop [0] (fun v' => ∃ ys : List Nat, v' = .slice (some ⟨g, 0, none⟩) ys.length cap ∧ ys.length ≤ xs.length ∧ w.ownsRow base 80 1 (.slice (some ⟨g, 0, none⟩) ys.length cap) ys.length (u64s ys) ∧ Hid (strip ys = strip xs))
   (fun v' => match v' with | .slice _ n _ => n | _ => 0)
  case atStart => exact ⟨xs, rfl, Nat.le_refl _, h, hide rfl⟩
  case round =>
   obtain ⟨ys, rfl, hyl, hown, hst⟩ := hrel
   by_cases hy0 : 0 < ys.length
   ·have hc := hown.cellAt (ys.length - 1) (by omega)
    rw [zh _ _ (by omega)] at hc
    have hsp : ys = ys.take (ys.length - 1) ++ [ys[ys.length - 1]'(by omega)] := by
     rw [← List.take_succ_eq_append_getElem (by omega), show ys.length - 1 + 1 = ys.length from by omega, List.take_length]
    have htk := kf hown (ys.length - 1) (by omega)
    generalize hd : ys[ys.length - 1]'(by omega) = d at *
    by_cases hd0 : d = 0
    ·have hst2 : strip (ys.take (ys.length - 1)) = strip xs := by
      rw [← za hst]
      conv => rhs; rw [hsp, hd0]
      rw [jn]
     have hq : ((d : Int) == 0) = true := by rw [beq_iff_eq]; omega
     have e1 : u64s (ys.take (ys.length - 1)) = (u64s ys).take (ys.length - 1) := by simp [u64s, List.map_take]
     rw [← e1] at htk
     have hl1 : (ys.take (ys.length - 1)).length = ys.length - 1 := by simp
     generalize ys.take (ys.length - 1) = zs at *
     have hzl : zs.length + 1 = ys.length := by omega
     have Htk := hide htk
     have Hst2 := hide hst2
     clear hst2 htk hsp hd0 e1 hd
     go_wp2
     go_round
     case rel => exact ⟨zs, by rw [hl1], by omega, by rw [hl1]; exact za Htk, Hst2⟩
     case measure => show ys.length - 1 < ys.length; omega
    ·have hq : ((d : Int) == 0) = false := by rw [beq_eq_false_iff_ne]; omega
     have hfin : strip xs = ys := by rw [← za hst, hsp, jx _ _ hd0]
     have Hfin := hide hfin
     clear hfin hsp htk hd0 hd
     go_wp2
     go_ret
     refine ⟨⟨_, rfl, ?_, rfl⟩, rfl⟩
     rw [za Hfin]; exact hown
   ·have : ys = [] := List.eq_nil_of_length_eq_zero (by omega)
    subst this
    have H := hide hown
    go_wp2
    go_ret
    refine ⟨⟨_, rfl, ?_, rfl⟩, rfl⟩
    rw [← za hst]; exact za H
def gr (x : Nat) : List Nat := dg 1000000000 x
theorem z9 (x : Nat) : ofd 1000000000 (gr x) = x := jJ (by omega) x
theorem gr_lt (x : Nat) : ∀ d ∈ gr x, d < 1000000000 := dg_lt (by omega) x
theorem vf : gr 0 = [] := qk _
theorem jY {x : Nat} : gr x = [] ↔ x = 0 := jW (by omega)
theorem ZS {l : List Nat} (h : ∀ d ∈ l, d < 1000000000) : strip l = gr (ofd 1000000000 l) := j7 (by omega) h
theorem qs {x y : Nat} (h : x ≤ y) : (gr x).length ≤ (gr y).length :=
 qr (by omega) (Nat.lt_of_le_of_lt h (qE (by omega) y))
def isNat (w : World) (v : Value) (x : Nat) : Prop := w.ownsRow 0 80 1 v (gr x).length (u64s (gr x))
def isNatB (w : World) (base : Nat) (v : Value) (x : Nat) : Prop := w.ownsRow base 80 1 v (gr x).length (u64s (gr x))
theorem isNatB.nat {w : World} {base : Nat} {v : Value} {x : Nat} (h : isNatB w base v x) : isNat w v x := zE h (Nat.zero_le _)
theorem zb {w w' : World} {v : Value} {x : Nat} (h : isNat w v x) (hb : Below w.heap.size w w') : isNat w' v x := zl h hb
theorem qg (xs : List Nat) (base : Nat) (v : Value) (w : World) (hs : xs.length ≤ 1000000000) (hd : ∀ d ∈ xs, d < 1000000000) (h : w.ownsRow base 80 1 v xs.length (u64s xs)) :
  Calls Tryd.prog 98 #[v] w fun e w' => (∃ v', e = .returned v' ∧ isNatB w base v' (ofd 1000000000 xs)) ∧ w' = w := by
 refine (Zu xs base v w hs h).mono ?_
 rintro e w' ⟨⟨v', rfl, h1, _⟩, rfl⟩
 refine ⟨⟨v', rfl, ?_⟩, rfl⟩
 unfold isNatB
 rw [← ZS hd]
 exact h1
theorem xw (x : Nat) (v : Value) (w : World) (h : isNat w v x) (hs : (gr x).length ≤ 1000000000) :
  Calls Tryd.prog 51 #[v] w fun e w' => e = .returned (.bool (decide (x = 1))) ∧ w' = w := by
 have g1 : gr 1 = [1] := by unfold gr; rw [qO (by omega) (by omega)]; simp [qk]
 have hx1 : x = 1 ↔ gr x = [1] := by
  constructor
  ·intro hh; rw [hh, g1]
  ·intro hh; rw [← z9 x, hh]; simp [ofd]
 unfold isNat at h
 generalize gr x = xs at *
 rcases jc h with ⟨rfl, hn, hx⟩ | ⟨g, cap, rfl, hnc, hbg, hgw⟩
 ·have hf : decide (x = 1) = false := by
   rw [decide_eq_false_iff_not, hx1]; intro hh; rw [hh] at hn; simp at hn
  rw [hf]
  clear h hn hx hs hx1 hf g1
  go_enter Tryd.func51, Tryd.ntmps51
  go_wp2
  go_ret
  exact ⟨rfl, rfl⟩
 ·by_cases hl : xs.length = 1
  ·have hc := h.cellAt 0 (by omega)
   rw [zh _ _ (by omega)] at hc
   have hxs : xs = [xs[0]'(by omega)] := by
    match xs, hl with
    | [a], _ => rfl
   generalize xs[0]'(by omega) = a at *
   have hlI : ((xs.length : Int) == 1) = true := by rw [beq_iff_eq]; omega
   have hf : decide (x = 1) = ((a : Int) == 1) := by
    rw [Bool.eq_iff_iff, decide_eq_true_iff, hx1, hxs, beq_iff_eq]
    simp
    omega
   rw [hf]
   have h0 : 0 < xs.length := by omega
   clear hf hxs hx1 h hl g1
   go_enter Tryd.func51, Tryd.ntmps51
   go_wp2
   go_ret
   exact ⟨rfl, rfl⟩
  ·have hlI : ((xs.length : Int) == 1) = false := by rw [beq_eq_false_iff_ne]; omega
   have hf : decide (x = 1) = false := by
    rw [decide_eq_false_iff_not, hx1]; intro hh; rw [hh] at hl; simp at hl
   rw [hf]
   clear hf hx1 hl g1
   go_enter Tryd.func51, Tryd.ntmps51
   go_wp2
   go_ret
   exact ⟨rfl, rfl⟩
theorem j2 (b : Nat) (l : List Nat) (i : Nat) (h : i < l.length) : ofd b l = ofd b (l.take i) + b ^ i * (l[i] + b * ofd b (l.drop (i + 1))) := by
 have e : l = l.take i ++ (l[i] :: l.drop (i + 1)) := by rw [← List.drop_eq_getElem_cons h, List.take_append_drop]
 conv => lhs; rw [e]
 rw [qF]
 simp only [ofd, List.length_take]
 rw [Nat.min_eq_left (by omega)]
theorem xA {l m : List Nat} {b i : Nat} (hl : i < l.length) (hm : i < m.length) (hlen : l.length = m.length) (hb : ∀ d ∈ l, d < b) (hup : ∀ t (h1 : t < l.length) (h2 : t < m.length), i < t → l[t] = m[t]) (hlt : l[i] < m[i]) :
  ofd b l < ofd b m := by
 have hdr : l.drop (i + 1) = m.drop (i + 1) := by
  apply List.ext_getElem
  ·simp [hlen]
  ·intro t h1 h2
   simp only [List.getElem_drop]
   exact hup _ _ _ (by omega)
 rw [j2 b l i hl, j2 b m i hm, hdr]
 have h1 := jt (b := b) (l.take i) (fun d hd => hb d (List.mem_of_mem_take hd))
 rw [List.length_take, Nat.min_eq_left (by omega)] at h1
 generalize ofd b (m.drop (i + 1)) = D
 have h2 : b ^ i * (l[i] + b * D + 1) ≤ b ^ i * (m[i] + b * D) := Nat.mul_le_mul_left _ (by omega)
 rw [Nat.mul_add] at h2
 omega
theorem yJ (x y : Nat) (v u : Value) (w : World) (hx : isNat w v x) (hy : isNat w u y) (hsx : (gr x).length ≤ 1000000) (_hsy : (gr y).length ≤ 1000000) :
  Calls Tryd.prog 133 #[v, u] w fun e w' => e = .returned (.bool (decide (x < y))) ∧ Below w.heap.size w w' := by
 by_cases hlen : (gr x).length = (gr y).length
 ·by_cases h0 : (gr x).length = 0
  ·have hx0 : x = 0 := jY.1 (List.eq_nil_of_length_eq_zero h0)
   have hy0 : y = 0 := jY.1 (List.eq_nil_of_length_eq_zero (by omega))
   obtain ⟨p1, c1, rfl⟩ := zd hx
   obtain ⟨p2, c2, rfl⟩ := zd hy
   rw [show decide (x < y) = false from by rw [hx0, hy0]; rfl, ← hlen, h0]
   clear hx hy hlen h0 hsx hx0 hy0
   go_enter Tryd.func133, Tryd.ntmps133
   go_wp2
   refine wp_loop_rounds 1 ?_; rw [rounds_succ]
   go_wp2
   go_ret
   exact ⟨rfl, Below.refl _ _⟩
  ·obtain ⟨g, cap, rfl, hnc, _, hgw⟩ := zU hx (by omega)
   obtain ⟨g2, cap2, rfl, hnc2, _, hgw2⟩ := zU hy (by omega)
   have hxd := gr_lt x
   have hyd := gr_lt y
   have hxo := z9 x
   have hyo := z9 y
   unfold isNat at hx hy
   generalize gr x = xs at *
   generalize gr y = ys at *
   have Hxd := hide hxd
   have Hyd := hide hyd
   have Hxo := hide hxo
   have Hyo := hide hyo
   have Hlen := hide hlen
   have hneI : ((xs.length : Int) != (ys.length : Int)) = false := by rw [hlen]; simp
   have hleI : (ys.length : Int) = (xs.length : Int) := by omega
   clear hxd hyd hxo hyo
   go_enter Tryd.func133, Tryd.ntmps133
   go_wp2
   go_loopw [5] (fun i wr => ∃ k : Nat, k ≤ xs.length ∧ i = .int .i64 ((k : Int) - 1) ∧ (∃ m, wr = w.drewN m) ∧ Hid (∀ t (h1 : t < xs.length) (h2 : t < ys.length), k ≤ t → xs[t] = ys[t]))
    (fun i _ => ((intOf i) + 1).toNat)
   case atStart => exact ⟨xs.length, Nat.le_refl _, by go_num, ⟨0, rfl⟩, hide (fun t h1 _ h => by omega)⟩
   case round =>
    obtain ⟨k, hk, rfl, ⟨m, rfl⟩, hup⟩ := hrel
    cases k with
    | zero =>
     have hxy : x = y := by
      rw [← za Hxo, ← za Hyo]
      congr 1
      apply List.ext_getElem (za Hlen)
      intro t h1 h2
      exact za hup t h1 h2 (Nat.zero_le _)
     rw [show (((0 : Nat) : Int) - 1) = -1 from rfl]
     have hdf : decide (x < y) = false := by rw [hxy]; simp
     have Hdf := hide hdf
     clear hxy hdf
     go_wp2
     go_ret
     exact ⟨zx (za Hdf).symm, below_drewN (Below.refl _ _) _⟩
    | succ k =>
     rw [show (((k + 1 : Nat) : Int) - 1) = (k : Int) from by omega]
     have hc1 := hx.cellAt k (by omega)
     have hc2 := hy.cellAt k (by omega)
     rw [zh _ _ (by omega)] at hc1
     rw [zh _ _ (by omega)] at hc2
     have hk2 : (k : Int) < xs.length := by omega
     obtain ⟨xk, hxk⟩ : ∃ a, xs[k]'(by omega) = a := ⟨_, rfl⟩
     obtain ⟨yk, hyk⟩ : ∃ a, ys[k]'(by omega) = a := ⟨_, rfl⟩
     rw [hxk] at hc1
     rw [hyk] at hc2
     have Hxk := hide hxk
     have Hyk := hide hyk
     have hc1' : (w.drewN m).cell? ⟨g, k, none⟩ = some (.int .u64 (xk : Int)) := hc1
     have hc2' : (w.drewN m).cell? ⟨g2, k, none⟩ = some (.int .u64 (yk : Int)) := hc2
     clear hxk hyk
     by_cases heq : xk = yk
     ·have hq : ((xk : Int) != (yk : Int)) = false := by rw [heq]; simp
      have Heq := hide heq
      clear heq
      go_wp2
      go_quiet (fail)
      go_wp2
      go_roundw
      case rel =>
       refine ⟨k, by omega, rfl, ⟨m + nq, rfl⟩, ?_⟩
       intro t h1 h2 ht
       by_cases htk : t = k
       ·subst htk; rw [za Hxk, za Hyk]; exact za Heq
       ·exact za hup t h1 h2 (by omega)
      case measure => simp [intOf]
     ·have hq : ((xk : Int) != (yk : Int)) = true := by rw [bne_iff_ne]; omega
      have Heq := hide heq
      clear heq
      go_wp2
      go_quiet (fail)
      go_wp2
      go_quiet (fail)
      go_wp2
      go_ret
      refine ⟨zx ?_, below_drewN (below_drewN (below_drewN (Below.refl _ _) _) _) _⟩
      have hup' := za hup
      have hne := za Heq
      rcases Nat.lt_or_ge xk yk with h1 | h1
      ·have := xA (l := xs) (m := ys) (i := k) (by omega) (by omega) hlen (za Hxd) (fun t a b hh => hup' t a b (by omega)) (by rw [za Hxk, za Hyk]; exact h1)
       rw [za Hxo, za Hyo] at this
       rw [decide_eq_true this, decide_eq_true h1]
      ·have := xA (l := ys) (m := xs) (i := k) (by omega) (by omega) hlen.symm (za Hyd) (fun t a b hh => (hup' t b a (by omega)).symm) (by rw [za Hxk, za Hyk]; omega)
       rw [za Hxo, za Hyo] at this
       rw [decide_eq_false (show ¬ x < y by omega), decide_eq_false (show ¬ xk < yk by omega)]
 ·have hf : decide (x < y) = decide ((gr x).length < (gr y).length) := by
   rw [Bool.eq_iff_iff, decide_eq_true_iff, decide_eq_true_iff]
   constructor
   ·intro h; have := qs (Nat.le_of_lt h); omega
   ·intro h
    rcases Nat.lt_or_ge x y with h1 | h1
    ·exact h1
    ·have := qs h1; omega
  rw [hf]
  unfold isNat at hx hy
  have hne : (((gr x).length : Int) != ((gr y).length : Int)) = true := by rw [bne_iff_ne]; omega
  generalize gr x = xs at *
  generalize gr y = ys at *
  obtain ⟨p1, c1, rfl⟩ := zd hx
  obtain ⟨p2, c2, rfl⟩ := zd hy
  clear hf hlen hx hy
  go_enter Tryd.func133, Tryd.ntmps133
  go_wp2
  go_ret
  exact ⟨rfl, Below.refl _ _⟩
theorem y9 {d f c : Nat} (hd : d < 1000000000) (hf : f < 1000000000) (hc : c < 1000000000) : c + d * f < 1000000000 * 1000000000 := by
 have : d * f ≤ 999999999 * 999999999 := Nat.mul_le_mul (by omega) (by omega)
 omega
theorem QP {xs : List Nat} {k : Nat} (hk : k < xs.length) {f c0 c c' d X : Nat} (h : X + c * 1000000000 ^ k = ofd 1000000000 (xs.take k) * f + c0) (he : d + 1000000000 * c' = c + xs[k] * f) :
  X + 1000000000 ^ k * d + c' * 1000000000 ^ (k + 1) = ofd 1000000000 (xs.take (k + 1)) * f + c0 := by
 rw [List.take_succ_eq_append_getElem hk, zG, List.length_take, Nat.min_eq_left (by omega), Nat.pow_succ]
 generalize 1000000000 ^ k = p at *
 have h2 := congrArg (p * ·) he
 simp only [Nat.mul_add] at h2
 rw [Nat.add_mul, Nat.mul_assoc]
 have e1 : c' * (p * 1000000000) = p * (1000000000 * c') := by rw [Nat.mul_comm c', Nat.mul_assoc]
 have e2 : c * p = p * c := Nat.mul_comm _ _
 omega
theorem ko (x f c : Nat) (v : Value) (w : World) (hx : isNat w v x) (hs : (gr x).length ≤ 1000000) (hf : f < 1000000000) (hc : c < 1000000000) :
  Calls Tryd.prog 132 #[v, .int .u64 f, .int .u64 c] w fun e w' => (∃ v', e = .returned v' ∧ isNatB w' w.heap.size v' (x * f + c)) ∧ Below w.heap.size w w' := by
 obtain ⟨i0, hi, hz0, hz1, hz2⟩ := info_parts Tryd.infoU64
 have hxd := gr_lt x
 have hxo := z9 x
 unfold isNat at hx
 generalize gr x = xs at *
 obtain ⟨p, cap, rfl⟩ := zd hx
 have Hxd := hide hxd
 have Hxo := hide hxo
 have Hx := hide hx
 clear hxd hxo
 go_enter Tryd.func132, Tryd.ntmps132
 go_wp2_with (refine wpList_make_full _ rfl (.tmp 11) (.tmp 11) 65 rfl w.heap.size 80 i0 (.int .u64 0) 1 Tryd.underlying65 hi hz0 hz1 .i64 .i64 ((xs.length + 1 : Nat) : Int) ((xs.length + 1 : Nat) : Int) (xs.length + 1) rfl rfl rfl rfl (by rw [hz2]; omega) (by unfold maxLen; omega) (Nat.le_refl _) ?_; intro w1 hown1 hg1)
 go_loopw [2, 15] (fun cy i wr => ∃ (k c' : Nat) (ys : List Nat), k ≤ xs.length ∧ cy = .int .u64 c' ∧ c' < 1000000000 ∧ i = .int .i64 k ∧ ys.length = xs.length + 1 ∧
   wr.ownsRow w.heap.size 80 1 (.slice (some ⟨w.heap.size, 0, none⟩) (xs.length + 1) (xs.length + 1)) (xs.length + 1) (u64s ys) ∧ Below w.heap.size w wr ∧
   Hid (∀ d ∈ ys, d < 1000000000) ∧ Hid (ofd 1000000000 (ys.take k) + c' * 1000000000 ^ k = ofd 1000000000 (xs.take k) * f + c))
  (fun _ i _ => xs.length - (intOf i).toNat)
 case atStart =>
  refine ⟨0, c, List.replicate (xs.length + 1) 0, Nat.zero_le _, rfl, hc, rfl, by simp, ?_, (Below.refl _ _).grown hg1 (Nat.le_refl _) (fun _ h => by cases h), ?_, ?_⟩
  ·simpa [Value.cells, toList_madeCells_one, qh] using hown1
  ·intro d hd; simp at hd; omega
  ·show _ = _; simp [ofd]
 case round =>
  clear hown1 hg1
  obtain ⟨k, c', ys, hk, rfl, hc', rfl, hyl, hown, hb, hyd, hval⟩ := hrel
  by_cases hlt : k < xs.length
  ·obtain ⟨g, cap', hv, _⟩ := zU (za Hx) (by omega)
   simp only [Value.slice.injEq, true_and] at hv
   obtain ⟨rfl, rfl⟩ := hv
   have hcx := (zl (za Hx) hb).cellAt k (by omega)
   rw [zh _ _ hlt] at hcx
   obtain ⟨v0, hv0⟩ := zZ hown k (by omega)
   have hfr := hown.frozenAt k
   have hxk : xs[k]'hlt < 1000000000 := za Hxd _ (List.getElem_mem _)
   have hstep := fun d c2 => @QP xs k hlt f c c' c2 d
   generalize xs[k]'hlt = xk at *
   have Hstep := hide hstep
   have hfit := y9 hxk hf hc'
   generalize hpp : xk * f = pp at *
   have hppI : (xk : Int) * f = pp := by rw [← hpp]; simp
   clear hstep hpp
   obtain ⟨d, hd⟩ : ∃ d : Nat, ((c' : Int) + pp) % 1000000000 = d := ⟨(c' + pp) % 1000000000, by omega⟩
   obtain ⟨c2, hc2⟩ : ∃ d : Nat, ((c' : Int) + pp) / 1000000000 = d := ⟨(c' + pp) / 1000000000, by omega⟩
   have hdl : d < 1000000000 := by omega
   have hcl : c2 < 1000000000 := by omega
   have hsum : Hid (d + 1000000000 * c2 = c' + pp) := by show _ = _; omega
   have hst := hown.stored k (.int .u64 (d : Int))
   rw [qj _ _ d _ rfl] at hst
   have Hst := hide hst
   have hk2 : (k : Int) < (xs.length : Int) + 1 := by omega
   clear hst
   go_wp2
   go_roundw
   case rel =>
    refine ⟨k + 1, c2, ys.set k d, by omega, by rw [hc2], hcl, by go_num, by simpa using hyl, (za Hst).1, hb.setCell (by simp) _, zX (za hyd) hdl, ?_⟩
    have h1 := za Hstep d c2 (za hval) (za hsum)
    show _ = _
    rw [← h1]
    congr 1
    rw [show (ys.set k d).take (k + 1) = ys.take k ++ [d] from by
     rw [List.take_succ_eq_append_getElem (by simp; omega), List.take_set_of_le (Nat.le_refl _), List.getElem_set_self], zG, List.length_take, Nat.min_eq_left (by omega)]
   case measure => simp [intOf]; omega
  ·have hkl : k = xs.length := by omega
   subst hkl
   obtain ⟨v0, hv0⟩ := zZ hown xs.length (by omega)
   have hfr := hown.frozenAt xs.length
   have hst := hown.stored xs.length (.int .u64 (c' : Int))
   rw [qj _ _ c' _ rfl] at hst
   have hbX := hb.setCell (p := ⟨w.heap.size, xs.length, none⟩) (by simp) (.int .u64 (c' : Int))
   have hk2 : (xs.length : Int) < (xs.length : Int) + 1 := by omega
   have hfin : ofd 1000000000 (ys.set xs.length c') = x * f + c := by
    have h1 := za hval
    rw [List.take_length, za Hxo] at h1
    rw [← h1, show ys.set xs.length c' = ys.take xs.length ++ [c'] from by
     conv => lhs; rw [← List.take_length (l := ys.set xs.length c')]
     rw [List.length_set, hyl, List.take_succ_eq_append_getElem (by simp; omega), List.take_set_of_le (Nat.le_refl _), List.getElem_set_self], zG, List.length_take, Nat.min_eq_left (by omega), Nat.mul_comm]
   have hall := zX (j := xs.length) (v := c') (za hyd) hc'
   have hyl2 : (ys.set xs.length c').length = xs.length + 1 := by simpa using hyl
   generalize ys.set xs.length c' = zs at *
   have Hst := hide hst
   have Hfin := hide hfin
   have Hall := hide hall
   clear hst hfin hall
   go_wp2_with fail
   refine (qg zs w.heap.size _ _ (by omega) (za Hall) (by rw [hyl2]; exact (za Hst).1)).mono ?_
   rintro e w2 ⟨⟨v', rfl, hv'⟩, rfl⟩
   rw [za Hfin] at hv'
   go_wp2
   go_ret
   exact ⟨⟨v', rfl, hv'⟩, hbX⟩
theorem QI {xs : List Nat} {k : Nat} (hk : k < xs.length) {by_ r X q r' : Nat} (h : ofd 1000000000 (xs.drop (k + 1)) = by_ * X + r) (he : r * 1000000000 + xs[k] = by_ * q + r') :
  ofd 1000000000 (xs.drop k) = by_ * (q + 1000000000 * X) + r' := by
 rw [List.drop_eq_getElem_cons hk]
 simp only [ofd]
 rw [h, Nat.mul_add, Nat.mul_add, ← Nat.mul_assoc, Nat.mul_comm 1000000000 by_, Nat.mul_assoc]
 rw [Nat.mul_comm r] at he
 have e : by_ * (1000000000 * X) = 1000000000 * (by_ * X) := by rw [Nat.mul_left_comm]
 omega
theorem kU {x b q r : Nat} (h : x = b * q + r) (hr : r < b) : x / b = q ∧ x % b = r := by
 have hb : 0 < b := by omega
 subst h
 rw [Nat.mul_add_div hb, Nat.mul_add_mod, Nat.div_eq_of_lt hr, Nat.mod_eq_of_lt hr]
 exact ⟨by omega, rfl⟩
theorem kd (x b : Nat) (v : Value) (w : World) (hx : isNat w v x) (hs : (gr x).length ≤ 1000000) (hb0 : 0 < b) (hb9 : b < 1000000000) :
  Calls Tryd.prog 100 #[v, .int .u64 b] w fun e w' => (∃ v', e = .returned (.tuple #[v', .int .u64 ((x % b : Nat) : Int)]) ∧ isNatB w' w.heap.size v' (x / b)) ∧ Below w.heap.size w w' := by
 obtain ⟨i0, hi, hz0, hz1, hz2⟩ := info_parts Tryd.infoU64
 have hxd := gr_lt x
 have hxo := z9 x
 unfold isNat at hx
 generalize gr x = xs at *
 obtain ⟨p, cap, rfl⟩ := zd hx
 have Hxd := hide hxd
 have Hxo := hide hxo
 have Hx := hide hx
 clear hxd hxo
 go_enter Tryd.func100, Tryd.ntmps100
 go_wp2_with (refine wpList_make_full _ rfl (.tmp 10) (.tmp 10) 65 rfl w.heap.size 80 i0 (.int .u64 0) 1 Tryd.underlying65 hi hz0 hz1 .i64 .i64 xs.length xs.length xs.length rfl rfl rfl rfl (by rw [hz2]; omega) (by unfold maxLen; omega) (Nat.le_refl _) ?_; intro w1 hown1 hg1)
 go_loopw [7, 8] (fun lf i wr => ∃ (k r : Nat) (ys : List Nat), k ≤ xs.length ∧ lf = .int .u64 r ∧ r < b ∧ i = .int .i64 ((k : Int) - 1) ∧ ys.length = xs.length ∧
   wr.ownsRow w.heap.size 80 1 (.slice (some ⟨w.heap.size, 0, none⟩) xs.length xs.length) xs.length (u64s ys) ∧ Below w.heap.size w wr ∧
   Hid (∀ d ∈ ys, d < 1000000000) ∧ Hid (ofd 1000000000 (xs.drop k) = b * ofd 1000000000 (ys.drop k) + r))
  (fun _ i _ => ((intOf i) + 1).toNat)
 case atStart =>
  refine ⟨xs.length, 0, List.replicate xs.length 0, Nat.le_refl _, rfl, hb0, by go_num, by simp, ?_, (Below.refl _ _).grown hg1 (Nat.le_refl _) (fun _ h => by cases h), ?_, ?_⟩
  ·simpa [Value.cells, toList_madeCells_one, qh] using hown1
  ·intro d hd; simp at hd; omega
  ·show _ = _; simp [ofd]
 case round =>
  clear hown1 hg1
  obtain ⟨k, r, ys, hk, rfl, hr, rfl, hyl, hown, hb, hyd, hval⟩ := hrel
  cases k with
  | succ k =>
   rw [show (((k + 1 : Nat) : Int) - 1) = (k : Int) from by omega]
   have hlt : k < xs.length := by omega
   obtain ⟨g, cap', hv, _⟩ := zU (za Hx) (by omega)
   simp only [Value.slice.injEq, true_and] at hv
   obtain ⟨rfl, rfl⟩ := hv
   have hcx := (zl (za Hx) hb).cellAt k (by omega)
   rw [zh _ _ hlt] at hcx
   obtain ⟨v0, hv0⟩ := zZ hown k (by omega)
   have hfr := hown.frozenAt k
   have hxk : xs[k]'hlt < 1000000000 := za Hxd _ (List.getElem_mem _)
   have hstep := fun q r' => @QI xs k hlt b r (ofd 1000000000 (ys.drop (k + 1))) q r' (za hval)
   generalize xs[k]'hlt = xk at *
   have Hstep := hide hstep
   clear hstep
   have hS : r * 1000000000 + xk < b * 1000000000 := by
    have : (r + 1) * 1000000000 ≤ b * 1000000000 := Nat.mul_le_mul_right _ hr
    omega
   have hq9 : (r * 1000000000 + xk) / b < 1000000000 := by
    rw [Nat.div_lt_iff_lt_mul hb0]; omega
   have hrb : (r * 1000000000 + xk) % b < b := Nat.mod_lt _ hb0
   have hdm := Nat.div_add_mod (r * 1000000000 + xk) b
   have hSI : ((r * 1000000000 + xk : Nat) : Int) = (r : Int) * 1000000000 + xk := by simp
   have hqI : ((r : Int) * 1000000000 + xk) / (b : Int) = (((r * 1000000000 + xk) / b : Nat) : Int) := by rw [← hSI]; rfl
   have hrI : ((r : Int) * 1000000000 + xk) % (b : Int) = (((r * 1000000000 + xk) % b : Nat) : Int) := by rw [← hSI]; rfl
   generalize hq : (r * 1000000000 + xk) / b = q at *
   generalize hr' : (r * 1000000000 + xk) % b = r' at *
   have Hdm := hide hdm
   have hst := hown.stored k (.int .u64 (q : Int))
   rw [qj _ _ q _ rfl] at hst
   have Hst := hide hst
   have hkI : (k : Int) < xs.length := by omega
   have hbI : (0 : Int) < b := by omega
   clear hst hdm hSI hq hr'
   go_wp2
   go_roundw
   case rel =>
    refine ⟨k, r', ys.set k q, by omega, by rw [hrI], hrb, rfl, by simpa using hyl, (za Hst).1, hb.setCell (by simp) _, zX (za hyd) hq9, ?_⟩
    show _ = _
    rw [za Hstep q r' (za Hdm).symm, List.drop_eq_getElem_cons (l := ys.set k q) (by simp; omega), List.getElem_set_self, List.drop_set_of_lt (by omega)]
    simp only [ofd]
   case measure => simp [intOf]
  | zero =>
   rw [show (((0 : Nat) : Int) - 1) = -1 from rfl]
   have hfin := kU (x := x) (b := b) (q := ofd 1000000000 ys) (r := r) (by rw [← za Hxo]; have := za hval; simpa using this) hr
   have Hfin := hide hfin
   clear hfin
   go_wp2_with fail
   refine (qg ys w.heap.size _ _ (by omega) (za hyd) (by rw [hyl]; exact hown)).mono ?_
   rintro e w2 ⟨⟨v', rfl, hv'⟩, rfl⟩
   rw [← (za Hfin).1] at hv'
   go_wp2
   go_ret2
   refine ⟨⟨v', ?_, hv'⟩, hb⟩
   rw [(za Hfin).2]; rfl
theorem kP (x b : Nat) (v : Value) (w : World) (hx : isNat w v x) (hs : (gr x).length ≤ 1000000) (hb0 : 0 < b) (hb9 : b < 1000000000) :
  Calls Tryd.prog 100 #[v, .int .u64 b] w fun e w' => (∃ v', e = .returned (.tuple #[v', .int .u64 ((x % b : Nat) : Int)]) ∧ isNat w' v' (x / b)) ∧ Below w.heap.size w w' := by
 refine (kd x b v w hx hs hb0 hb9).mono ?_
 rintro e w' ⟨⟨v', h1, h2⟩, h3⟩
 exact ⟨⟨v', h1, h2.nat⟩, h3⟩
end Go.Proofs.YtcnnicbaeicboaaDoor
namespace Go.Proofs.YtcnnicbaeicboaaDoor.Nt
theorem jC (b : Nat) (l : List Nat) (k : Nat) : ofd b (l.take (k + 1)) = ofd b (l.take k) + b ^ k * l.getD k 0 := by
 by_cases h : k < l.length
 ·rw [List.take_succ_eq_append_getElem h, zG, List.length_take, Nat.min_eq_left (by omega), List.getD_eq_getElem?_getD, List.getElem?_eq_getElem h]; rfl
 ·rw [List.take_of_length_le (by omega), List.take_of_length_le (by omega), List.getD_eq_getElem?_getD, List.getElem?_eq_none (by omega)]; simp
theorem kk {L : List Nat} {k d : Nat} (h : k < L.length) : (L.set k d).take (k + 1) = L.take k ++ [d] := by
 rw [List.take_succ_eq_append_getElem (by simpa using h), List.take_set_of_le (Nat.le_refl k)]; simp
theorem kJ {b : Nat} {L xs ys : List Nat} {k c c' d : Nat} (h : ofd b (L.take k) + ofd b (ys.take k) = ofd b (xs.take k) + c * b ^ k) (hk : k < L.length) (he : d + (c + ys.getD k 0) = xs.getD k 0 + c' * b) :
  ofd b ((L.set k d).take (k + 1)) + ofd b (ys.take (k + 1)) = ofd b (xs.take (k + 1)) + c' * b ^ (k + 1) := by
 rw [kk hk, zG, jC, jC, List.length_take, Nat.min_eq_left (by omega), Nat.pow_succ]
 generalize ys.getD k 0 = yk at *
 generalize xs.getD k 0 = xk at *
 generalize b ^ k = p at *
 have e := congrArg (p * ·) he
 simp only [Nat.mul_add] at e
 rw [Nat.mul_comm c p] at h
 rw [show c' * (p * b) = p * (c' * b) from by rw [Nat.mul_left_comm]]
 omega
theorem x5 {b : Nat} {L xs ys : List Nat} {c : Nat} (hl : L.length = xs.length) (hly : ys.length ≤ xs.length) (hd : ∀ d ∈ L, d < b) (h : ofd b (L.take xs.length) + ofd b (ys.take xs.length) = ofd b (xs.take xs.length) + c * b ^ xs.length)
  (hle : ofd b ys ≤ ofd b xs) : ofd b L = ofd b xs - ofd b ys := by
 rw [List.take_of_length_le (by omega), List.take_of_length_le hly, List.take_of_length_le (by omega)] at h
 have hL := jt L hd
 rw [hl] at hL
 have : c = 0 := by
  rcases Nat.eq_zero_or_pos c with h0 | h0
  ·exact h0
  ·have := Nat.mul_le_mul_right (b ^ xs.length) h0
   omega
 subst this; omega
theorem yh {b : Nat} {L : List Nat} {ys : List Nat} {k a x : Nat} {V : Nat} (hk : k + 1 < L.length) (ha : L[k] + ys.getD k 0 = a) (hx : L[k + 1] = x) (h : ofd b L + b ^ k * ofd b (ys.drop k) = V) :
  ofd b (((L.set k a).set (k + 1) (x + a / b)).set k (a % b)) + b ^ (k + 1) * ofd b (ys.drop (k + 1)) = V := by
 have h1 := qH b L k a (by omega)
 have h2 := qH b (L.set k a) (k + 1) (x + a / b) (by simpa using hk)
 have h3 := qH b ((L.set k a).set (k + 1) (x + a / b)) k (a % b) (by simp; omega)
 have e2 : (L.set k a)[k + 1]'(by simpa using hk) = x := by rw [List.getElem_set_ne (by omega)]; exact hx
 have e3 : ((L.set k a).set (k + 1) (x + a / b))[k]'(by simp; omega) = a := by rw [List.getElem_set_ne (by omega)]; simp
 rw [e2] at h2
 rw [e3] at h3
 have hdrop : ofd b (ys.drop k) = ys.getD k 0 + b * ofd b (ys.drop (k + 1)) := by
  by_cases hh : k < ys.length
  ·rw [List.drop_eq_getElem_cons hh, List.getD_eq_getElem?_getD, List.getElem?_eq_getElem hh]; rfl
  ·rw [List.drop_of_length_le (by omega), List.drop_of_length_le (by omega), List.getD_eq_getElem?_getD, List.getElem?_eq_none (by omega)]; simp [ofd]
 rw [hdrop] at h
 have hdm := Nat.div_add_mod a b
 generalize ofd b (ys.drop (k + 1)) = Y at *
 generalize ys.getD k 0 = yk at *
 rw [← ha] at h1
 generalize L[k] = lk at *
 rw [Nat.pow_succ] at h2 ⊢
 generalize b ^ k = p at *
 have e4 : p * a = p * b * (a / b) + p * (a % b) := by rw [Nat.mul_assoc, ← Nat.mul_add, hdm]
 rw [Nat.mul_add] at h1 h2
 rw [Nat.mul_add, ← Nat.mul_assoc] at h
 rw [← ha] at h2 h3 e4 ⊢
 rw [Nat.mul_add] at e4
 rw [Nat.mul_add] at h3
 omega
theorem jS {b : Nat} {L : List Nat} {k a' v u : Nat} (hk : k + 1 < L.length) (h1 : ∀ d ∈ L.take k, d < b) (h2 : ∀ d ∈ L.drop (k + 1), d < b) (ha : a' < b) (hv : v ≤ b) :
  (∀ d ∈ (((L.set k u).set (k + 1) v).set k a').take (k + 1), d < b) ∧ (∀ d ∈ (((L.set k u).set (k + 1) v).set k a').drop (k + 1 + 1), d < b) ∧ (((L.set k u).set (k + 1) v).set k a').getD (k + 1) 0 ≤ b := by
 refine ⟨?_, ?_, ?_⟩
 ·rw [kk (by simp; omega)]
  intro d hd
  rcases List.mem_append.1 hd with h | h
  ·rw [List.take_set_of_le (by omega), List.take_set_of_le (Nat.le_refl k)] at h
   exact h1 d h
  ·simp at h; omega
 ·intro d hd
  rw [List.drop_set_of_lt (by omega), List.drop_set_of_lt (by omega), List.drop_set_of_lt (by omega)] at hd
  apply h2 d
  rw [show k + 1 + 1 = (k + 1) + 1 from rfl, ← List.drop_drop] at hd
  exact List.mem_of_mem_drop hd
 ·rw [List.getD_eq_getElem?_getD, List.getElem?_set_ne (by omega), List.getElem?_set_self (by simpa using hk)]
  simpa using hv
theorem xo {b : Nat} {L : List Nat} {k : Nat} (hk : k + 1 < L.length) (h2 : ∀ d ∈ L.drop (k + 1), d < b) : L[k + 1] < b := by
 apply h2
 rw [show List.drop (k + 1) L = L[k + 1] :: List.drop (k + 1 + 1) L from List.drop_eq_getElem_cons hk]; exact List.mem_cons_self
theorem yu {b : Nat} {L : List Nat} {n V : Nat} (hl : L.length = n + 1) (h : ofd b L = V) (hV : V < 2 * b ^ n) (hb : 2 ≤ b) : L[n] < b := by
 have h1 := kO b L n (by omega)
 rcases Nat.lt_or_ge L[n] b with h2 | h2
 ·exact h2
 ·have h3 : b ^ n * b ≤ b ^ n * L[n] := Nat.mul_le_mul_left _ h2
  have h4 : b ^ n * 2 ≤ b ^ n * b := Nat.mul_le_mul_left _ hb
  omega
theorem xc {b : Nat} {L ys : List Nat} {i j c t xi yj P : Nat} (hk : i + j < L.length) (hy : ys.getD j 0 = yj) (ht : L[i + j] + xi * yj + c = t) (h : ofd b L + c * b ^ (i + j) = P + b ^ i * (xi * ofd b (ys.take j))) :
  ofd b (L.set (i + j) (t % b)) + (t / b) * b ^ (i + (j + 1)) = P + b ^ i * (xi * ofd b (ys.take (j + 1))) := by
 have h1 := qH b L (i + j) (t % b) hk
 rw [jC, hy, ← Nat.add_assoc, Nat.pow_succ]
 have hdm := Nat.div_add_mod t b
 generalize ofd b (L.set (i + j) (t % b)) = A at *
 generalize L[i + j] = lk at *
 have e1 : b ^ i * (xi * (ofd b (ys.take j) + b ^ j * yj)) = b ^ i * (xi * ofd b (ys.take j)) + b ^ (i + j) * (xi * yj) := by
  rw [Nat.mul_add, Nat.mul_add, Nat.pow_add]; congr 1
  rw [Nat.mul_left_comm xi, Nat.mul_assoc]
 rw [e1]
 generalize b ^ i * (xi * ofd b (ys.take j)) = Q at *
 generalize b ^ (i + j) = p at *
 have e2 : p * t = p * lk + p * (xi * yj) + p * c := by rw [← ht, Nat.mul_add, Nat.mul_add]
 have e3 : p * t = t / b * (p * b) + p * (t % b) := by
  have := congrArg (p * ·) hdm
  simp only [Nat.mul_add] at this
  rw [← this]; congr 1
  rw [Nat.mul_comm b (t / b), Nat.mul_left_comm]
 rw [Nat.mul_comm c p] at h
 omega
theorem Zq {b : Nat} {L xs ys : List Nat} {i m c : Nat} (hk : i + m < L.length) (hm : ys.length = m) (h0 : L[i + m] = 0) (h : ofd b L + c * b ^ (i + m) = ofd b (xs.take i) * ofd b ys + b ^ i * (xs.getD i 0 * ofd b (ys.take m))) :
  ofd b (L.set (i + m) c) = ofd b (xs.take (i + 1)) * ofd b ys := by
 have h1 := qH b L (i + m) c hk
 rw [h0, Nat.mul_zero, Nat.add_zero] at h1
 rw [List.take_of_length_le (l := ys) (by omega)] at h
 rw [jC, Nat.add_mul, h1, Nat.mul_assoc, ← h, Nat.mul_comm c]
end Go.Proofs.YtcnnicbaeicboaaDoor.Nt
namespace Go.Proofs.YtcnnicbaeicboaaDoor
open Go.RowKit Nt
theorem qP {l : List Nat} {k : Nat} (h : k < l.length) : l.getD k 0 = l[k] := by rw [List.getD_eq_getElem?_getD, List.getElem?_eq_getElem h]; rfl
theorem jX {l : List Nat} {k : Nat} (h : l.length ≤ k) : l.getD k 0 = 0 := by rw [List.getD_eq_getElem?_getD, List.getElem?_eq_none h]; rfl
theorem qX {w : World} {base e : Nat} {p : Option Addr} {cap : Nat} {xs : List Nat} (h : w.ownsRow base e 1 (.slice p xs.length cap) xs.length (u64s xs)) (k : Nat) (hk : k < xs.length) : ∃ g, p = some ⟨g, 0, none⟩ ∧ w.cell? ⟨g, k, none⟩ = some (.int .u64 ((xs[k] : Nat) : Int)) := by
 obtain ⟨g, cap', hv, _⟩ := zU h (by omega)
 simp only [Value.slice.injEq, true_and] at hv
 obtain ⟨rfl, rfl⟩ := hv
 have hc := h.cellAt k (by omega)
 rw [zh _ _ hk] at hc
 exact ⟨g, rfl, hc⟩
theorem zT {wr : World} {base e g N cap : Nat} {L : List Nat} (hown : wr.ownsRow base e 1 (.slice (some ⟨g, 0, none⟩) N cap) N (u64s L)) (k d : Nat) (v : Int) (hv : v = (d : Int)) :
  (wr.setCell ⟨g, k, none⟩ (.int .u64 v)).ownsRow base e 1 (.slice (some ⟨g, 0, none⟩) N cap) N (u64s (L.set k d)) := by
 have h := hown.stored k (.int .u64 v)
 rw [qj _ _ d _ hv] at h
 exact h.1
theorem xB (x y : Nat) (v u : Value) (w : World) (hx : isNat w v x) (hy : isNat w u y) (hyx : y ≤ x) (hs : (gr x).length ≤ 1000000) :
  Calls Tryd.prog 205 #[v, u] w fun e w' => (∃ v', e = .returned v' ∧ isNatB w' w.heap.size v' (x - y)) ∧ Below w.heap.size w w' := by
 obtain ⟨i0, hi, hz0, hz1, hz2⟩ := info_parts Tryd.infoU64
 have hxd := gr_lt x
 have hyd := gr_lt y
 have hxo := z9 x
 have hyo := z9 y
 have hlen := qs hyx
 have hend := fun L c => @x5 1000000000 L (gr x) (gr y) c
 rw [hxo, hyo] at hend
 unfold isNat at hx hy
 generalize gr x = xs at *
 generalize gr y = ys at *
 obtain ⟨p, cap, rfl⟩ := zd hx
 obtain ⟨q, cap2, rfl⟩ := zd hy
 have Hxd := hide hxd
 have Hyd := hide hyd
 have Hx := hide hx
 have Hy := hide hy
 have Hend := hide hend
 clear hxd hyd hxo hyo hx hy hend
 go_enter Tryd.func205, Tryd.ntmps205
 go_wp2_with (refine wpList_make_full _ rfl (.tmp 10) (.tmp 10) 65 rfl w.heap.size 80 i0 (.int .u64 0) 1 Tryd.underlying65 hi hz0 hz1 .i64 .i64 xs.length xs.length xs.length rfl rfl rfl rfl (by rw [hz2]; omega) (by unfold maxLen; omega) (Nat.le_refl _) ?_; intro w1 hown1 hg1)
 go_loopw [6, 14] (fun ow i wr => ∃ (k c : Nat) (L : List Nat), k ≤ xs.length ∧ i = .int .i64 (k : Int) ∧ ow = .int .u64 (c : Int) ∧ c ≤ 1 ∧ L.length = xs.length ∧
   wr.ownsRow w.heap.size 80 1 (.slice (some ⟨w.heap.size, 0, none⟩) xs.length xs.length) xs.length (u64s L) ∧ Below w.heap.size w wr ∧
   Hid (∀ d ∈ L, d < 1000000000) ∧ Hid (ofd 1000000000 (L.take k) + ofd 1000000000 (ys.take k) = ofd 1000000000 (xs.take k) + c * 1000000000 ^ k))
  (fun _ i _ => (xs.length - intOf i).toNat)
 case atStart =>
  refine ⟨0, 0, List.replicate xs.length 0, Nat.zero_le _, rfl, rfl, by omega, by simp, ?_, (Below.refl _ _).grown hg1 (Nat.le_refl _) (fun _ h => by cases h), ?_, ?_⟩
  ·simpa [Value.cells, toList_madeCells_one, qh] using hown1
  ·intro d hd; simp at hd; omega
  ·show _ = _; simp [ofd]
 case round =>
  clear hown1 hg1
  obtain ⟨k, c, L, hk, rfl, rfl, hc, hLl, hown, hb, hLd, hval⟩ := hrel
  by_cases hlt : k < xs.length
  ·obtain ⟨g, rfl, hcx⟩ := qX (zl (za Hx) hb) k hlt
   have hxk : xs[k]'hlt < 1000000000 := za Hxd _ (List.getElem_mem _)
   obtain ⟨v0, hv0⟩ := zZ hown k (by omega)
   have hfr := hown.frozenAt k
   have hstep := fun d c' => @kJ 1000000000 L xs ys k c c' d (za hval) (by omega)
   rw [qP hlt] at hstep
   generalize xs[k]'hlt = xk at *
   have hkI : (k : Int) < xs.length := by omega
   by_cases hky : k < ys.length
   ·obtain ⟨g2, rfl, hcy⟩ := qX (zl (za Hy) hb) k hky
    have hyk : ys[k]'hky < 1000000000 := za Hyd _ (List.getElem_mem _)
    rw [qP hky] at hstep
    generalize ys[k]'hky = yk at *
    have Hstep := hide hstep
    clear hstep
    have hkyI : (k : Int) < ys.length := by omega
    by_cases hge : xk < c + yk
    ·skip
     go_wp2
     go_roundw
     case rel => exact ⟨k + 1, 1, L.set k (xk + 1000000000 - (c + yk)), by omega, by go_num, rfl, by omega, by simpa using hLl, zT hown k (xk + 1000000000 - (c + yk)) _ (by omega), hb.setCell (by simp) _, zX (za hLd) (by omega), za Hstep (xk + 1000000000 - (c + yk)) 1 (by omega)⟩
     case measure => simp [intOf]; omega
    ·skip
     go_wp2
     go_roundw
     case rel => exact ⟨k + 1, 0, L.set k (xk - (c + yk)), by omega, by go_num, rfl, by omega, by simpa using hLl, zT hown k (xk - (c + yk)) _ (by omega), hb.setCell (by simp) _, zX (za hLd) (by omega), za Hstep (xk - (c + yk)) 0 (by omega)⟩
     case measure => simp [intOf]; omega
   ·rw [jX (by omega)] at hstep
    have Hstep := hide hstep
    clear hstep
    have hkyI : ¬ (k : Int) < ys.length := by omega
    by_cases hge : xk < c
    ·skip
     go_wp2
     go_roundw
     case rel => exact ⟨k + 1, 1, L.set k (xk + 1000000000 - c), by omega, by go_num, rfl, by omega, by simpa using hLl, zT hown k (xk + 1000000000 - c) _ (by omega), hb.setCell (by simp) _, zX (za hLd) (by omega), za Hstep (xk + 1000000000 - c) 1 (by omega)⟩
     case measure => simp [intOf]; omega
    ·skip
     go_wp2
     go_roundw
     case rel => exact ⟨k + 1, 0, L.set k (xk - c), by omega, by go_num, rfl, by omega, by simpa using hLl, zT hown k (xk - c) _ (by omega), hb.setCell (by simp) _, zX (za hLd) (by omega), za Hstep (xk - c) 0 (by omega)⟩
     case measure => simp [intOf]; omega
  ·have hkn : k = xs.length := by omega
   subst hkn
   have hfin := za Hend L c hLl hlen (za hLd) (za hval) hyx
   have Hfin := hide hfin
   clear hfin
   go_wp2_with fail
   refine (qg L w.heap.size _ _ (by omega) (za hLd) (by rw [hLl]; exact hown)).mono ?_
   rintro e w2 ⟨⟨v', rfl, hv'⟩, rfl⟩
   rw [za Hfin] at hv'
   go_wp2
   go_ret
   exact ⟨⟨v', rfl, hv'⟩, hb⟩
theorem kg (b : Nat) (l : List Nat) (k : Nat) : ofd b (l ++ List.replicate k 0) = ofd b l := by rw [qF, zL]; omega
theorem xy (x y : Nat) (h : (gr y).length ≤ (gr x).length) : x + y < 2 * 1000000000 ^ (gr x).length := by
 have h1 := qE (b := 1000000000) (by omega) x
 have h2 := qE (b := 1000000000) (by omega) y
 have h3 : 1000000000 ^ (gr y).length ≤ 1000000000 ^ (gr x).length := Nat.pow_le_pow_right (by omega) h
 unfold gr at *
 omega
theorem yX {P : Program} {w w0 : World} {dT ty elem t : TypeId} {g B dLen dCap sLen sCap : Nat} {sp : Option Addr} {cur cs : List Value} (hu : P.underlying dT = some (.slice elem)) (hsz : (P.info? elem).map (·.size) = some 1)
  (hg : w.heap[g]? = some (.cells cur.toArray t (0, 0))) (hn : cs.length = Nat.min sLen dLen) (hpos : 0 < cs.length → ∃ ad, sp = some ad ∧ ∀ j v, cs[j]? = some v → w.cell? (ad.add j) = some v)
  (hfit : cs.length ≤ cur.length) (h1 : ∀ v ∈ cs, v.oneCell' = true) (hb : Below B w0 w) (hBg : B ≤ g) :
  ∃ w', (Builtin.copy_ #[dT, dT] ty #[.slice (some ⟨g, 0, none⟩) dLen dCap, .slice sp sLen sCap]).run P w = .ok (.int .i64 (cs.length : Int)) w' ∧ w'.heap[g]? = some (.cells (splice cur 0 cs).toArray t (0, 0)) ∧ Below B w0 w' := by
 by_cases h0 : cs.length = 0
 ·obtain rfl : cs = [] := List.eq_nil_of_length_eq_zero h0
  exact ⟨w, run_copy_none w dT dT ty elem _ _ _ _ _ _ hu hsz (by simpa using hn.symm), by simpa [splice] using hg, hb⟩
 ·obtain ⟨ad, rfl, hsrc⟩ := hpos (by omega)
  refine ⟨_, run_copy_row (P := P) w dT dT ty elem g 0 dLen dCap ad sLen sCap cur.toArray t cs hu hsz hg hn hsrc (by simpa using hfit) h1, ?_, below_setRow hb hBg _⟩
  have hh := setRow_heap w g cur.toArray (cur.toArray.toList.take 0 ++ cs ++ cur.toArray.toList.drop (0 + cs.length)).toArray t (0, 0) hg
  simpa [splice] using hh
theorem Ze (x y : Nat) (v u : Value) (w : World) (hx : isNat w v x) (hy : isNat w u y) (hl : (gr y).length ≤ (gr x).length) (hs : (gr x).length ≤ 1000000) :
  Calls Tryd.prog 200 #[v, u] w fun e w' => (∃ v', e = .returned v' ∧ isNatB w' w.heap.size v' (x + y)) ∧ Below w.heap.size w w' := by
 obtain ⟨i0, hi, hz0, hz1, hz2⟩ := info_parts Tryd.infoU64
 have hxd := gr_lt x
 have hyd := gr_lt y
 have hxo := z9 x
 have hyo := z9 y
 have hV := xy x y hl
 unfold isNat at hx hy
 generalize gr x = xs at *
 generalize gr y = ys at *
 obtain ⟨p, cap, rfl⟩ := zd hx
 obtain ⟨q, cap2, rfl⟩ := zd hy
 have h2cells := fun g cap' (h : Value.slice p xs.length cap = .slice (some ⟨g, 0, none⟩) xs.length cap') (w1 : World) (hb : Below w.heap.size w w1) => (h ▸ zl hx hb : w1.ownsRow 0 80 1 (.slice (some ⟨g, 0, none⟩) xs.length cap') xs.length (u64s xs)).cells (g := g) rfl
 have Hxd := hide hxd
 have Hyd := hide hyd
 have Hx := hide hx
 have Hy := hide hy
 have HV := hide hV
 have Hxo := hide hxo
 have Hyo := hide hyo
 have hnl : ¬ (xs.length : Int) < ys.length := by omega
 clear hxd hyd hxo hyo hx hy hV
 go_enter Tryd.func200, Tryd.ntmps200
 go_wp2_with (refine wpList_make_full _ rfl (.tmp 16) (.tmp 16) 65 rfl w.heap.size 80 i0 (.int .u64 0) 1 Tryd.underlying65 hi hz0 hz1 .i64 .i64 (xs.length + 1) (xs.length + 1) (xs.length + 1) rfl rfl (by go_num) (by go_num) (by rw [hz2]; omega) (by unfold maxLen; omega) (Nat.le_refl _) ?_; intro w1 hown1 hg1)
 have hb1 : Below w.heap.size w w1 := (Below.refl _ _).grown hg1 (Nat.le_refl _) (fun _ h => by cases h)
 have hown1' : w1.ownsRow w.heap.size 80 1 (.slice (some ⟨w.heap.size, 0, none⟩) (xs.length + 1) (xs.length + 1)) (xs.length + 1) (u64s (List.replicate (xs.length + 1) 0)) := by
  simpa [Value.cells, toList_madeCells_one, qh] using hown1
 have hblk := qV hown1'
 have Hblk := hide hblk
 have hpos : 0 < (u64s xs).length → ∃ ad, p = some ad ∧ ∀ j v, (u64s xs)[j]? = some v → w1.cell? (ad.add j) = some v := by
  intro h
  obtain ⟨g, cap', hh, _⟩ := zU (za Hx) (by rwa [zD] at h)
  have h2 := (h2cells g cap' hh w1 hb1)
  simp only [Value.slice.injEq, true_and] at hh
  exact ⟨_, hh.1, h2⟩
 have Hpos := hide hpos
 clear hown1 hg1 hown1' hblk hpos
 obtain ⟨w2, hcopy, hg2, hb2⟩ := yX (P := Tryd.prog) (dT := 65) (ty := 3) (elem := 80) (sp := p) (sLen := xs.length) (sCap := cap) (dLen := xs.length + 1) (dCap := xs.length + 1) (cs := u64s xs) Tryd.underlying65 (by simp [hi, hz1]) (za Hblk) (by rw [zD]; exact (Nat.min_eq_left (by omega)).symm) (za Hpos) (by simp [u64s]) (vL _) hb1 (Nat.le_refl _)
 have hrow : splice (u64s (List.replicate (xs.length + 1) 0)) 0 (u64s xs) = u64s (xs ++ [0]) := by
  unfold splice
  rw [List.take_zero, List.nil_append, Nat.zero_add, zD, ← j4, List.drop_replicate, jz, show xs.length + 1 - xs.length = 1 from by omega]
  rfl
 rw [hrow] at hg2
 rw [zD] at hcopy
 have hownL := qA (base := w.heap.size) (n := xs.length + 1) hg2 (by rw [zD]; simp) (by unfold maxLen; omega) (Nat.le_refl _)
 have HownL := hide hownL
 have Hb2 := hide hb2
 clear hrow hg2 hownL hb2 hb1 Hblk Hpos h2cells
 rw [hcopy]; simp only [Result.andThen]; rw [Oper.upon_value]
 clear hcopy
 go_wp2
 go_loopw [23] (fun i wr => ∃ (k : Nat) (L : List Nat), k ≤ xs.length ∧ i = .int .i64 (k : Int) ∧ L.length = xs.length + 1 ∧
   wr.ownsRow w.heap.size 80 1 (.slice (some ⟨w.heap.size, 0, none⟩) (xs.length + 1) (xs.length + 1)) (xs.length + 1) (u64s L) ∧ Below w.heap.size w wr ∧
   Hid (∀ d ∈ L.take k, d < 1000000000) ∧ Hid (∀ d ∈ L.drop (k + 1), d < 1000000000) ∧ L.getD k 0 ≤ 1000000000 ∧ Hid (ofd 1000000000 L + 1000000000 ^ k * ofd 1000000000 (ys.drop k) = x + y))
  (fun i _ => (xs.length - intOf i).toNat)
 case atStart =>
  refine ⟨0, xs ++ [0], Nat.zero_le _, rfl, by simp, za HownL, za Hb2, by show ∀ d ∈ _, _; simp, ?_, ?_, ?_⟩
  ·intro d hd
   have := List.mem_of_mem_drop hd
   rcases List.mem_append.1 this with h | h
   ·exact za Hxd d h
   ·simp at h; omega
  ·cases xs with
   | nil => simp
   | cons a r => have := za Hxd a (by simp); simp; omega
  ·show _ = _
   rw [show [0] = List.replicate 1 0 from rfl, kg, List.drop_zero, za Hxo, za Hyo, Nat.pow_zero, Nat.one_mul]
 case round =>
  clear HownL Hb2
  obtain ⟨k, L, hk, rfl, hLl, hown, hb, hLt, hLd, hLk, hval⟩ := hrel
  by_cases hlt : k < xs.length
  ·have hk1 : k + 1 < L.length := by omega
   have hx1 := xo hk1 (za hLd)
   have hc0 := hown.cellAt k (by omega)
   rw [zh _ _ (by omega)] at hc0
   have hc1 := hown.cellAt (k + 1) (by omega)
   rw [zh _ _ hk1] at hc1
   have hf0 := hown.frozenAt k
   have hf1 := hown.frozenAt (k + 1)
   rw [qP (by omega)] at hLk
   have hstep := fun a => @yh 1000000000 L ys k a L[k + 1] (x + y) hk1
   obtain ⟨a0, ha0⟩ : ∃ a0, L[k]'(by omega) = a0 := ⟨_, rfl⟩
   obtain ⟨x1, hx1e⟩ : ∃ x1, L[k + 1]'hk1 = x1 := ⟨_, rfl⟩
   rw [ha0] at hc0 hLk hstep
   rw [hx1e] at hc1 hx1 hstep
   have Hstep := hide hstep
   have Ha0 := hide ha0
   have hx1e' := hx1e
   have hkI : (k : Int) < xs.length := by omega
   clear hstep ha0 hx1e
   have Hx1e := hide hx1e'
   clear hx1e'
   by_cases hky : k < ys.length
   ·obtain ⟨g2, rfl, hcy⟩ := qX (zl (za Hy) hb) k hky
    have hyk : ys[k]'hky < 1000000000 := za Hyd _ (List.getElem_mem _)
    obtain ⟨yk, hye⟩ : ∃ yk, ys[k]'hky = yk := ⟨_, rfl⟩
    rw [hye] at hcy hyk
    have Hye := hide hye
    clear hye
    have hkyI : (k : Int) < ys.length := by omega
    obtain ⟨a, ha⟩ : ∃ a : Nat, a0 + yk = a := ⟨_, rfl⟩
    have hIa : (a0 : Int) + yk = a := by omega
    have ha2 : a ≤ 1999999999 := by omega
    have e1 := wu64 (a : Int) (by omega) (by omega)
    have Haa : Hid (a0 + ys.getD k 0 = a) := by show _ = _; rw [qP hky, za Hye]; exact ha
    have hown1 := zT hown k a (a : Int) rfl
    have Hown1 := hide (show ((wr.setCell ⟨w.heap.size, k, none⟩ (.int .u64 (a : Int))).drew).ownsRow w.heap.size 80 1 (.slice (some ⟨w.heap.size, 0, none⟩) (xs.length + 1) (xs.length + 1)) (xs.length + 1) (u64s (L.set k a)) from hown1)
    have Hb1 := hide ((hb.setCell (p := ⟨w.heap.size, k, none⟩) (Nat.le_refl _) (.int .u64 (a : Int))).drew)
    clear ha hown1 hown hb
    go_wp2
    go_region
    clear hc0 hc1 hf0 hf1 hcy hIa e1
    generalize (wr.setCell ⟨w.heap.size, k, none⟩ (.int .u64 (a : Int))).drew = W1 at *
    have hL1 : (L.set k a).length = xs.length + 1 := by simpa using hLl
    have hc0 := (za Hown1).cellAt k (by omega)
    rw [zh _ _ (by omega), List.getElem_set_self] at hc0
    have hc1 := (za Hown1).cellAt (k + 1) (by omega)
    rw [zh _ _ (by simpa using hk1), List.getElem_set_ne (by omega), za Hx1e] at hc1
    have hf0 := (za Hown1).frozenAt k
    have hf1 := (za Hown1).frozenAt (k + 1)
    obtain ⟨q9, hq9⟩ : ∃ q9, a / 1000000000 = q9 := ⟨_, rfl⟩
    have hq9' : q9 ≤ 1 := by omega
    have e2 : (a : Int).tdiv 1000000000 = q9 := by rw [Int.tdiv_eq_ediv_of_nonneg (by omega)]; omega
    have e3 := wu64 (q9 : Int) (by omega) (by omega)
    have e4 := wu64 ((x1 : Int) + q9) (by omega) (by omega)
    have hstep := za Hstep a (za Haa) (by first | trivial | rfl) (za hval)
    rw [hq9] at hstep
    have hinv := @jS 1000000000 L k (a % 1000000000) (x1 + q9) a hk1 (za hLt) (za hLd) (Nat.mod_lt _ (by omega)) (by omega)
    have hown2 := zT (za Hown1) (k + 1) (x1 + q9) ((x1 : Int) + q9) (by omega)
    have Hinv := hide hinv
    have Hstep2 := hide hstep
    have Hown2 := hide hown2
    clear hstep hinv hown2
    go_wp2
    go_region
    clear hc0 hc1 hf0 hf1 e2 e3 e4
    have hb2 := ((za Hb1).setCell (p := ⟨w.heap.size, k + 1, none⟩) (Nat.le_refl _) (.int .u64 ((x1 : Int) + q9))).drew
    have hown2 : (World.drew (World.setCell _ ⟨w.heap.size, k + 1, none⟩ (.int .u64 ((x1 : Int) + q9)))).ownsRow w.heap.size 80 1 (.slice (some ⟨w.heap.size, 0, none⟩) (xs.length + 1) (xs.length + 1)) (xs.length + 1) (u64s ((L.set k a).set (k + 1) (x1 + q9))) := za Hown2
    have hc0 := hown2.cellAt k (by omega)
    rw [zh _ _ (by simp; omega), List.getElem_set_ne (by omega), List.getElem_set_self] at hc0
    have hf0 := hown2.frozenAt k
    have hown3 := zT hown2 k (a % 1000000000) ((a : Int) % 1000000000) (by omega)
    have Hown3 := hide hown3
    have Hb2 := hide hb2
    clear hown2 hown3 hb2
    go_wp2
    go_roundw
    case rel => exact ⟨k + 1, _, by omega, by go_num, by simpa using hLl, za Hown3, (za Hb2).setCell (Nat.le_refl _) _, (za Hinv).1, (za Hinv).2.1, (za Hinv).2.2, Hstep2⟩
    case measure => simp [intOf]; omega
   ·obtain ⟨a, ha⟩ : ∃ a : Nat, a0 = a := ⟨_, rfl⟩
    have ha2 : a ≤ 1999999999 := by omega
    have Haa : Hid (a0 + ys.getD k 0 = a) := by show _ = _; rw [jX (by omega)]; exact ha
    have hLs : L.set k a = L := by rw [← ha, ← za Ha0]; exact List.set_getElem_self (by omega)
    have Hown1 := hide (show wr.ownsRow w.heap.size 80 1 (.slice (some ⟨w.heap.size, 0, none⟩) (xs.length + 1) (xs.length + 1)) (xs.length + 1) (u64s (L.set k a)) from by rw [hLs]; exact hown)
    have Hb1 := hide hb
    have hkyI : ¬ (k : Int) < ys.length := by omega
    clear ha hown hb hLs hc0 hc1 hf0 hf1
    obtain ⟨W1, hW1⟩ : ∃ W1, wr = W1 := ⟨_, rfl⟩
    subst hW1
    have hL1 : (L.set k a).length = xs.length + 1 := by simpa using hLl
    have hc0 := (za Hown1).cellAt k (by omega)
    rw [zh _ _ (by omega), List.getElem_set_self] at hc0
    have hc1 := (za Hown1).cellAt (k + 1) (by omega)
    rw [zh _ _ (by simpa using hk1), List.getElem_set_ne (by omega), za Hx1e] at hc1
    have hf0 := (za Hown1).frozenAt k
    have hf1 := (za Hown1).frozenAt (k + 1)
    obtain ⟨q9, hq9⟩ : ∃ q9, a / 1000000000 = q9 := ⟨_, rfl⟩
    have hq9' : q9 ≤ 1 := by omega
    have e2 : (a : Int).tdiv 1000000000 = q9 := by rw [Int.tdiv_eq_ediv_of_nonneg (by omega)]; omega
    have e3 := wu64 (q9 : Int) (by omega) (by omega)
    have e4 := wu64 ((x1 : Int) + q9) (by omega) (by omega)
    have hstep := za Hstep a (za Haa) (by first | trivial | rfl) (za hval)
    rw [hq9] at hstep
    have hinv := @jS 1000000000 L k (a % 1000000000) (x1 + q9) a hk1 (za hLt) (za hLd) (Nat.mod_lt _ (by omega)) (by omega)
    have hown2 := zT (za Hown1) (k + 1) (x1 + q9) ((x1 : Int) + q9) (by omega)
    have Hinv := hide hinv
    have Hstep2 := hide hstep
    have Hown2 := hide hown2
    clear hstep hinv hown2
    go_wp2
    go_region
    clear hc0 hc1 hf0 hf1 e2 e3 e4
    have hb2 := ((za Hb1).setCell (p := ⟨w.heap.size, k + 1, none⟩) (Nat.le_refl _) (.int .u64 ((x1 : Int) + q9))).drew
    have hown2 : (World.drew (World.setCell _ ⟨w.heap.size, k + 1, none⟩ (.int .u64 ((x1 : Int) + q9)))).ownsRow w.heap.size 80 1 (.slice (some ⟨w.heap.size, 0, none⟩) (xs.length + 1) (xs.length + 1)) (xs.length + 1) (u64s ((L.set k a).set (k + 1) (x1 + q9))) := za Hown2
    have hc0 := hown2.cellAt k (by omega)
    rw [zh _ _ (by simp; omega), List.getElem_set_ne (by omega), List.getElem_set_self] at hc0
    have hf0 := hown2.frozenAt k
    have hown3 := zT hown2 k (a % 1000000000) ((a : Int) % 1000000000) (by omega)
    have Hown3 := hide hown3
    have Hb2 := hide hb2
    clear hown2 hown3 hb2
    go_wp2
    go_roundw
    case rel => exact ⟨k + 1, _, by omega, by go_num, by simpa using hLl, za Hown3, (za Hb2).setCell (Nat.le_refl _) _, (za Hinv).1, (za Hinv).2.1, (za Hinv).2.2, Hstep2⟩
    case measure => simp [intOf]; omega
  ·have hkn : k = xs.length := by omega
   subst hkn
   have hval' := za hval
   rw [List.drop_of_length_le (by omega)] at hval'
   have hval2 : ofd 1000000000 L = x + y := by simpa [ofd] using hval'
   have htop := yu hLl hval2 (za HV) (by omega)
   have hall : ∀ d ∈ L, d < 1000000000 := by
    intro d hd
    obtain ⟨j, hj, rfl⟩ := List.getElem_of_mem hd
    by_cases hjn : j = xs.length
    ·subst hjn; exact htop
    ·exact za hLt _ (by rw [List.mem_take_iff_getElem]; exact ⟨j, by omega, rfl⟩)
   have Hall := hide hall
   have Hv2 := hide hval2
   clear hval' hval2 htop hall
   go_wp2_with fail
   refine (qg L w.heap.size _ _ (by omega) (za Hall) (by rw [hLl]; exact hown)).mono ?_
   rintro e w2 ⟨⟨v', rfl, hv'⟩, rfl⟩
   rw [za Hv2] at hv'
   go_wp2
   go_ret
   exact ⟨⟨v', rfl, hv'⟩, hb⟩
theorem kX (x y : Nat) (v u : Value) (w : World) (hx : isNat w v x) (hy : isNat w u y) (hl : (gr y).length < (gr x).length) (hs : (gr x).length ≤ 1000000) :
  Calls Tryd.prog 200 #[u, v] w fun e w' => (∃ v', e = .returned v' ∧ isNatB w' w.heap.size v' (x + y)) ∧ Below w.heap.size w w' := by
 obtain ⟨i0, hi, hz0, hz1, hz2⟩ := info_parts Tryd.infoU64
 have hxd := gr_lt x
 have hyd := gr_lt y
 have hxo := z9 x
 have hyo := z9 y
 have hV := xy x y (by omega)
 unfold isNat at hx hy
 generalize gr x = xs at *
 generalize gr y = ys at *
 obtain ⟨p, cap, rfl⟩ := zd hx
 obtain ⟨q, cap2, rfl⟩ := zd hy
 have h2cells := fun g cap' (h : Value.slice p xs.length cap = .slice (some ⟨g, 0, none⟩) xs.length cap') (w1 : World) (hb : Below w.heap.size w w1) => (h ▸ zl hx hb : w1.ownsRow 0 80 1 (.slice (some ⟨g, 0, none⟩) xs.length cap') xs.length (u64s xs)).cells (g := g) rfl
 have Hxd := hide hxd
 have Hyd := hide hyd
 have Hx := hide hx
 have Hy := hide hy
 have HV := hide hV
 have Hxo := hide hxo
 have Hyo := hide hyo
 have hnl : (ys.length : Int) < xs.length := by omega
 clear hxd hyd hxo hyo hx hy hV
 go_enter Tryd.func200, Tryd.ntmps200
 go_wp2_with (refine wpList_make_full _ rfl (.tmp 16) (.tmp 16) 65 rfl w.heap.size 80 i0 (.int .u64 0) 1 Tryd.underlying65 hi hz0 hz1 .i64 .i64 (xs.length + 1) (xs.length + 1) (xs.length + 1) rfl rfl (by go_num) (by go_num) (by rw [hz2]; omega) (by unfold maxLen; omega) (Nat.le_refl _) ?_; intro w1 hown1 hg1)
 have hb1 : Below w.heap.size w w1 := (Below.refl _ _).grown hg1 (Nat.le_refl _) (fun _ h => by cases h)
 have hown1' : w1.ownsRow w.heap.size 80 1 (.slice (some ⟨w.heap.size, 0, none⟩) (xs.length + 1) (xs.length + 1)) (xs.length + 1) (u64s (List.replicate (xs.length + 1) 0)) := by
  simpa [Value.cells, toList_madeCells_one, qh] using hown1
 have hblk := qV hown1'
 have Hblk := hide hblk
 have hpos : 0 < (u64s xs).length → ∃ ad, p = some ad ∧ ∀ j v, (u64s xs)[j]? = some v → w1.cell? (ad.add j) = some v := by
  intro h
  obtain ⟨g, cap', hh, _⟩ := zU (za Hx) (by rwa [zD] at h)
  have h2 := (h2cells g cap' hh w1 hb1)
  simp only [Value.slice.injEq, true_and] at hh
  exact ⟨_, hh.1, h2⟩
 have Hpos := hide hpos
 clear hown1 hg1 hown1' hblk hpos
 obtain ⟨w2, hcopy, hg2, hb2⟩ := yX (P := Tryd.prog) (dT := 65) (ty := 3) (elem := 80) (sp := p) (sLen := xs.length) (sCap := cap) (dLen := xs.length + 1) (dCap := xs.length + 1) (cs := u64s xs) Tryd.underlying65 (by simp [hi, hz1]) (za Hblk) (by rw [zD]; exact (Nat.min_eq_left (by omega)).symm) (za Hpos) (by simp [u64s]) (vL _) hb1 (Nat.le_refl _)
 have hrow : splice (u64s (List.replicate (xs.length + 1) 0)) 0 (u64s xs) = u64s (xs ++ [0]) := by
  unfold splice
  rw [List.take_zero, List.nil_append, Nat.zero_add, zD, ← j4, List.drop_replicate, jz, show xs.length + 1 - xs.length = 1 from by omega]
  rfl
 rw [hrow] at hg2
 rw [zD] at hcopy
 have hownL := qA (base := w.heap.size) (n := xs.length + 1) hg2 (by rw [zD]; simp) (by unfold maxLen; omega) (Nat.le_refl _)
 have HownL := hide hownL
 have Hb2 := hide hb2
 clear hrow hg2 hownL hb2 hb1 Hblk Hpos h2cells
 rw [hcopy]; simp only [Result.andThen]; rw [Oper.upon_value]
 clear hcopy
 go_wp2
 go_loopw [23] (fun i wr => ∃ (k : Nat) (L : List Nat), k ≤ xs.length ∧ i = .int .i64 (k : Int) ∧ L.length = xs.length + 1 ∧
   wr.ownsRow w.heap.size 80 1 (.slice (some ⟨w.heap.size, 0, none⟩) (xs.length + 1) (xs.length + 1)) (xs.length + 1) (u64s L) ∧ Below w.heap.size w wr ∧
   Hid (∀ d ∈ L.take k, d < 1000000000) ∧ Hid (∀ d ∈ L.drop (k + 1), d < 1000000000) ∧ L.getD k 0 ≤ 1000000000 ∧ Hid (ofd 1000000000 L + 1000000000 ^ k * ofd 1000000000 (ys.drop k) = x + y))
  (fun i _ => (xs.length - intOf i).toNat)
 case atStart =>
  refine ⟨0, xs ++ [0], Nat.zero_le _, rfl, by simp, za HownL, za Hb2, by show ∀ d ∈ _, _; simp, ?_, ?_, ?_⟩
  ·intro d hd
   have := List.mem_of_mem_drop hd
   rcases List.mem_append.1 this with h | h
   ·exact za Hxd d h
   ·simp at h; omega
  ·cases xs with
   | nil => simp
   | cons a r => have := za Hxd a (by simp); simp; omega
  ·show _ = _
   rw [show [0] = List.replicate 1 0 from rfl, kg, List.drop_zero, za Hxo, za Hyo, Nat.pow_zero, Nat.one_mul]
 case round =>
  clear HownL Hb2
  obtain ⟨k, L, hk, rfl, hLl, hown, hb, hLt, hLd, hLk, hval⟩ := hrel
  by_cases hlt : k < xs.length
  ·have hk1 : k + 1 < L.length := by omega
   have hx1 := xo hk1 (za hLd)
   have hc0 := hown.cellAt k (by omega)
   rw [zh _ _ (by omega)] at hc0
   have hc1 := hown.cellAt (k + 1) (by omega)
   rw [zh _ _ hk1] at hc1
   have hf0 := hown.frozenAt k
   have hf1 := hown.frozenAt (k + 1)
   rw [qP (by omega)] at hLk
   have hstep := fun a => @yh 1000000000 L ys k a L[k + 1] (x + y) hk1
   obtain ⟨a0, ha0⟩ : ∃ a0, L[k]'(by omega) = a0 := ⟨_, rfl⟩
   obtain ⟨x1, hx1e⟩ : ∃ x1, L[k + 1]'hk1 = x1 := ⟨_, rfl⟩
   rw [ha0] at hc0 hLk hstep
   rw [hx1e] at hc1 hx1 hstep
   have Hstep := hide hstep
   have Ha0 := hide ha0
   have hx1e' := hx1e
   have hkI : (k : Int) < xs.length := by omega
   clear hstep ha0 hx1e
   have Hx1e := hide hx1e'
   clear hx1e'
   by_cases hky : k < ys.length
   ·obtain ⟨g2, rfl, hcy⟩ := qX (zl (za Hy) hb) k hky
    have hyk : ys[k]'hky < 1000000000 := za Hyd _ (List.getElem_mem _)
    obtain ⟨yk, hye⟩ : ∃ yk, ys[k]'hky = yk := ⟨_, rfl⟩
    rw [hye] at hcy hyk
    have Hye := hide hye
    clear hye
    have hkyI : (k : Int) < ys.length := by omega
    obtain ⟨a, ha⟩ : ∃ a : Nat, a0 + yk = a := ⟨_, rfl⟩
    have hIa : (a0 : Int) + yk = a := by omega
    have ha2 : a ≤ 1999999999 := by omega
    have e1 := wu64 (a : Int) (by omega) (by omega)
    have Haa : Hid (a0 + ys.getD k 0 = a) := by show _ = _; rw [qP hky, za Hye]; exact ha
    have hown1 := zT hown k a (a : Int) rfl
    have Hown1 := hide (show ((wr.setCell ⟨w.heap.size, k, none⟩ (.int .u64 (a : Int))).drew).ownsRow w.heap.size 80 1 (.slice (some ⟨w.heap.size, 0, none⟩) (xs.length + 1) (xs.length + 1)) (xs.length + 1) (u64s (L.set k a)) from hown1)
    have Hb1 := hide ((hb.setCell (p := ⟨w.heap.size, k, none⟩) (Nat.le_refl _) (.int .u64 (a : Int))).drew)
    clear ha hown1 hown hb
    go_wp2
    go_region
    clear hc0 hc1 hf0 hf1 hcy hIa e1
    generalize (wr.setCell ⟨w.heap.size, k, none⟩ (.int .u64 (a : Int))).drew = W1 at *
    have hL1 : (L.set k a).length = xs.length + 1 := by simpa using hLl
    have hc0 := (za Hown1).cellAt k (by omega)
    rw [zh _ _ (by omega), List.getElem_set_self] at hc0
    have hc1 := (za Hown1).cellAt (k + 1) (by omega)
    rw [zh _ _ (by simpa using hk1), List.getElem_set_ne (by omega), za Hx1e] at hc1
    have hf0 := (za Hown1).frozenAt k
    have hf1 := (za Hown1).frozenAt (k + 1)
    obtain ⟨q9, hq9⟩ : ∃ q9, a / 1000000000 = q9 := ⟨_, rfl⟩
    have hq9' : q9 ≤ 1 := by omega
    have e2 : (a : Int).tdiv 1000000000 = q9 := by rw [Int.tdiv_eq_ediv_of_nonneg (by omega)]; omega
    have e3 := wu64 (q9 : Int) (by omega) (by omega)
    have e4 := wu64 ((x1 : Int) + q9) (by omega) (by omega)
    have hstep := za Hstep a (za Haa) (by first | trivial | rfl) (za hval)
    rw [hq9] at hstep
    have hinv := @jS 1000000000 L k (a % 1000000000) (x1 + q9) a hk1 (za hLt) (za hLd) (Nat.mod_lt _ (by omega)) (by omega)
    have hown2 := zT (za Hown1) (k + 1) (x1 + q9) ((x1 : Int) + q9) (by omega)
    have Hinv := hide hinv
    have Hstep2 := hide hstep
    have Hown2 := hide hown2
    clear hstep hinv hown2
    go_wp2
    go_region
    clear hc0 hc1 hf0 hf1 e2 e3 e4
    have hb2 := ((za Hb1).setCell (p := ⟨w.heap.size, k + 1, none⟩) (Nat.le_refl _) (.int .u64 ((x1 : Int) + q9))).drew
    have hown2 : (World.drew (World.setCell _ ⟨w.heap.size, k + 1, none⟩ (.int .u64 ((x1 : Int) + q9)))).ownsRow w.heap.size 80 1 (.slice (some ⟨w.heap.size, 0, none⟩) (xs.length + 1) (xs.length + 1)) (xs.length + 1) (u64s ((L.set k a).set (k + 1) (x1 + q9))) := za Hown2
    have hc0 := hown2.cellAt k (by omega)
    rw [zh _ _ (by simp; omega), List.getElem_set_ne (by omega), List.getElem_set_self] at hc0
    have hf0 := hown2.frozenAt k
    have hown3 := zT hown2 k (a % 1000000000) ((a : Int) % 1000000000) (by omega)
    have Hown3 := hide hown3
    have Hb2 := hide hb2
    clear hown2 hown3 hb2
    go_wp2
    go_roundw
    case rel => exact ⟨k + 1, _, by omega, by go_num, by simpa using hLl, za Hown3, (za Hb2).setCell (Nat.le_refl _) _, (za Hinv).1, (za Hinv).2.1, (za Hinv).2.2, Hstep2⟩
    case measure => simp [intOf]; omega
   ·obtain ⟨a, ha⟩ : ∃ a : Nat, a0 = a := ⟨_, rfl⟩
    have ha2 : a ≤ 1999999999 := by omega
    have Haa : Hid (a0 + ys.getD k 0 = a) := by show _ = _; rw [jX (by omega)]; exact ha
    have hLs : L.set k a = L := by rw [← ha, ← za Ha0]; exact List.set_getElem_self (by omega)
    have Hown1 := hide (show wr.ownsRow w.heap.size 80 1 (.slice (some ⟨w.heap.size, 0, none⟩) (xs.length + 1) (xs.length + 1)) (xs.length + 1) (u64s (L.set k a)) from by rw [hLs]; exact hown)
    have Hb1 := hide hb
    have hkyI : ¬ (k : Int) < ys.length := by omega
    clear ha hown hb hLs hc0 hc1 hf0 hf1
    obtain ⟨W1, hW1⟩ : ∃ W1, wr = W1 := ⟨_, rfl⟩
    subst hW1
    have hL1 : (L.set k a).length = xs.length + 1 := by simpa using hLl
    have hc0 := (za Hown1).cellAt k (by omega)
    rw [zh _ _ (by omega), List.getElem_set_self] at hc0
    have hc1 := (za Hown1).cellAt (k + 1) (by omega)
    rw [zh _ _ (by simpa using hk1), List.getElem_set_ne (by omega), za Hx1e] at hc1
    have hf0 := (za Hown1).frozenAt k
    have hf1 := (za Hown1).frozenAt (k + 1)
    obtain ⟨q9, hq9⟩ : ∃ q9, a / 1000000000 = q9 := ⟨_, rfl⟩
    have hq9' : q9 ≤ 1 := by omega
    have e2 : (a : Int).tdiv 1000000000 = q9 := by rw [Int.tdiv_eq_ediv_of_nonneg (by omega)]; omega
    have e3 := wu64 (q9 : Int) (by omega) (by omega)
    have e4 := wu64 ((x1 : Int) + q9) (by omega) (by omega)
    have hstep := za Hstep a (za Haa) (by first | trivial | rfl) (za hval)
    rw [hq9] at hstep
    have hinv := @jS 1000000000 L k (a % 1000000000) (x1 + q9) a hk1 (za hLt) (za hLd) (Nat.mod_lt _ (by omega)) (by omega)
    have hown2 := zT (za Hown1) (k + 1) (x1 + q9) ((x1 : Int) + q9) (by omega)
    have Hinv := hide hinv
    have Hstep2 := hide hstep
    have Hown2 := hide hown2
    clear hstep hinv hown2
    go_wp2
    go_region
    clear hc0 hc1 hf0 hf1 e2 e3 e4
    have hb2 := ((za Hb1).setCell (p := ⟨w.heap.size, k + 1, none⟩) (Nat.le_refl _) (.int .u64 ((x1 : Int) + q9))).drew
    have hown2 : (World.drew (World.setCell _ ⟨w.heap.size, k + 1, none⟩ (.int .u64 ((x1 : Int) + q9)))).ownsRow w.heap.size 80 1 (.slice (some ⟨w.heap.size, 0, none⟩) (xs.length + 1) (xs.length + 1)) (xs.length + 1) (u64s ((L.set k a).set (k + 1) (x1 + q9))) := za Hown2
    have hc0 := hown2.cellAt k (by omega)
    rw [zh _ _ (by simp; omega), List.getElem_set_ne (by omega), List.getElem_set_self] at hc0
    have hf0 := hown2.frozenAt k
    have hown3 := zT hown2 k (a % 1000000000) ((a : Int) % 1000000000) (by omega)
    have Hown3 := hide hown3
    have Hb2 := hide hb2
    clear hown2 hown3 hb2
    go_wp2
    go_roundw
    case rel => exact ⟨k + 1, _, by omega, by go_num, by simpa using hLl, za Hown3, (za Hb2).setCell (Nat.le_refl _) _, (za Hinv).1, (za Hinv).2.1, (za Hinv).2.2, Hstep2⟩
    case measure => simp [intOf]; omega
  ·have hkn : k = xs.length := by omega
   subst hkn
   have hval' := za hval
   rw [List.drop_of_length_le (by omega)] at hval'
   have hval2 : ofd 1000000000 L = x + y := by simpa [ofd] using hval'
   have htop := yu hLl hval2 (za HV) (by omega)
   have hall : ∀ d ∈ L, d < 1000000000 := by
    intro d hd
    obtain ⟨j, hj, rfl⟩ := List.getElem_of_mem hd
    by_cases hjn : j = xs.length
    ·subst hjn; exact htop
    ·exact za hLt _ (by rw [List.mem_take_iff_getElem]; exact ⟨j, by omega, rfl⟩)
   have Hall := hide hall
   have Hv2 := hide hval2
   clear hval' hval2 htop hall
   go_wp2_with fail
   refine (qg L w.heap.size _ _ (by omega) (za Hall) (by rw [hLl]; exact hown)).mono ?_
   rintro e w2 ⟨⟨v', rfl, hv'⟩, rfl⟩
   rw [za Hv2] at hv'
   go_wp2
   go_ret
   exact ⟨⟨v', rfl, hv'⟩, hb⟩
theorem Q1 (x y : Nat) (v u : Value) (w : World) (hx : isNat w v x) (hy : isNat w u y) (hsx : (gr x).length ≤ 1000000) (hsy : (gr y).length ≤ 1000000) :
  Calls Tryd.prog 200 #[v, u] w fun e w' => (∃ v', e = .returned v' ∧ isNatB w' w.heap.size v' (x + y)) ∧ Below w.heap.size w w' := by
 by_cases hl : (gr y).length ≤ (gr x).length
 ·exact Ze x y v u w hx hy hl hsx
 ·have h := kX y x u v w hy hx (by omega) hsy
  rw [Nat.add_comm y x] at h
  exact h
theorem kl {L : List Nat} {n j d : Nat} (h : ∀ t, n ≤ t → L.getD t 0 = 0) (hj : j < n) : ∀ t, n ≤ t → (L.set j d).getD t 0 = 0 := by
 intro t ht
 rw [List.getD_eq_getElem?_getD, List.getElem?_set_ne (by omega), ← List.getD_eq_getElem?_getD]
 exact h t ht
theorem vR {w : World} {base : Nat} {e : TypeId} {size : Nat} {v : Value} {n : Nat} {xs : List Value} {a : Addr} {u : Value} (h : (w.setCell a u).ownsRow base e size v n xs) (k : Nat) : ((w.drewN k).setCell a u).ownsRow base e size v n xs := h
theorem yB {B : Nat} {a w : World} (h : Below B a w) (n : Nat) : Below B a (w.drewN n) := ⟨h.os, h.tape, h.output, h.size, h.block⟩
theorem QO (x y : Nat) (v u : Value) (w : World) (hx : isNat w v x) (hy : isNat w u y) (hsx : (gr x).length ≤ 1000000) (hsy : (gr y).length ≤ 1000000) :
  Calls Tryd.prog 201 #[v, u] w fun e w' => (∃ v', e = .returned v' ∧ isNatB w' w.heap.size v' (x * y)) ∧ Below w.heap.size w w' := by
 obtain ⟨i0, hi, hz0, hz1, hz2⟩ := info_parts Tryd.infoU64
 have hxd := gr_lt x
 have hyd := gr_lt y
 have hxo := z9 x
 have hyo := z9 y
 unfold isNat at hx hy
 generalize gr x = xs at *
 generalize gr y = ys at *
 obtain ⟨p, cap, rfl⟩ := zd hx
 obtain ⟨q, cap2, rfl⟩ := zd hy
 have Hxd := hide hxd
 have Hyd := hide hyd
 have Hx := hide hx
 have Hy := hide hy
 have Hxo := hide hxo
 have Hyo := hide hyo
 clear hxd hyd hxo hyo hx hy
 go_enter Tryd.func201, Tryd.ntmps201
 go_wp2_with (refine wpList_make_full _ rfl (.tmp 13) (.tmp 13) 65 rfl w.heap.size 80 i0 (.int .u64 0) 1 Tryd.underlying65 hi hz0 hz1 .i64 .i64 (xs.length + ys.length) (xs.length + ys.length) (xs.length + ys.length) rfl rfl (by go_num) (by go_num) (by rw [hz2]; omega) (by unfold maxLen; omega) (Nat.le_refl _) ?_; intro w1 hown1 hg1)
 go_loopw [17] (fun i wr => ∃ (k : Nat) (L : List Nat), k ≤ xs.length ∧ i = .int .i64 (k : Int) ∧ L.length = xs.length + ys.length ∧
   wr.ownsRow w.heap.size 80 1 (.slice (some ⟨w.heap.size, 0, none⟩) (xs.length + ys.length) (xs.length + ys.length)) (xs.length + ys.length) (u64s L) ∧ Below w.heap.size w wr ∧
   Hid (∀ d ∈ L, d < 1000000000) ∧ Hid (∀ t, k + ys.length ≤ t → L.getD t 0 = 0) ∧ Hid (ofd 1000000000 L = ofd 1000000000 (xs.take k) * ofd 1000000000 ys))
  (fun i _ => (xs.length - intOf i).toNat)
 case atStart =>
  refine ⟨0, List.replicate (xs.length + ys.length) 0, Nat.zero_le _, rfl, by simp, ?_, (Below.refl _ _).grown hg1 (Nat.le_refl _) (fun _ h => by cases h), ?_, ?_, ?_⟩
  ·simpa [Value.cells, toList_madeCells_one, qh] using hown1
  ·intro d hd; simp at hd; omega
  ·intro t _; rw [List.getD_eq_getElem?_getD, List.getElem?_replicate]; split <;> rfl
  ·show _ = _; simp [ofd, zL]
 case round =>
  clear hown1 hg1
  obtain ⟨k, L, hk, rfl, hLl, hown, hb, hLd, hLz, hval⟩ := hrel
  by_cases hlt : k < xs.length
  ·obtain ⟨g, rfl, hcx⟩ := qX (zl (za Hx) hb) k hlt
   have hxk : xs[k]'hlt < 1000000000 := za Hxd _ (List.getElem_mem _)
   obtain ⟨xk, hxe⟩ : ∃ xk, xs[k]'hlt = xk := ⟨_, rfl⟩
   rw [hxe] at hcx hxk
   have Hxe := hide hxe
   have hkI : (k : Int) < xs.length := by omega
   have Hown := hide hown
   clear hxe hown hcx
   go_wp2
   go_loopw [7, 22] (fun cv jv wr => ∃ (j c : Nat) (L : List Nat), j ≤ ys.length ∧ jv = .int .i64 (j : Int) ∧ cv = .int .u64 (c : Int) ∧ c < 1000000000 ∧ L.length = xs.length + ys.length ∧
     wr.ownsRow w.heap.size 80 1 (.slice (some ⟨w.heap.size, 0, none⟩) (xs.length + ys.length) (xs.length + ys.length)) (xs.length + ys.length) (u64s L) ∧ Below w.heap.size w wr ∧
     Hid (∀ d ∈ L, d < 1000000000) ∧ Hid (∀ t, k + ys.length ≤ t → L.getD t 0 = 0) ∧ Hid (ofd 1000000000 L + c * 1000000000 ^ (k + j) = ofd 1000000000 (xs.take k) * ofd 1000000000 ys + 1000000000 ^ k * (xk * ofd 1000000000 (ys.take j))))
    (fun _ jv _ => (ys.length - intOf jv).toNat)
   case atStart =>
    refine ⟨0, 0, L, Nat.zero_le _, rfl, rfl, by omega, hLl, za Hown, hb, hLd, hLz, ?_⟩
    show _ = _
    rw [za hval]; simp [ofd]
   case round =>
    clear Hown hb hLd hLz hval hLl
    obtain ⟨j, c, L, hj, rfl, rfl, hc, hLl, hown, hb, hLd, hLz, hval⟩ := hrel
    by_cases hjl : j < ys.length
    ·obtain ⟨g2, rfl, hcy⟩ := qX (zl (za Hy) hb) j hjl
     obtain ⟨g', hg', hcx⟩ := qX (zl (za Hx) hb) k hlt
     obtain rfl : g' = g := by simpa using hg'.symm
     have hyk : ys[j]'hjl < 1000000000 := za Hyd _ (List.getElem_mem _)
     obtain ⟨yk, hye⟩ : ∃ yk, ys[j]'hjl = yk := ⟨_, rfl⟩
     rw [hye] at hcy hyk
     rw [za Hxe] at hcx
     have hkj : k + j < L.length := by omega
     have hcL := hown.cellAt (k + j) (by omega)
     rw [zh _ _ hkj] at hcL
     have hfL := hown.frozenAt (k + j)
     have hLk : L[k + j]'hkj < 1000000000 := za hLd _ (List.getElem_mem _)
     have hstep := fun t => @xc 1000000000 L ys k j c t xk yk (ofd 1000000000 (xs.take k) * ofd 1000000000 ys) hkj (by rw [qP hjl]; exact hye)
     obtain ⟨lk, hle⟩ : ∃ lk, L[k + j]'hkj = lk := ⟨_, rfl⟩
     rw [hle] at hcL hLk hstep
     have hxy : xk * yk ≤ 999999999 * 999999999 := Nat.mul_le_mul (by omega) (by omega)
     obtain ⟨m, hm⟩ : ∃ m, xk * yk = m := ⟨_, rfl⟩
     rw [hm] at hxy hstep
     have e0 : IntKind.u64.wrap ((xk : Int) * yk) = (m : Int) := by rw [show (xk : Int) * yk = (m : Int) from by rw [← hm]; simp]; exact wu64 _ (by omega) (by omega)
     obtain ⟨s1, hs1⟩ : ∃ s1, lk + m = s1 := ⟨_, rfl⟩
     have e1 : IntKind.u64.wrap ((lk : Int) + m) = (s1 : Int) := by rw [show (lk : Int) + m = (s1 : Int) from by omega]; exact wu64 _ (by omega) (by omega)
     obtain ⟨t, ht⟩ : ∃ t, s1 + c = t := ⟨_, rfl⟩
     have e2 : IntKind.u64.wrap ((c : Int) + s1) = (t : Int) := by rw [show (c : Int) + s1 = (t : Int) from by omega]; exact wu64 _ (by omega) (by omega)
     have ht9 : t ≤ 999999999999999999 := by omega
     have hst := hstep t (by omega) (za hval)
     have Hst := hide hst
     have hjI : (j : Int) < ys.length := by omega
     have hown2 := fun v hv => zT hown (k + j) (t % 1000000000) v hv
     have Hown2 := hide hown2
     have hkj2 : (k : Int) + j < xs.length + ys.length := by omega
     clear hstep hst hye hle hm hs1 ht hown2 hg'
     go_wp2
     go_quiet (fail)
     go_wp2
     go_roundw
     case rel => exact ⟨j + 1, t / 1000000000, L.set (k + j) (t % 1000000000), by omega, by go_num, by go_num, by omega, by simpa using hLl, vR (za Hown2 _ (by omega)) nq, (yB hb nq).setCell (Nat.le_refl _) _, zX (za hLd) (Nat.mod_lt _ (by omega)), kl (za hLz) (by omega), za Hst⟩
     case measure => simp [intOf]; omega
    ·have hjn : j = ys.length := by omega
     have hkm : k + ys.length < L.length := by omega
     have hz := za hLz (k + ys.length) (Nat.le_refl _)
     rw [qP hkm] at hz
     have hval' := za hval
     rw [hjn] at hval'
     have hrow := @Zq 1000000000 L xs ys k ys.length c hkm rfl hz (by rw [qP hlt, za Hxe]; exact hval')
     have hcL := hown.cellAt (k + ys.length) (by omega)
     rw [zh _ _ hkm] at hcL
     have hfL := hown.frozenAt (k + ys.length)
     obtain ⟨lk, hle⟩ : ∃ lk, L[k + ys.length]'hkm = lk := ⟨_, rfl⟩
     rw [hle] at hcL
     have hown2 := fun v hv => zT hown (k + ys.length) c v hv
     have Hown2 := hide hown2
     have Hrow := hide hrow
     have hkm2 : (k : Int) + ys.length < xs.length + ys.length := by omega
     clear hz hval' hrow hle hown2
     go_wp2
     go_roundw
     case rel => exact ⟨k + 1, L.set (k + ys.length) c, by omega, by go_num, by simpa using hLl, za Hown2 _ rfl, hb.setCell (Nat.le_refl _) _, zX (za hLd) hc, fun t ht => kl (n := k + 1 + ys.length) (fun t ht => za hLz t (by omega)) (by omega) t ht, za Hrow⟩
     case measure => simp [intOf]; omega
  ·have hkn : k = xs.length := by omega
   subst hkn
   have hval' := za hval
   rw [List.take_of_length_le (by omega), za Hxo, za Hyo] at hval'
   have Hv := hide hval'
   clear hval'
   go_wp2_with fail
   refine (qg L w.heap.size _ _ (by omega) (za hLd) (by rw [hLl]; exact hown)).mono ?_
   rintro e w2 ⟨⟨v', rfl, hv'⟩, rfl⟩
   rw [za Hv] at hv'
   go_wp2
   go_ret
   exact ⟨⟨v', rfl, hv'⟩, hb⟩
def AtC (w : World) (b : Nat) (cs : Array Value) (T : TypeId) : Prop := w.heap[b]? = some (.cells cs T (0, 0))
theorem AtC.lt {w : World} {b : Nat} {cs : Array Value} {T : TypeId} (h : AtC w b cs T) : b < w.heap.size := (Array.getElem?_eq_some_iff.1 h).1
theorem AtC.new (w : World) (cs : Array Value) (T : TypeId) : AtC (w.alloc (.cells cs T)) w.heap.size cs T := by
 show (w.heap.push _)[w.heap.size]? = _; rw [Array.getElem?_push, if_pos rfl]
theorem AtC.below {w w' : World} {b : Nat} {cs : Array Value} {T : TypeId} (h : AtC w b cs T) (k : Below w.heap.size w w') : AtC w' b cs T := (k.block b h.lt).trans h
theorem AtC.alloc {w : World} {b : Nat} {cs : Array Value} {T : TypeId} (h : AtC w b cs T) (o : Obj) : AtC (w.alloc o) b cs T := h.below ((Below.refl _ _).alloc (Nat.le_refl _) o)
theorem AtC.drew {w : World} {b : Nat} {cs : Array Value} {T : TypeId} (h : AtC w b cs T) : AtC w.drew b cs T := h
theorem AtC.c {w : World} {b : Nat} {cs : Array Value} {T : TypeId} (h : AtC w b cs T) (j : Nat) : w.cell? ⟨b, j, none⟩ = cs[j]? := by unfold AtC at h; simp [World.cell?, h]
theorem AtC.f {w : World} {b : Nat} {cs : Array Value} {T : TypeId} (h : AtC w b cs T) (j : Nat) : w.frozen? ⟨b, j, none⟩ = false := by unfold AtC at h; simp [World.frozen?, h]
theorem far2 {w : World} {b i j : Nat} {u v : Value} {a : Addr} (h : b ≠ a.block) : ((w.setCell ⟨b, i, none⟩ u).setCell ⟨b, j, none⟩ v).cell? a = w.cell? a := by
 rw [World.cell?_setCell_far _ _ _ _ h, World.cell?_setCell_far _ _ _ _ h]
def zC (n : Bool) (v : Value) : Value := .agg #[.bool n, v]
def plusW (a b : Bool × Nat) : Bool × Nat := if a.1 = b.1 then (a.1, a.2 + b.2) else if a.2 < b.2 then (b.1, b.2 - a.2) else (a.1, a.2 - b.2)
def Qy (w : World) (u : Value) (a : Bool × Nat) : Prop := ∃ v, u = zC a.1 v ∧ isNat w v a.2
def qi (w : World) (base : Nat) (u : Value) (a : Bool × Nat) : Prop := ∃ v, u = zC a.1 v ∧ isNatB w base v a.2
theorem zB {w : World} {base b i : Nat} {v u : Value} {x : Nat} (h : isNatB w base v x) (hb : b < base) : isNatB (w.setCell ⟨b, i, none⟩ u) base v x := ownsRow_setCell_below h hb u
theorem Q4 (n : Bool) (v : Value) (x : Nat) (w : World) (hx : isNat w v x) :
  Calls Tryd.prog 202 #[zC n v] w fun e w' => (∃ u, e = .returned u ∧ Qy w' u (!n, x)) ∧ Below w.heap.size w w' := by
 obtain ⟨p, cap, rfl⟩ := zd hx
 have Hx := hide hx
 clear hx
 unfold zC
 go_enter Tryd.func202, Tryd.ntmps202
 go_wp2
 refine bodyPost_ret (v := .agg #[.bool (!n), .slice p (gr x).length cap]) (by simp [results, Tryd.results202, go_sem]) rfl ⟨⟨_, rfl, ⟨_, rfl, ?_⟩⟩, ?_⟩
 ·exact zb (za Hx) (((Below.refl _ _).alloc (Nat.le_refl _) _).alloc (by simp) _)
 ·exact ((Below.refl _ _).alloc (Nat.le_refl _) _).alloc (by simp) _
theorem qN (n m : Bool) (v u : Value) (x y : Nat) (w : World) (hx : isNat w v x) (hy : isNat w u y) (hsx : (gr x).length ≤ 1000000) (hsy : (gr y).length ≤ 1000000) :
  Calls Tryd.prog 204 #[zC n v, zC m u] w fun e w' => (∃ z, e = .returned z ∧ qi w' w.heap.size z (n != m, x * y)) ∧ Below w.heap.size w w' := by
 obtain ⟨p, cap, rfl⟩ := zd hx
 obtain ⟨q, cap2, rfl⟩ := zd hy
 obtain ⟨lx, hlx⟩ : ∃ l, (gr x).length = l := ⟨_, rfl⟩
 obtain ⟨ly, hly⟩ : ∃ l, (gr y).length = l := ⟨_, rfl⟩
 rw [hlx] at hx
 rw [hly] at hy
 rw [hlx, hly]
 have hW : Below w.heap.size w (((w.alloc (.cells #[.bool n, .slice p lx cap] 88)).alloc (.cells #[.bool m, .slice q ly cap2] 88)).alloc (.cells #[.bool false, .slice none 0 0] 88)) :=
  (((Below.refl _ _).alloc (Nat.le_refl _) _).alloc (by simp) _).alloc (by simp; omega) _
 have Hx := hide (zb hx hW)
 have Hy := hide (zb hy hW)
 have HW := hide hW
 have HA := hide (((AtC.new w #[.bool n, .slice p lx cap] 88).alloc (.cells #[.bool m, .slice q ly cap2] 88)).alloc (.cells #[.bool false, .slice none 0 0] 88))
 have HB := hide ((AtC.new (w.alloc (.cells #[.bool n, .slice p lx cap] 88)) #[.bool m, .slice q ly cap2] 88).alloc (.cells #[.bool false, .slice none 0 0] 88))
 have HC := hide (AtC.new ((w.alloc (.cells #[.bool n, .slice p lx cap] 88)).alloc (.cells #[.bool m, .slice q ly cap2] 88)) #[.bool false, .slice none 0 0] 88)
 have Hl := hide (And.intro hlx hly)
 clear hx hy hW hlx hly
 rw [World.size_alloc] at HB
 rw [World.size_alloc, World.size_alloc] at HC
 unfold zC
 go_enter Tryd.func204, Tryd.ntmps204
 go_wp2
 go_region_held3 (fun w' => w'.cell? ⟨w.heap.size, 0, none⟩ = some (.bool n) ∧ w'.cell? ⟨w.heap.size, 1, none⟩ = some (.slice p lx cap) ∧ w'.cell? ⟨w.heap.size + 1, 0, none⟩ = some (.bool m) ∧ w'.cell? ⟨w.heap.size + 1, 1, none⟩ = some (.slice q ly cap2)) (((try dsimp only); (repeat' apply And.intro) <;> (first | assumption | (rw [far2 (by first | (simp; done) | (simp; omega))]; assumption) | go_keep))) (first | (go_at_call 201; refine (QO x y _ _ _ (by first | exact za Hx) (by first | exact za Hy) hsx hsy).mono ?_; rintro e w1 ⟨⟨z, rfl, hz⟩, hb1⟩; obtain ⟨zp, zc, rfl⟩ := zd hz; have hA := (za HA).drew.below hb1; have hB := (za HB).drew.below hb1; have hC := (za HC).drew.below hb1; have a0 : w1.cell? ⟨w.heap.size, 0, none⟩ = some (.bool n) := hA.c 0; have a1 : w1.cell? ⟨w.heap.size, 1, none⟩ = some (.slice p lx cap) := hA.c 1; have b0 : w1.cell? ⟨w.heap.size + 1, 0, none⟩ = some (.bool m) := hB.c 0; have b1 : w1.cell? ⟨w.heap.size + 1, 1, none⟩ = some (.slice q ly cap2) := hB.c 1; have c0 : w1.cell? ⟨w.heap.size + 1 + 1, 0, none⟩ = some (.bool false) := hC.c 0; have c1 : w1.cell? ⟨w.heap.size + 1 + 1, 1, none⟩ = some (.slice none 0 0) := hC.c 1; have cf := hC.f; have Hz := hide hz; have Hb1 := hide hb1; clear hA hB hC hz hb1))
 have hfin : Below w.heap.size w w1 := (za HW).drew.trans ((za Hb1).mono (za HW).drew.size)
 have hs := (za HC).drew.below (za Hb1) |>.lt
 have Hfin := hide hfin
 clear hfin
 go_wp2
 refine bodyPost_ret (v := .agg #[.bool (n != m), .slice zp (gr (x * y)).length zc]) (by simp [results, Tryd.results204, go_sem, c0, c1]; cases n <;> cases m <;> rfl) rfl ⟨⟨_, rfl, ⟨_, rfl, ?_⟩⟩, ?_⟩
 ·have h0 := za Hz
  have h1 := zB h0 (b := w.heap.size + 1 + 1) (i := 0) (u := .bool (n != m)) (by simp)
  exact zE (zB h1 (b := w.heap.size + 1 + 1) (i := 1) (by simp)) (by simp; omega)
 ·exact ((za Hfin).setCell (by show w.heap.size ≤ w.heap.size + 1 + 1; omega) _).setCell (by show w.heap.size ≤ w.heap.size + 1 + 1; omega) _
end Go.Proofs.YtcnnicbaeicboaaDoor
