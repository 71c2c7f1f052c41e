/- A part of the proof, put together out of smaller texts. -/
import Derived.Test.YtnenoaenjaghhaaDoorRows
import Derived.Below
import Derived.WalkKit
import Derived.WalkSpells
import Derived.WalkLawsBesides
import Derived.Deep.QuietTactic
import Derived.BigQuiet
import Derived.Deep.RegionHeld3
import Derived.Deep.RegionWith
import Derived.Deep.Cut
import Derived.Deep.RegionHeld
import Derived.Deep.CutRange
set_option linter.all false
set_option maxRecDepth 100000
set_option maxHeartbeats 16000000
namespace Go.Proofs.YtnenoaenjaghhaaDoor.Nt
def ofd (b : Nat) : List Nat → Nat
 | [] => 0
 | d :: r => d + b * ofd b r
def dgf (b : Nat) : Nat → Nat → List Nat
 | 0, _ => []
 | f + 1, n => if n = 0 then [] else n % b :: dgf b f (n / b)
def dg (b n : Nat) : List Nat := dgf b n n
theorem kd {b : Nat} (hb : 2 ≤ b) : ∀ (f g n : Nat), n ≤ f → n ≤ g → dgf b f n = dgf b g n := by
 intro f
 induction f with
 | zero => intro g n h1 h2; have : n = 0 := by omega
           subst this; cases g <;> simp [dgf]
 | succ f ih =>
  intro g n h1 h2
  cases g with
  | zero => have : n = 0 := by omega
            subst this; simp [dgf]
  | succ g =>
   simp only [dgf]
   by_cases h : n = 0
   ·simp [h]
   ·have hlt : n / b < n := Nat.div_lt_self (by omega) (by omega)
    simp only [h, if_false]
    rw [ih g (n / b) (by omega) (by omega)]
theorem qs (b : Nat) : dg b 0 = [] := by simp [dg, dgf]
theorem qM {b n : Nat} (hb : 2 ≤ b) (hn : 0 < n) : dg b n = n % b :: dg b (n / b) := by
 unfold dg
 cases n with
 | zero => omega
 | succ m =>
  have hlt : (m + 1) / b < m + 1 := Nat.div_lt_self (by omega) (by omega)
  simp only [dgf]
  rw [if_neg (by omega), kd hb m ((m + 1) / b) ((m + 1) / b) (by omega) (by omega)]
theorem vp {b : Nat} (hb : 2 ≤ b) : ∀ n, ofd b (dg b n) = n := by
 intro n
 induction n using Nat.strongRecOn with
 | _ n ih =>
  by_cases h : n = 0
  ·subst h; simp [qs, ofd]
  ·rw [qM hb (by omega), ofd, ih _ (Nat.div_lt_self (by omega) (by omega))]
   exact Nat.mod_add_div n b
theorem dg_lt {b : Nat} (hb : 2 ≤ b) : ∀ n, ∀ d ∈ dg b n, d < b := by
 intro n
 induction n using Nat.strongRecOn with
 | _ n ih =>
  by_cases h : n = 0
  ·subst h; simp [qs]
  ·rw [qM hb (by omega)]
   intro d hd
   rcases List.mem_cons.1 hd with rfl | hd
   ·exact Nat.mod_lt _ (by omega)
   ·exact ih _ (Nat.div_lt_self (by omega) (by omega)) d hd
def can (b : Nat) (l : List Nat) : Prop := (∀ d ∈ l, d < b) ∧ (∀ d, l.getLast? = some d → d ≠ 0)
theorem qY {b : Nat} (hb : 2 ≤ b) : ∀ l, can b l → l ≠ [] → 0 < ofd b l := by
 intro l
 induction l with
 | nil => intro _ h; exact absurd rfl h
 | cons d r ih =>
  intro hc _
  simp only [ofd]
  by_cases hr : r = []
  ·subst hr
   have := hc.2 d (by simp)
   simp only [ofd]; omega
  ·have hc' : can b r := ⟨fun x hx => hc.1 x (List.mem_cons_of_mem _ hx), fun x hx => hc.2 x (by rw [List.getLast?_cons]; rw [hx]; rfl)⟩
   have h1 := ih hc' hr
   have h2 := Nat.mul_pos (show 0 < b by omega) h1
   omega
theorem xH {b d : Nat} {r : List Nat} (h : can b (d :: r)) : can b r :=
 ⟨fun x hx => h.1 x (List.mem_cons_of_mem _ hx), fun x hx => h.2 x (by rw [List.getLast?_cons]; rw [hx]; rfl)⟩
theorem Z1 {b : Nat} (hb : 2 ≤ b) : ∀ l, can b l → dg b (ofd b l) = l := by
 intro l
 induction l with
 | nil => intro _; simp [ofd, qs]
 | cons d r ih =>
  intro hc
  have hp := qY hb (d :: r) hc (by simp)
  have hd : d < b := hc.1 d (by simp)
  rw [qM hb hp]
  simp only [ofd]
  rw [Nat.add_mul_mod_self_left, Nat.mod_eq_of_lt hd, Nat.add_mul_div_left _ _ (by omega), Nat.div_eq_of_lt hd, Nat.zero_add, ih (xH hc)]
theorem vj (b : Nat) (l m : List Nat) : ofd b (l ++ m) = ofd b l + b ^ l.length * ofd b m := by
 induction l with
 | nil => simp [ofd]
 | cons d r ih => simp only [List.cons_append, ofd, ih, List.length_cons, Nat.pow_succ]; rw [Nat.mul_add, ← Nat.add_assoc, Nat.mul_comm (b ^ r.length) b, Nat.mul_assoc]
theorem yn {b : Nat} (l : List Nat) (h : ∀ d ∈ l, d < b) : ofd b l < b ^ l.length := by
 induction l with
 | nil => simp [ofd]
 | cons d r ih =>
  have h1 := ih (fun x hx => h x (List.mem_cons_of_mem _ hx))
  have h2 := h d (by simp)
  simp only [ofd, List.length_cons, Nat.pow_succ]
  have h3 : b * (ofd b r + 1) ≤ b * b ^ r.length := Nat.mul_le_mul_left _ h1
  rw [Nat.mul_add] at h3
  rw [Nat.mul_comm (b ^ r.length) b]
  omega
theorem jk (b k : Nat) : ofd b (List.replicate k 0) = 0 := by
 induction k with
 | zero => rfl
 | succ k ih => simp [List.replicate_succ, ofd, ih]
theorem kW {b : Nat} (hb : 2 ≤ b) {n : Nat} : dg b n = [] ↔ n = 0 := by
 constructor
 ·intro h; rw [← vp hb n, h]; rfl
 ·intro h; subst h; exact qs b
theorem xp {b : Nat} (hb : 2 ≤ b) (n : Nat) : n < b ^ (dg b n).length := by
 have := yn _ (dg_lt hb n)
 rwa [vp hb] at this
theorem kX {b : Nat} (hb : 2 ≤ b) {k : Nat} : ∀ {n : Nat}, n < b ^ k → (dg b n).length ≤ k := by
 induction k with
 | zero => intro n h; have : n = 0 := by simpa using h
           subst this; simp [qs]
 | succ k ih =>
  intro n h
  by_cases h0 : n = 0
  ·subst h0; simp [qs]
  ·rw [qM hb (by omega), List.length_cons]
   have : n / b < b ^ k := by
    rw [Nat.div_lt_iff_lt_mul (by omega)]; rwa [Nat.pow_succ] at h
   have := ih this
   omega
theorem Z0 {b : Nat} (hb : 2 ≤ b) : ∀ (k n : Nat), (dg b n).getD k 0 = n / b ^ k % b := by
 intro k
 induction k with
 | zero =>
  intro n
  by_cases h0 : n = 0
  ·subst h0; simp [qs]
  ·rw [qM hb (by omega)]; simp
 | succ k ih =>
  intro n
  by_cases h0 : n = 0
  ·subst h0; simp [qs]
  ·rw [qM hb (by omega)]
   have := ih (n / b)
   rw [List.getD_cons_succ, this, Nat.div_div_eq_div_mul, Nat.pow_succ, Nat.mul_comm (b ^ k) b]
theorem zM (b n k : Nat) : n % b ^ (k + 1) = n % b ^ k + b ^ k * (n / b ^ k % b) := by
 rw [Nat.pow_succ, Nat.mod_mul]
theorem yY {a b k X l ak bk d l' : Nat} (h : X + b % 10 ^ k = a % 10 ^ k + l * 10 ^ k) (ha : a / 10 ^ k % 10 = ak) (hb : b / 10 ^ k % 10 = bk) (hd : d + bk + l = ak + 10 * l') :
  X + 10 ^ k * d + b % 10 ^ (k + 1) = a % 10 ^ (k + 1) + l' * 10 ^ (k + 1) := by
 rw [zM, zM, ha, hb, Nat.pow_succ]
 generalize 10 ^ k = p at *
 have e : p * d + p * bk + l * p = p * ak + l' * (p * 10) := by
  have := congrArg (p * ·) hd
  simp only [Nat.mul_add] at this
  rw [Nat.mul_comm l p, this, Nat.mul_comm l' (p * 10), Nat.mul_assoc]
 omega
theorem j1 {a b k X c ak bk d c' : Nat} (h : X + c * 10 ^ k = a % 10 ^ k + b % 10 ^ k) (ha : a / 10 ^ k % 10 = ak) (hb : b / 10 ^ k % 10 = bk) (hd : d + 10 * c' = ak + bk + c) :
  X + 10 ^ k * d + c' * 10 ^ (k + 1) = a % 10 ^ (k + 1) + b % 10 ^ (k + 1) := by
 rw [zM, zM, ha, hb, Nat.pow_succ]
 generalize 10 ^ k = p at *
 have e : p * d + c' * (p * 10) = p * ak + p * bk + c * p := by
  have := congrArg (p * ·) hd
  simp only [Nat.mul_add] at this
  rw [Nat.mul_comm c p, ← this, Nat.mul_comm c' (p * 10), Nat.mul_assoc]
 omega
theorem jY (b : Nat) (l : List Nat) (j v : Nat) (h : j < l.length) : ofd b (l.set j v) + b ^ j * l[j] = ofd b l + b ^ j * v := by
 induction l generalizing j with
 | nil => simp at h
 | cons d r ih =>
  cases j with
  | zero => simp [ofd]; omega
  | succ j =>
   have := ih j (by simpa using h)
   simp only [List.set_cons_succ, ofd, List.getElem_cons_succ]
   have h2 := congrArg (b * ·) this
   simp only [Nat.mul_add] at h2
   rw [Nat.pow_succ, Nat.mul_comm (b ^ j) b, Nat.mul_assoc, Nat.mul_assoc]
   omega
theorem Z7 (b : Nat) (l : List Nat) (j : Nat) (h : j < l.length) : b ^ j * l[j] ≤ ofd b l := by
 have := jY b l j 0 h
 omega
theorem xZ {a b i k X ai bk x : Nat} (ha : a / 10 ^ i % 10 = ai) (hb : b / 10 ^ k % 10 = bk) (h : X = a % 10 ^ i * b + 10 ^ i * (ai * (b % 10 ^ k))) {Y : Nat} (hY : Y + 10 ^ (i + k) * x = X + 10 ^ (i + k) * (x + ai * bk)) :
  Y = a % 10 ^ i * b + 10 ^ i * (ai * (b % 10 ^ (k + 1))) := by
 rw [zM, hb]
 have e : 10 ^ i * (ai * (b % 10 ^ k + 10 ^ k * bk)) = 10 ^ i * (ai * (b % 10 ^ k)) + 10 ^ (i + k) * (ai * bk) := by
  rw [Nat.mul_add, Nat.mul_add, Nat.pow_add]
  congr 1
  simp only [Nat.mul_assoc, Nat.mul_comm, Nat.mul_left_comm]
 rw [Nat.mul_add] at hY
 subst ha
 omega
theorem ZD {a b i ai : Nat} (ha : a / 10 ^ i % 10 = ai) : a % 10 ^ i * b + 10 ^ i * (ai * b) = a % 10 ^ (i + 1) * b := by
 rw [zM, ha, Nat.add_mul, Nat.mul_assoc]
theorem y8 {X x y j Y Z : Nat} (hY : Y + 10 ^ (j + 1) * y = X + 10 ^ (j + 1) * (y + x / 10)) (hZ : Z + 10 ^ j * x = Y + 10 ^ j * (x % 10)) : Z = X := by
 have e : 10 ^ j * x = 10 ^ j * (x % 10) + 10 ^ (j + 1) * (x / 10) := by
  rw [Nat.pow_succ, Nat.mul_assoc, ← Nat.mul_add]; congr 1; omega
 rw [Nat.mul_add] at hY
 omega
theorem qt (b : Nat) (l : List Nat) (d : Nat) : ofd b (l ++ [d]) = ofd b l + b ^ l.length * d := by
 rw [vj]; simp [ofd]
end Go.Proofs.YtnenoaenjaghhaaDoor.Nt
namespace Go.Proofs.YtnenoaenjaghhaaDoor
open Go Nt
open Go.RowKit in
theorem hide {p : Prop} (h : p) : Hid p := h
open Go.RowKit in
theorem za {p : Prop} (h : Hid p) : p := h
def B (l : List UInt8) : ByteArray := ⟨l.toArray⟩
theorem ze (l : List UInt8) : (B l).size = l.length := by simp [B, ByteArray.size]
theorem ZQ (l : List UInt8) : (B l).data.toList = l := by simp [B]
theorem B_get (l : List UInt8) (k : Nat) (h : k < (B l).size) : (B l)[k] = l[k]'(by rw [ze] at h; exact h) := by
 simp [B, ByteArray.getElem_eq_getElem_data]
theorem zK (l : List UInt8) (i j : Nat) : (B l).extract i j = B ((l.take j).drop i) := by
 apply ByteArray.ext
 simp [B, ByteArray.data_extract, List.extract_toArray]
 simp [List.drop_take]
theorem zE (l m : List UInt8) : B l ++ B m = B (l ++ m) := by
 apply ByteArray.ext
 simp [B, ByteArray.data_append]
def sg (d : Nat) : UInt8 := if d < 10 then UInt8.ofNat (48 + d) else UInt8.ofNat (87 + d)
theorem zO {d : Nat} (h : d < 16) : (sg d).toNat = if d < 10 then 48 + d else 87 + d := by
 unfold sg; split
 ·simp [UInt8.toNat_ofNat']; omega
 ·simp [UInt8.toNat_ofNat']; omega
theorem Qb {c d : Nat} (hc : c < 16) (hd : d < 16) (h : sg c = sg d) : c = d := by
 have := congrArg UInt8.toNat h
 rw [zO hc, zO hd] at this
 split at this <;> split at this <;> omega
def txl (b n : Nat) : List UInt8 := if n = 0 then [48] else ((dg b n).map sg).reverse
def txt (b n : Nat) : ByteArray := B (txl b n)
def dec (n : Nat) : ByteArray := txt 10 n
theorem zG (b : Nat) : txl b 0 = [48] := by simp [txl]
theorem qj {b n : Nat} (h : n ≠ 0) : txl b n = ((dg b n).map sg).reverse := by simp [txl, h]
theorem qz {b : Nat} (hb : 2 ≤ b) (n : Nat) : 0 < (txl b n).length := by
 by_cases h : n = 0
 ·subst h; simp [zG]
 ·rw [qj h]; simp only [List.length_reverse, List.length_map]
  rw [qM hb (by omega)]; simp
theorem vh {b : Nat} (hb : 2 ≤ b) (n : Nat) : n < b ^ (txl b n).length := by
 by_cases h : n = 0
 ·subst h; simp only [zG, List.length_singleton, Nat.pow_one]; omega
 ·rw [qj h]; simp only [List.length_reverse, List.length_map]; exact xp hb n
theorem zw {b : Nat} (hb : 2 ≤ b) {k n : Nat} (hk : 0 < k) (h : n < b ^ k) : (txl b n).length ≤ k := by
 by_cases h0 : n = 0
 ·subst h0; simp only [zG, List.length_singleton]; omega
 ·rw [qj h0]; simp only [List.length_reverse, List.length_map]; exact kX hb h
theorem kP {b : Nat} (hb : 2 ≤ b) (hb16 : b ≤ 16) {m n : Nat} (h : txl b m = txl b n) : m = n := by
 have key : ∀ m, ofd b (((txl b m).reverse).map fun c => if c.toNat < 58 then c.toNat - 48 else c.toNat - 87) = m := by
  intro m
  by_cases h0 : m = 0
  ·subst h0; simp [zG, ofd]
  ·rw [qj h0, List.reverse_reverse, List.map_map]
   have : (dg b m).map ((fun c : UInt8 => if c.toNat < 58 then c.toNat - 48 else c.toNat - 87) ∘ sg) = (dg b m).map id := by
    apply List.map_congr_left
    intro d hd
    have hd' := dg_lt hb m d hd
    simp only [Function.comp]
    rw [zO (by omega)]
    split <;> simp <;> omega
   rw [this, List.map_id, vp hb]
 rw [← key m, h, key]
theorem zZ (n : Nat) : 0 < (dec n).size := by
 unfold dec txt; rw [ze]; exact qz (by omega) n
theorem y9 (n k : Nat) (h : k < (txl 10 n).length) : ((txl 10 n).reverse)[k]'(by simpa using h) = sg (n / 10 ^ k % 10) := by
 by_cases h0 : n = 0
 ·subst h0
  have : k = 0 := by simp [zG] at h; omega
  subst this
  simp [zG, sg]
 ·have hl : k < (dg 10 n).length := by rw [qj h0] at h; simpa using h
  have e : (txl 10 n).reverse = (dg 10 n).map sg := by rw [qj h0, List.reverse_reverse]
  have g := Z0 (b := 10) (by omega) k n
  rw [List.getD_eq_getElem?_getD, List.getElem?_eq_getElem hl] at g
  simp only [e, List.getElem_map]
  rw [← g]; rfl
theorem vQ (n k : Nat) (h : (txl 10 n).length ≤ k) : n / 10 ^ k = 0 := by
 apply Nat.div_eq_of_lt
 exact Nat.lt_of_lt_of_le (vh (by omega) n) (Nat.pow_le_pow_right (by omega) h)
def trim : List UInt8 → List UInt8
 | [] => []
 | c :: r => if c = 48 ∧ r ≠ [] then trim r else c :: r
theorem qy (l : List Nat) (h : ∀ d ∈ l, d < 10) (hl : l ≠ []) : trim ((l.map sg).reverse) = txl 10 (ofd 10 l) := by
 have key : ∀ (n : Nat) (l : List Nat), l.length = n → (∀ d ∈ l, d < 10) → l ≠ [] → trim ((l.map sg).reverse) = txl 10 (ofd 10 l) := by
  intro n
  induction n with
  | zero => intro l hn _ hl; exact absurd (List.eq_nil_of_length_eq_zero hn) hl
  | succ n ih =>
   intro l hn hd hl
   have hdec := List.dropLast_concat_getLast hl
   generalize hm : l.dropLast = m at hdec
   generalize hx : l.getLast hl = x at hdec
   have hxl : x < 10 := hd x (by rw [← hdec]; simp)
   have hml : m.length = n := by rw [← hdec] at hn; simpa using hn
   have hmd : ∀ d ∈ m, d < 10 := fun d h => hd d (by rw [← hdec]; simp [h])
   rw [← hdec, List.map_append, List.reverse_append]
   simp only [List.map_cons, List.map_nil, List.reverse_cons, List.reverse_nil, List.nil_append, List.cons_append, trim]
   by_cases hx0 : x = 0
   ·subst hx0
    rw [vj]
    simp only [ofd, Nat.mul_zero, Nat.add_zero]
    by_cases hmn : m = []
    ·subst hmn; simp [ofd, zG, sg]
    ·rw [if_pos ⟨by simp [sg], by simpa using hmn⟩]
     exact ih m hml hmd hmn
   ·have hs : sg x ≠ 48 := by
     intro hc
     have := congrArg UInt8.toNat hc
     rw [zO (by omega), if_pos hxl] at this
     simp at this; omega
    rw [if_neg (fun hh => hs hh.1)]
    have hcan : can 10 (m ++ [x]) := ⟨fun d h => hd d (by rw [← hdec]; exact h), fun d h => by simp at h; omega⟩
    have hpos := qY (by omega) _ hcan (by simp)
    rw [qj (by omega), Z1 (by omega) _ hcan]
    simp
 exact key l.length l rfl h hl
theorem y5 (n : Nat) : trim (txl 10 n) = txl 10 n := by
 by_cases h0 : n = 0
 ·subst h0; simp [zG, trim]
 ·have := qy (dg 10 n) (dg_lt (by omega) n) (fun h => h0 ((kW (by omega)).1 h))
  rw [vp (by omega)] at this
  rwa [qj h0] at this ⊢
theorem qF (l : List UInt8) : (trim l).length ≤ l.length := by
 induction l with
 | nil => simp [trim]
 | cons c r ih => simp only [trim]; split <;> simp <;> omega
theorem xz (l : List UInt8) (k : Nat) (h : k + 1 < l.length) (hz : l[k]'(by omega) = 48) : trim (l.drop k) = trim (l.drop (k + 1)) := by
 rw [List.drop_eq_getElem_cons (by omega), hz]
 simp only [trim]
 rw [if_pos ⟨by trivial, by simp; omega⟩]
theorem vZ (l : List UInt8) (h : l.length ≤ 1 ∨ ∃ c r, l = c :: r ∧ c ≠ 48) : trim l = l := by
 rcases h with h | ⟨c, r, rfl, hc⟩
 ·match l, h with
  | [], _ => rfl
  | [c], _ => simp [trim]
 ·simp [trim, hc]
end Go.Proofs.YtnenoaenjaghhaaDoor
namespace Go.Proofs.YtnenoaenjaghhaaDoor
open Go.RowKit Nt
theorem zB {a b : ByteArray} (h : a = b) : Ending.returned (.string a) = .returned (.string b) := by rw [h]
theorem zQ {k : IntKind} {a b : Int} (h : a = b) : Ending.returned (.int k a) = .returned (.int k b) := by rw [h]
theorem zr {a b : Bool} (h : a = b) : Ending.returned (.bool a) = .returned (.bool b) := by rw [h]
def u8v (c : UInt8) : Value := .int .u8 c.toNat
def ints (l : List Nat) : List Value := l.map fun (d : Nat) => Value.int .i64 (d : Int)
theorem wi64 (x : Int) (h0 : -9223372036854775808 ≤ x) (h1 : x ≤ 9223372036854775807) : IntKind.i64.wrap x = x := by rw [IntKind.wrap_i64]; omega
theorem wu8 (x : Int) (h0 : 0 ≤ x) (h1 : x ≤ 255) : IntKind.u8.wrap x = x := by rw [IntKind.wrap_u8]; omega
theorem zt {n : Nat} {a w : World} (h : Below n a.drew w) : Below n a w := ⟨h.os, h.tape, h.output, h.size, h.block⟩
theorem zk {w w' : World} {base : Nat} {e : TypeId} {size : Nat} {v : Value} {n : Nat} {xs : List Value} (h : w.ownsRow base e size v n xs) (hb : Below w.heap.size w w') :
  w'.ownsRow base e size v n xs := by
 refine ⟨h.1, ?_⟩
 rcases h.2 with hn | ⟨g, cap, cur, rfl, hbg, hgg, rest⟩
 ·exact .inl hn
 ·exact .inr ⟨g, cap, cur, rfl, hbg, by rw [hb.block g (Array.getElem?_eq_some_iff.1 hgg).1]; exact hgg, rest⟩
theorem qe {w : World} {base base' : Nat} {e : TypeId} {size : Nat} {v : Value} {n : Nat} {xs : List Value} (h : w.ownsRow base e size v n xs) (hb : base' ≤ base) :
  w.ownsRow base' e size v n xs := by
 refine ⟨h.1, ?_⟩
 rcases h.2 with hn | ⟨g, cap, cur, rfl, hbg, rest⟩
 ·exact .inl hn
 ·exact .inr ⟨g, cap, cur, rfl, by omega, rest⟩
theorem zy {B : Nat} {w w' : World} {v : Value} {e : TypeId} {size n : Nat} {xs : List Value} {a : World} (h : Below B a w) (own : w.ownsRow B e size v n xs) (hg : w.grownBy w' v.ownBlock) (hB : B ≤ w.heap.size) : Below B a w' :=
 h.grown hg hB (fun k hk => (own.lt k hk).1)
theorem qJ {b d : Nat} {xs : List Nat} (h : Hid (∀ x ∈ xs, x < b)) (hd : d < b) : Hid (∀ x ∈ xs ++ [d], x < b) := by
 intro x hx
 rcases List.mem_append.1 hx with h1 | h1
 ·exact za h x h1
 ·simp at h1; omega
theorem qg {P : Program} {w : World} {src dst e : TypeId} {base sz : Nat} {v : Value} {n : Nat} {l : List UInt8}
  (hs : P.underlying src = some (.slice e)) (he : P.underlying e = some (.int .u8)) (hd : P.underlying dst = some .string)
  (h : w.ownsRow base sz 1 v n (l.map u8v)) : (convert src dst v).run P w = .ok (.string (B l)) w := by
 have hl : l.length = n := by simpa using h.1
 have fold : ∀ (ns : List UInt8) (s : ByteArray), (ns.map (fun c => (c.toNat : Int))).foldl (fun r n => r.push (UInt8.ofNat n.toNat)) s = s ++ B ns := by
  intro ns
  induction ns with
  | nil => intro s; apply ByteArray.ext; simp [B, ByteArray.data_append]
  | cons c r ih =>
   intro s
   simp only [List.map_cons, List.foldl_cons, ih]
   apply ByteArray.ext
   simp [B, ByteArray.data_append, ByteArray.data_push]
 have fold0 : (l.map (fun c => (c.toNat : Int))).foldl (fun r n => r.push (UInt8.ofNat n.toNat)) ByteArray.empty = B l := by
  rw [fold]; apply ByteArray.ext; simp
 rcases h.2 with ⟨rfl, hn⟩ | ⟨g, cap, cur, rfl, _, hg, hnc, _, hcs, htake⟩
 ·have : l = [] := List.eq_nil_of_length_eq_zero (by omega)
  subst this
  rw [run_convert_bytes_string w src dst e none 0 0 hs he hd]
  rfl
 ·rw [run_convert_bytes_string w src dst e _ _ _ hs he hd]
  have hc := h.cells (g := g) rfl
  have hload := run_loadCells_list (P := P) (w := w) ⟨g, 0, none⟩ (l.map u8v) hc
  have e1 : (l.map u8v) = (l.map (fun c => (c.toNat : Int))).map (Value.int .u8) := by simp [u8v, Function.comp]
  rw [List.length_map, hl] at hload
  rw [e1] at hload
  have := run_bytesToString (P := P) w ⟨g, 0, none⟩ n cap (l.map (fun c => (c.toNat : Int))) hload
  rw [this, fold0]
theorem qH {w : World} {base : Nat} {e : TypeId} {g n cap : Nat} {xs : List Value} (h : w.ownsRow base e 1 (.slice (some ⟨g, 0, none⟩) n cap) n xs) (j : Nat) (hj : j < n) :
  ∃ v, w.cell? ⟨g, j, none⟩ = some v := by
 have hx : xs.length = n := by simpa using h.1
 exact ⟨xs[j], by rw [h.cellAt j (by omega)]; exact List.getElem?_eq_getElem (by omega)⟩
theorem kD {d : Nat} (h : d < 10) : u8v (sg d) = .int .u8 (48 + (d : Int)) := by
 unfold u8v; rw [zO (by omega), if_pos h]; simp
theorem qK (l : List Nat) (d : Nat) : ints l ++ [.int .i64 (d : Int)] = ints (l ++ [d]) := by simp [ints]
abbrev Nd := Int × List UInt8 × List Int
abbrev Dt := List Nd × List Int
def IntsAt (w : World) (v : Value) (xs : List Int) : Prop :=
 ∃ a cap, v = .slice a xs.length cap ∧ xs.length ≤ cap ∧ cap ≤ maxLen ∧ (0 < xs.length → ∃ b off, a = some ⟨b, off, none⟩ ∧ b < w.heap.size ∧ ∀ j x, xs[j]? = some x → w.cell? ⟨b, off + j, none⟩ = some (.int .i64 x))
theorem IntsAt.below {w w' : World} {v : Value} {xs : List Int} (h : IntsAt w v xs) (k : Below w.heap.size w w') : IntsAt w' v xs := by
 obtain ⟨a, cap, rfl, h1, h2, h3⟩ := h
 refine ⟨a, cap, rfl, h1, h2, fun h0 => ?_⟩
 obtain ⟨b, off, rfl, hb, hc⟩ := h3 h0
 exact ⟨b, off, rfl, Nat.lt_of_lt_of_le hb k.size, fun j x hx => by rw [k.cell (p := ⟨b, off + j, none⟩) hb]; exact hc j x hx⟩
def NodesAt (w : World) (v : Value) (ns : List Nd) : Prop :=
 ∃ a cap, v = .slice a ns.length cap ∧ ns.length ≤ cap ∧ cap ≤ maxLen ∧ (0 < ns.length → ∃ b off, a = some ⟨b, off, none⟩ ∧ b < w.heap.size ∧ ∀ j nd, ns[j]? = some nd →
  w.cell? ⟨b, off + j * 3, none⟩ = some (.int .i64 nd.1) ∧ w.cell? ⟨b, off + j * 3 + 1, none⟩ = some (.string (B nd.2.1)) ∧ nd.2.1.length ≤ maxLen ∧ ∃ kv, w.cell? ⟨b, off + j * 3 + 2, none⟩ = some kv ∧ IntsAt w kv nd.2.2)
theorem NodesAt.below {w w' : World} {v : Value} {ns : List Nd} (h : NodesAt w v ns) (k : Below w.heap.size w w') : NodesAt w' v ns := by
 obtain ⟨a, cap, rfl, h1, h2, h3⟩ := h
 refine ⟨a, cap, rfl, h1, h2, fun h0 => ?_⟩
 obtain ⟨b, off, rfl, hb, hc⟩ := h3 h0
 refine ⟨b, off, rfl, Nat.lt_of_lt_of_le hb k.size, fun j nd hx => ?_⟩
 obtain ⟨c0, c1, hl, kv, c2, hk⟩ := hc j nd hx
 exact ⟨by rw [k.cell (p := ⟨b, off + j * 3, none⟩) hb]; exact c0, by rw [k.cell (p := ⟨b, off + j * 3 + 1, none⟩) hb]; exact c1, hl, kv, by rw [k.cell (p := ⟨b, off + j * 3 + 2, none⟩) hb]; exact c2, hk.below k⟩
def DataAt (w : World) (v : Value) (d : Dt) : Prop := ∃ nv rv, v = .agg #[nv, rv] ∧ NodesAt w nv d.1 ∧ IntsAt w rv d.2
theorem DataAt.below {w w' : World} {v : Value} {d : Dt} (h : DataAt w v d) (k : Below w.heap.size w w') : DataAt w' v d := by
 obtain ⟨nv, rv, rfl, h1, h2⟩ := h; exact ⟨nv, rv, rfl, h1.below k, h2.below k⟩
theorem zb {w w3 : World} {cs : Array Value} {T : TypeId} (h : Below (w.heap.size + 1) (w.alloc (.cells cs T)) w3) (j : Nat) : w3.cell? ⟨w.heap.size, j, none⟩ = cs[j]? := by
 rw [h.cell (p := ⟨w.heap.size, j, none⟩) (Nat.lt_succ_self _)]
 exact World.cell?_alloc_at cs T _ j rfl
theorem zc {w w3 : World} {cs : Array Value} {T : TypeId} (h : Below (w.heap.size + 1) (w.alloc (.cells cs T)) w3) (j : Nat) : w3.frozen? ⟨w.heap.size, j, none⟩ = false := by
 rw [h.frozen (p := ⟨w.heap.size, j, none⟩) (Nat.lt_succ_self _)]
 exact World.frozen?_alloc_at cs T _ j rfl
theorem zj {w w3 : World} {o : Obj} (h : Below (w.heap.size + 1) (w.alloc o) w3) : Below w.heap.size w w3 :=
 ((Below.refl _ _).alloc (Nat.le_refl _) _).trans (h.mono (by omega))
theorem zf {w w1 : World} {o : Obj} (h : Below (w.alloc o).heap.size (w.alloc o) w1) : Below (w.heap.size + 1) (w.alloc o) w1 := by simpa using h
theorem zp {B : Nat} {a b c : World} (h : Below B a b) (hB : B ≤ b.heap.size) (k : Below b.heap.size b c) : Below B a c ∧ B ≤ c.heap.size :=
 ⟨h.trans (k.mono hB), Nat.le_trans hB k.size⟩
theorem yQ {w : World} {base : Nat} {e : TypeId} {g n cap : Nat} {xs : List Value} (h : w.ownsRow base e 1 (.slice (some ⟨g, 0, none⟩) n cap) n xs) (k : Nat) (hk : k ≤ n) :
  w.ownsRow base e 1 (.slice (some ⟨g, 0, none⟩) k cap) k (xs.take k) := by
 have hx : xs.length = n := by simpa using h.1
 refine ⟨by simp; omega, ?_⟩
 rcases h.2 with ⟨h', _⟩ | ⟨g', cap', cur, h', hb, hg, hnc, hcm, hcs, htake⟩
 ·simp at h'
 ·simp only [Value.slice.injEq, Option.some.injEq, Addr.mk.injEq, and_true, true_and] at h'
  obtain ⟨rfl, rfl⟩ := h'
  refine .inr ⟨g, cap, cur, rfl, hb, hg, by omega, hcm, hcs, ?_⟩
  rw [← htake, List.take_take]; simp; omega
theorem xt {w : World} {base : Nat} {e : TypeId} {v : Value} {n : Nat} {xs : List Value} (h : w.ownsRow base e 1 v n xs) :
  (v = .slice none 0 0 ∧ n = 0 ∧ xs = []) ∨ ∃ g cap, v = .slice (some ⟨g, 0, none⟩) n cap ∧ n ≤ cap ∧ base ≤ g ∧ g < w.heap.size := by
 rcases h.2 with ⟨rfl, hn⟩ | ⟨g, cap, cur, rfl, hb, hg, hnc, _⟩
 ·left
  exact ⟨rfl, hn, List.eq_nil_of_length_eq_zero (by have := h.1; omega)⟩
 ·right
  exact ⟨g, cap, rfl, hnc, hb, (Array.getElem?_eq_some_iff.1 hg).1⟩
theorem zH {w : World} {base : Nat} {e : TypeId} {v : Value} {n : Nat} {xs : List Value} (h : w.ownsRow base e 1 v n xs) : ∃ p cap, v = .slice p n cap := by
 rcases xt h with ⟨rfl, rfl, _⟩ | ⟨g, cap, rfl, _⟩
 ·exact ⟨_, _, rfl⟩
 ·exact ⟨_, _, rfl⟩
theorem yr {p : Nat → Prop} {l : List Nat} {j v : Nat} (h : ∀ d ∈ l, p d) (hv : p v) : ∀ d ∈ l.set j v, p d := by
 intro d hd
 rcases List.mem_or_eq_of_mem_set hd with h1 | h1
 ·exact h d h1
 ·rw [h1]; exact hv
def AtC2 (w : World) (b : Nat) (x y : Value) (T : TypeId) : Prop := w.heap[b]? = some (.cells #[x, y] T (0, 0))
theorem AtC2.lt {w : World} {b : Nat} {x y : Value} {T : TypeId} (h : AtC2 w b x y T) : b < w.heap.size := (Array.getElem?_eq_some_iff.1 h).1
theorem AtC2.new (w : World) (x y : Value) (T : TypeId) : AtC2 (w.alloc (.cells #[x, y] T)) w.heap.size x y T := by
 show (w.heap.push _)[w.heap.size]? = _; rw [Array.getElem?_push, if_pos rfl]
theorem AtC2.below {w w' : World} {b : Nat} {x y : Value} {T : TypeId} (h : AtC2 w b x y T) (k : Below w.heap.size w w') : AtC2 w' b x y T := (k.block b h.lt).trans h
theorem AtC2.n0 {w : World} {b : Nat} {x y : Value} {T : TypeId} (h : AtC2 w b x y T) : w.cell? ⟨b, 0, none⟩ = some x := by unfold AtC2 at h; simp [World.cell?, h]
theorem AtC2.n1 {w : World} {b : Nat} {x y : Value} {T : TypeId} (h : AtC2 w b x y T) : w.cell? ⟨b, 1, none⟩ = some y := by unfold AtC2 at h; simp [World.cell?, h]
theorem AtC2.f {w : World} {b : Nat} {x y : Value} {T : TypeId} (h : AtC2 w b x y T) (j : Nat) : w.frozen? ⟨b, j, none⟩ = false := by unfold AtC2 at h; simp [World.frozen?, h]
theorem AtC2.far {w : World} {b : Nat} {x y : Value} {T : TypeId} (h : AtC2 w b x y T) {a : Addr} (ha : a.block ≠ b) (u : Value) : AtC2 (w.setCell a u) b x y T := by
 unfold AtC2
 obtain ⟨g, o, sp⟩ := a
 rw [Below.heap_setCell _ _ _ _ (Ne.symm ha)]
 exact h
theorem AtC2.st0 {w : World} {b : Nat} {x y : Value} {T : TypeId} (h : AtC2 w b x y T) (u : Value) : AtC2 (w.setCell ⟨b, 0, none⟩ u) b u y T := by
 show (w.heap.modify b _)[b]? = _
 rw [Array.getElem?_modify, if_pos rfl, show w.heap[b]? = _ from h]; rfl
theorem AtC2.st1 {w : World} {b : Nat} {x y : Value} {T : TypeId} (h : AtC2 w b x y T) (u : Value) : AtC2 (w.setCell ⟨b, 1, none⟩ u) b x u T := by
 show (w.heap.modify b _)[b]? = _
 rw [Array.getElem?_modify, if_pos rfl, show w.heap[b]? = _ from h]; rfl
theorem zi {a w w' : World} (h : Below a.heap.size a w) (hb : Below w.heap.size w w') : Below a.heap.size a w' := h.trans (hb.mono h.size)
theorem zh {a w : World} (h : Below a.heap.size a w) (o : Obj) : Below a.heap.size a (w.alloc o) := h.alloc h.size o
structure Kept (S : Nat → Prop) (w w' : World) : Prop where
 os : w'.os = w.os
 tape : w'.tape = w.tape
 output : w'.output = w.output
 size : w.heap.size ≤ w'.heap.size
 block : ∀ b, b < w.heap.size → ¬ S b → w'.heap[b]? = w.heap[b]?
theorem Kept.trans {S : Nat → Prop} {w w' w'' : World} (h : Kept S w w') (k : Kept S w' w'') : Kept S w w'' :=
 ⟨k.os.trans h.os, k.tape.trans h.tape, k.output.trans h.output, Nat.le_trans h.size k.size, fun b hb ho => (k.block b (Nat.lt_of_lt_of_le hb h.size) ho).trans (h.block b hb ho)⟩
theorem Kept.of_below {S : Nat → Prop} {w w' : World} (h : Below w.heap.size w w') : Kept S w w' := ⟨h.os, h.tape, h.output, h.size, fun b hb _ => h.block b hb⟩
theorem Kept.set {S : Nat → Prop} {w : World} {a : Addr} (h : S a.block) (u : Value) : Kept S w (w.setCell a u) :=
 ⟨rfl, rfl, rfl, by simp, fun b _ ho => heap_setCell_other w a b u (fun e => ho (by rw [e]; exact h))⟩
theorem Kept.below {S : Nat → Prop} {base : Nat} {w w' : World} (h : Kept S w w') (hb : base ≤ w.heap.size) (hs : ∀ b, S b → base ≤ b) : Below base w w' :=
 ⟨h.os, h.tape, h.output, h.size, fun b hlt => h.block b (by omega) (fun e => by have := hs b e; omega)⟩
theorem AtC2.kept {S : Nat → Prop} {w w' : World} {b : Nat} {x y : Value} {T : TypeId} (h : AtC2 w b x y T) (k : Kept S w w') (hb : ¬ S b) : AtC2 w' b x y T := (k.block b h.lt hb).trans h
theorem AtC2.alloc {w : World} {b : Nat} {x y : Value} {T : TypeId} (h : AtC2 w b x y T) (o : Obj) : AtC2 (w.alloc o) b x y T := h.below ((Below.refl _ _).alloc (Nat.le_refl _) o)
theorem zV (w : World) (n : Nat) : Below w.heap.size w (w.drewN n) := by
 induction n with
 | zero => exact Below.refl _ _
 | succ n ih => exact ih.drew
def NdAt (w : World) (v : Value) (nd : Nd) : Prop := ∃ kv, v = .agg #[.int .i64 nd.1, .string (B nd.2.1), kv] ∧ nd.2.1.length ≤ maxLen ∧ IntsAt w kv nd.2.2
def jb (ns : List Nd) : Prop := ∀ nd ∈ ns, nd.2.1.length ≤ 1048576 ∧ nd.2.2.length ≤ 1048576
theorem NodesAt.node {w : World} {b off n cap : Nat} {ns : List Nd} (h : NodesAt w (.slice (some ⟨b, off, none⟩) n cap) ns) {k : Nat} {nd : Nd} (hk : ns[k]? = some nd) :
  ∃ kv, w.cell? ⟨b, off + k * 3, none⟩ = some (.int .i64 nd.1) ∧ w.cell? ⟨b, off + k * 3 + 1, none⟩ = some (.string (B nd.2.1)) ∧ w.cell? ⟨b, off + k * 3 + 2, none⟩ = some kv ∧ nd.2.1.length ≤ maxLen ∧ IntsAt w kv nd.2.2 := by
 obtain ⟨a, c, hv, h1, h2, h3⟩ := h
 have h0 : 0 < ns.length := by
  have := (List.getElem?_eq_some_iff.1 hk).1; omega
 obtain ⟨b', off', rfl, hb, hc⟩ := h3 h0
 injection hv with e1 e2 e3
 injection e1 with e1
 injection e1 with e4 e5
 subst e4 e5
 obtain ⟨c0, c1, hl, kv, c2, hk'⟩ := hc k nd hk
 exact ⟨kv, c0, c1, c2, hl, hk'⟩
theorem NodesAt.form {w : World} {v : Value} {ns : List Nd} (h : NodesAt w v ns) (h0 : 0 < ns.length) : ∃ b off cap, v = .slice (some ⟨b, off, none⟩) ns.length cap ∧ ns.length ≤ cap ∧ cap ≤ maxLen ∧ b < w.heap.size := by
 obtain ⟨a, c, hv, h1, h2, h3⟩ := h
 obtain ⟨b', off', rfl, hb, hc⟩ := h3 h0
 exact ⟨b', off', c, hv, h1, h2, hb⟩
theorem zI {B : Nat} {a w : World} (h : Below B a w) (n : Nat) : Below B a (w.drewN n) := ⟨h.os, h.tape, h.output, h.size, h.block⟩
theorem IntsAt.form {w : World} {v : Value} {xs : List Int} (h : IntsAt w v xs) : ∃ a cap, v = .slice a xs.length cap ∧ xs.length ≤ cap ∧ cap ≤ maxLen := by
 obtain ⟨a, cap, hv, h1, h2, _⟩ := h; exact ⟨a, cap, hv, h1, h2⟩
theorem IntsAt.cell {w : World} {a : Option Addr} {n cap : Nat} {xs : List Int} (h : IntsAt w (.slice a n cap) xs) {k : Nat} {x : Int} (hk : xs[k]? = some x) : ∃ b off, a = some ⟨b, off, none⟩ ∧ b < w.heap.size ∧ w.cell? ⟨b, off + k, none⟩ = some (.int .i64 x) := by
 obtain ⟨a', c, hv, h1, h2, h3⟩ := h
 have h0 : 0 < xs.length := by
  have := (List.getElem?_eq_some_iff.1 hk).1; omega
 obtain ⟨b, off, rfl, hb, hc⟩ := h3 h0
 injection hv with e1 e2 e3
 subst e1
 exact ⟨b, off, rfl, hb, hc k x hk⟩
def AtC3 (w : World) (b : Nat) (x y z : Value) (T : TypeId) : Prop := w.heap[b]? = some (.cells #[x, y, z] T (0, 0))
theorem AtC3.lt {w : World} {b : Nat} {x y z : Value} {T : TypeId} (h : AtC3 w b x y z T) : b < w.heap.size := (Array.getElem?_eq_some_iff.1 h).1
theorem AtC3.new (w : World) (x y z : Value) (T : TypeId) : AtC3 (w.alloc (.cells #[x, y, z] T)) w.heap.size x y z T := by
 show (w.heap.push _)[w.heap.size]? = _; rw [Array.getElem?_push, if_pos rfl]
theorem AtC3.below {w w' : World} {b : Nat} {x y z : Value} {T : TypeId} (h : AtC3 w b x y z T) (k : Below w.heap.size w w') : AtC3 w' b x y z T := (k.block b h.lt).trans h
theorem AtC3.n0 {w : World} {b : Nat} {x y z : Value} {T : TypeId} (h : AtC3 w b x y z T) : w.cell? ⟨b, 0, none⟩ = some x := by unfold AtC3 at h; simp [World.cell?, h]
theorem AtC3.n1 {w : World} {b : Nat} {x y z : Value} {T : TypeId} (h : AtC3 w b x y z T) : w.cell? ⟨b, 1, none⟩ = some y := by unfold AtC3 at h; simp [World.cell?, h]
theorem AtC3.n2 {w : World} {b : Nat} {x y z : Value} {T : TypeId} (h : AtC3 w b x y z T) : w.cell? ⟨b, 2, none⟩ = some z := by unfold AtC3 at h; simp [World.cell?, h]
theorem AtC3.f {w : World} {b : Nat} {x y z : Value} {T : TypeId} (h : AtC3 w b x y z T) (j : Nat) : w.frozen? ⟨b, j, none⟩ = false := by unfold AtC3 at h; simp [World.frozen?, h]
theorem NodesAt.form0 {w : World} {v : Value} {ns : List Nd} (h : NodesAt w v ns) : ∃ a cap, v = .slice a ns.length cap ∧ ns.length ≤ cap ∧ cap ≤ maxLen := by
 obtain ⟨a, cap, hv, h1, h2, _⟩ := h; exact ⟨a, cap, hv, h1, h2⟩
theorem NodesAt.addr {w : World} {a : Option Addr} {n cap : Nat} {ns : List Nd} (h : NodesAt w (.slice a n cap) ns) (h0 : 0 < ns.length) : ∃ b off, a = some ⟨b, off, none⟩ ∧ b < w.heap.size := by
 obtain ⟨a', c, hv, h1, h2, h3⟩ := h
 obtain ⟨b, off, rfl, hb, hc⟩ := h3 h0
 injection hv with e1 e2 e3
 subst e1
 exact ⟨b, off, rfl, hb⟩
theorem yz (l : List UInt8) (k : Nat) (hk : k < l.length) (h : k + 1 < l.length → l[k] ≠ 48) : trim (l.drop k) = l.drop k := by
 apply vZ
 by_cases hl : k + 1 < l.length
 ·right
  exact ⟨l[k], l.drop (k + 1), List.drop_eq_getElem_cons (by omega), h hl⟩
 ·left; simp; omega
theorem qX (l : List UInt8) (w : World) (hs : l.length ≤ 1000000000) :
  Calls Tryd.prog 74 #[.string (B l)] w fun e w' => e = .returned (.string (B (trim l))) ∧ w' = w := by
 have hsz : (B l).size ≤ 1000000000 := by rw [ze]; exact hs
 go_enter Tryd.func74, Tryd.ntmps74
 go_wp2
 go_loop [3] (fun i => ∃ k : Nat, k ≤ l.length ∧ (k = 0 ∨ k < l.length) ∧ i = .int .i64 k ∧ Hid (trim l = trim (l.drop k))) (fun i => l.length - (intOf i).toNat)
 case atStart => exact ⟨0, Nat.zero_le _, .inl rfl, rfl, rfl⟩
 case round =>
  obtain ⟨k, hk, hk', rfl, ht⟩ := hrel
  have fin : (k + 1 < l.length → ∀ h, l[k]'h ≠ 48) → (B l).extract k (B l).size = B (trim l) := by
   intro h
   rw [zK, ze, List.take_length, ht.out]
   by_cases h0 : k < l.length
   ·rw [yz l k h0 (fun hh => h hh h0)]
   ·have : l = [] := by apply List.eq_nil_of_length_eq_zero; omega
    subst this; simp [trim]
  have Fin := hide fin
  clear fin
  by_cases hlt : k + 1 < l.length
  ·have hlt2 : k + 1 < (B l).size := by rw [ze]; exact hlt
   go_wp2
   ·have hz : l[k] = 48 := by
     have h := ‹(((B l)[k].toNat : Int) == 48) = true›
     rw [B_get] at h
     apply UInt8.toNat_inj.1
     have := beq_iff_eq.1 h
     simp only [UInt8.toNat_ofNat]
     omega
    go_round
    case rel => exact ⟨k + 1, by omega, by omega, by go_num, by show trim l = _; rw [ht.out]; exact xz l k (by omega) hz⟩
    case measure => simp [intOf]; omega
   ·have hz : ∀ h : k < l.length, l[k] ≠ 48 := by
     have h := beq_eq_false_iff_ne.1 ‹(((B l)[k].toNat : Int) == 48) = false›
     rw [B_get] at h
     intro hh hc
     rw [hc] at h
     exact h rfl
    go_ret
    exact ⟨zB (za Fin (fun _ h => hz h)), rfl⟩
  ·have hlt2 : ¬ k + 1 < (B l).size := by rw [ze]; exact hlt
   have hkk : k ≤ (B l).size := by rw [ze]; exact hk
   go_wp2
   go_ret
   exact ⟨zB (za Fin (fun h => absurd h hlt)), rfl⟩
theorem Z2 (n k : Nat) (w : World) (hs : (dec n).size ≤ 1000000000) (hk : k ≤ 1000000000) :
  Calls Tryd.prog 87 #[.string (dec n), .int .i64 k] w fun e w' => e = .returned (.int .i64 ((n / 10 ^ k % 10 : Nat) : Int)) ∧ w' = w := by
 by_cases h : k < (dec n).size
 ·have hb : (n / 10 ^ k % 10) < 10 := Nat.mod_lt _ (by omega)
  have hd : (dec n)[(dec n).size - 1 - k]'(by omega) = sg (n / 10 ^ k % 10) := by
   have h1 : k < (txl 10 n).length := by simpa [dec, txt, ze] using h
   have := y9 n k h1
   rw [List.getElem_reverse] at this
   rw [← this]
   simp only [dec, txt, B_get, ze]
  have hn : ((dec n)[(dec n).size - 1 - k]'(by omega)).toNat = 48 + n / 10 ^ k % 10 := by rw [hd, zO (by omega), if_pos hb]
  generalize hg : n / 10 ^ k % 10 = d at *
  have Hn := hide hn
  clear hn hd hg
  go_enter Tryd.func87, Tryd.ntmps87
  go_wp2
  go_ret
  exact ⟨zQ (by rw [za Hn]; omega), rfl⟩
 ·have hz : n / 10 ^ k % 10 = 0 := by
   rw [vQ n k (by simpa [dec, txt, ze] using h)]
  rw [hz]
  go_enter Tryd.func87, Tryd.ntmps87
  go_wp2
  go_ret
  exact ⟨rfl, rfl⟩
theorem qG (n k d : Nat) (w : World) (hd : n / 10 ^ k % 10 = d) (hs : (dec n).size ≤ 1000000000) (hk : k ≤ 1000000000) :
  Calls Tryd.prog 87 #[.string (dec n), .int .i64 k] w fun e w' => e = .returned (.int .i64 (d : Int)) ∧ w' = w := by
 subst hd; exact Z2 n k w hs hk
theorem Tryd.infoInt : (Tryd.prog.info? 3).map (fun i => (i.zero, i.size, i.bytes)) = some (some (.int .i64 0), 1, 8) := by kernel_rfl
theorem Tryd.infoByte : (Tryd.prog.info? 5).map (fun i => (i.zero, i.size, i.bytes)) = some (some (.int .u8 0), 1, 1) := by kernel_rfl
def zN (xs : List Nat) (n k : Nat) : List UInt8 := List.replicate (n - k) 0 ++ ((xs.take k).map sg).reverse
theorem vO (xs : List Nat) (k : Nat) (h : k < xs.length) :
  (zN xs xs.length k).set (xs.length - 1 - k) (sg xs[k]) = zN xs xs.length (k + 1) := by
 unfold zN
 have e : xs.length - k = (xs.length - 1 - k) + 1 := by omega
 rw [e, List.replicate_succ', List.append_assoc, List.set_append_right _ _ (by simp)]
 have e2 : xs.length - (k + 1) = xs.length - 1 - k := by omega
 rw [e2, List.length_replicate, Nat.sub_self, List.take_succ_eq_append_getElem h, List.map_append, List.reverse_append]
 simp
theorem vN (xs : List Nat) : zN xs xs.length xs.length = (xs.map sg).reverse := by simp [zN]
theorem vE (xs : List Nat) : zN xs xs.length 0 = List.replicate xs.length 0 := by simp [zN]
theorem Zg (xs : List Nat) (hd : ∀ d ∈ xs, d < 10) (hx : xs ≠ []) : trim (zN xs xs.length xs.length) = txl 10 (ofd 10 xs) := by
 rw [vN]; exact qy xs hd hx
theorem vf (xs : List Nat) (v : Value) (w : World) (hd : ∀ d ∈ xs, d < 10) (hs : xs.length ≤ 1000000000) (h : w.ownsRow 0 3 1 v xs.length (ints xs)) :
  Calls Tryd.prog 88 #[v] w fun e w' => e = .returned (.string (dec (ofd 10 xs))) ∧ Below w.heap.size w w' := by
 obtain ⟨i0, hi, hz0, hz1, hz2⟩ := info_parts Tryd.infoByte
 rcases h.2 with ⟨rfl, hn⟩ | ⟨g, cap, cur, rfl, hbg, hgg, hnc, hcm, hcs, htake⟩
 ·have hx : xs = [] := List.eq_nil_of_length_eq_zero hn
  subst hx
  clear h hs hd hn
  go_enter Tryd.func88, Tryd.ntmps88
  go_wp2_with (refine wpList_make_full _ rfl (.tmp 6) (.tmp 6) 22 rfl w.heap.size 5 i0 (.int .u8 0) 1 Tryd.underlying22 hi hz0 hz1 .i64 .i64 0 0 0 rfl rfl rfl rfl (by rw [hz2]; omega) (by decide) (Nat.le_refl _) ?_; intro w1 hown1 hg1)
  have hb := (Below.refl w.heap.size w).grown hg1 (Nat.le_refl _) (fun _ h => by cases h)
  clear hown1 hg1
  refine wp_loop_rounds 1 ?_; rw [rounds_succ]
  go_wp2
  go_ret
  exact ⟨rfl, hb⟩
 ·clear htake hcs hcm hgg hbg
  have Hd := hide hd
  clear hd
  go_enter Tryd.func88, Tryd.ntmps88
  go_wp2_with (refine wpList_make_full _ rfl (.tmp 6) (.tmp 6) 22 rfl w.heap.size 5 i0 (.int .u8 0) 1 Tryd.underlying22 hi hz0 hz1 .i64 .i64 xs.length xs.length xs.length rfl rfl rfl rfl (by rw [hz2]; omega) (by unfold maxLen; omega) (Nat.le_refl _) ?_; intro w1 hown1 hg1)
  go_loopw [4] (fun i wr => ∃ k : Nat, k ≤ xs.length ∧ i = .int .i64 k ∧ wr.ownsRow w.heap.size 5 1 (.slice (some ⟨w.heap.size, 0, none⟩) xs.length xs.length) xs.length ((zN xs xs.length k).map u8v) ∧ Below w.heap.size w wr)
   (fun i _ => xs.length - (intOf i).toNat)
  case atStart =>
   refine ⟨0, Nat.zero_le _, rfl, ?_, (Below.refl _ _).grown hg1 (Nat.le_refl _) (fun _ h => by cases h)⟩
   rw [vE]
   simpa [Value.cells, toList_madeCells_one, u8v] using hown1
  case round =>
   obtain ⟨k, hk, rfl, hown, hb⟩ := hrel
   by_cases hlt : k < xs.length
   ·have hc1 : wr.cell? ⟨g, k, none⟩ = some (.int .i64 (xs[k] : Nat)) := by
     rw [(zk h hb).cellAt k (by omega)]; simp [ints, hlt]
    have hf := hown.frozenAt (xs.length - 1 - k)
    obtain ⟨v0, hv0⟩ := qH hown (xs.length - 1 - k) (by omega)
    have hst := hown.stored (xs.length - 1 - k) (u8v (sg xs[k]))
    have hdk : xs[k] < 10 := za Hd _ (List.getElem_mem hlt)
    rw [← List.map_set, vO xs k hlt, kD hdk] at hst
    have Hst := hide hst
    clear hst
    go_wp2
    go_roundw
    case rel => exact ⟨k + 1, by omega, by go_num, (za Hst).1, hb.setCell (by simp) _⟩
    case measure => simp [intOf]; omega
   ·have hkn : k = xs.length := by omega
    subst hkn
    by_cases hx : xs = []
    ·subst hx
     go_wp2
     go_ret
     exact ⟨rfl, hb⟩
    ·have hx0 : ((xs.length : Int) == 0) = false := by
      have : xs.length ≠ 0 := fun h => hx (List.eq_nil_of_length_eq_zero h)
      rw [beq_eq_false_iff_ne]; omega
     have hconv := qg (dst := 9) Tryd.underlying22 Tryd.underlying5 Tryd.underlying9 hown
     have Fin := hide (Zg xs (za Hd) hx)
     go_wp2_with (go_at_call 74; refine (qX _ _ (by simp [zN]; omega)).mono ?_; rintro e w' ⟨rfl, rfl⟩)
     go_ret
     exact ⟨zB (by rw [za Fin]; rfl), hb⟩
theorem zm (n : Nat) : (dec n).size = (txl 10 n).length := by simp [dec, txt, ze]
theorem zT (n : Nat) : n < 10 ^ (dec n).size := by rw [zm]; exact vh (by omega) n
theorem ZO {a b X l : Nat} (hba : b ≤ a) (hX : X < 10 ^ (dec a).size) (h : X + b % 10 ^ (dec a).size = a % 10 ^ (dec a).size + l * 10 ^ (dec a).size) : X = a - b := by
 have ha := zT a
 rw [Nat.mod_eq_of_lt ha, Nat.mod_eq_of_lt (by omega)] at h
 generalize 10 ^ (dec a).size = p at *
 have : l = 0 := by
  rcases Nat.eq_zero_or_pos l with h0 | h0
  ·exact h0
  ·have := Nat.mul_le_mul_right p h0
   omega
 subst this; omega
theorem Zw (a b : Nat) (w : World) (hba : b ≤ a) (hs : (dec a).size ≤ 100000) :
  Calls Tryd.prog 82 #[.string (dec a), .string (dec b)] w fun e w' => e = .returned (.string (dec (a - b))) ∧ Below w.heap.size w w' := by
 obtain ⟨i0, hi, hz0, hz1, hz2⟩ := info_parts Tryd.infoInt
 have hbs : (dec b).size ≤ 1000000000 := by
  have := zw (b := 10) (by omega) (zZ a) (Nat.lt_of_le_of_lt hba (zT a))
  rw [zm b]; omega
 have Hba := hide hba
 clear hba
 go_enter Tryd.func82, Tryd.ntmps82
 go_wp2
 go_loopw [5, 6, 7] (fun v l i wr => ∃ (k c : Nat) (xs : List Nat), k ≤ (dec a).size ∧ i = .int .i64 k ∧ l = .int .i64 c ∧ c ≤ 1 ∧ xs.length = k ∧ wr.ownsRow w.heap.size 3 1 v k (ints xs) ∧ Below w.heap.size w wr ∧
   Hid (∀ d ∈ xs, d < 10) ∧ Hid (ofd 10 xs + b % 10 ^ k = a % 10 ^ k + c * 10 ^ k))
  (fun _ _ i _ => (dec a).size - (intOf i).toNat)
 case atStart =>
  exact ⟨0, 0, [], Nat.zero_le _, rfl, rfl, by omega, rfl, World.ownsRow_made w #[] 0 (Nat.le_refl _) (by decide) (by simp), (Below.refl _ _).alloc (Nat.le_refl _) _, hide (by simp), hide (by simp [ofd, Nat.mod_one])⟩
 case round =>
  obtain ⟨k, c, xs, hk, rfl, rfl, hc, hxk, hown, hb, hdg, hval⟩ := hrel
  by_cases hlt : k < (dec a).size
  ·have hak : a / 10 ^ k % 10 < 10 := Nat.mod_lt _ (by omega)
   have hbk : b / 10 ^ k % 10 < 10 := Nat.mod_lt _ (by omega)
   generalize hga : a / 10 ^ k % 10 = ak at *
   generalize hgb : b / 10 ^ k % 10 = bk at *
   have Ha := hide hga
   have Hb := hide hgb
   clear hga hgb
   go_wp2_with fail
   refine (qG a k ak _ (za Ha) (by omega) (by omega)).mono ?_
   rintro e w1 ⟨rfl, rfl⟩
   go_wp2_with fail
   refine (qG b k bk _ (za Hb) (by omega) (by omega)).mono ?_
   rintro e w1 ⟨rfl, rfl⟩
   by_cases hneg : (ak : Int) - bk - c < 0
   ·obtain ⟨d, hd⟩ : ∃ d : Nat, (ak : Int) - bk - c + 10 = d := ⟨((ak : Int) - bk - c + 10).toNat, by omega⟩
    have hdl : d < 10 := by omega
    have hw := hb.size
    go_wp2_with (at_builtin; refine wpList_append_own _ rfl (.tmp 29) (.tmp 31) 59 rfl w.heap.size 3 i0 (.int .i64 0) 1 8 Tryd.underlying59 hi hz0 hz1 hz2 rfl (by decide) _ _ _ rfl (hown.alloc _) ⟨w1.heap.size, 0, none⟩ 1 1 [.int .i64 d] rfl rfl (cell_one_new _ _ _) (by intro u hu; simp at hu; subst hu; rfl) (by unfold maxLen; omega) (by omega) (by simp; omega) ?_; intro v2 w2 hown2 hg2 _)
    have hbX := zy (hb.alloc hw _) (hown.alloc _) hg2 (by simp; omega)
    go_roundw
    case rel => exact ⟨k + 1, 1, xs ++ [d], by omega, by go_num, rfl, by omega, by simp [hxk], by rw [← qK]; exact hown2, hbX, qJ hdg hdl, hide (by rw [qt, hxk]; exact yY (za hval) (za Ha) (za Hb) (by omega))⟩
    case measure => simp [intOf]; omega
   ·obtain ⟨d, hd⟩ : ∃ d : Nat, (ak : Int) - bk - c = d := ⟨((ak : Int) - bk - c).toNat, by omega⟩
    have hdl : d < 10 := by omega
    have hw := hb.size
    go_wp2_with (at_builtin; refine wpList_append_own _ rfl (.tmp 29) (.tmp 31) 59 rfl w.heap.size 3 i0 (.int .i64 0) 1 8 Tryd.underlying59 hi hz0 hz1 hz2 rfl (by decide) _ _ _ rfl (hown.alloc _) ⟨w1.heap.size, 0, none⟩ 1 1 [.int .i64 d] rfl rfl (cell_one_new _ _ _) (by intro u hu; simp at hu; subst hu; rfl) (by unfold maxLen; omega) (by omega) (by simp; omega) ?_; intro v2 w2 hown2 hg2 _)
    have hbX := zy (hb.alloc hw _) (hown.alloc _) hg2 (by simp; omega)
    go_roundw
    case rel => exact ⟨k + 1, 0, xs ++ [d], by omega, by go_num, rfl, by omega, by simp [hxk], by rw [← qK]; exact hown2, hbX, qJ hdg hdl, hide (by rw [qt, hxk]; exact yY (za hval) (za Ha) (za Hb) (by omega))⟩
    case measure => simp [intOf]; omega
  ·go_wp2_with fail
   refine (vf xs _ _ (za hdg) (by omega) (qe (hxk ▸ hown) (Nat.zero_le _))).mono ?_
   rintro e w1 ⟨rfl, hb1⟩
   go_wp2
   go_ret
   have hkn : k = (dec a).size := by omega
   subst hkn
   exact ⟨zB (by rw [ZO (za Hba) (hxk ▸ yn xs (za hdg)) (za hval)]), hb.trans (hb1.mono hb.size)⟩
theorem j3 (n k : Nat) (h : (dec n).size ≤ k) : n / 10 ^ k % 10 = 0 := by
 rw [vQ n k (by rw [← zm]; exact h)]
theorem Zj {a b X k : Nat} (h1 : (dec a).size ≤ k) (h2 : (dec b).size ≤ k) (h : X + 0 * 10 ^ k = a % 10 ^ k + b % 10 ^ k) : X = a + b := by
 have ha := Nat.lt_of_lt_of_le (zT a) (Nat.pow_le_pow_right (show 0 < 10 by omega) h1)
 have hb := Nat.lt_of_lt_of_le (zT b) (Nat.pow_le_pow_right (show 0 < 10 by omega) h2)
 rw [Nat.mod_eq_of_lt ha, Nat.mod_eq_of_lt hb] at h
 omega
theorem Zu (a b : Nat) (w : World) (hsa : (dec a).size ≤ 100000) (hsb : (dec b).size ≤ 100000) :
  Calls Tryd.prog 84 #[.string (dec a), .string (dec b)] w fun e w' => e = .returned (.string (dec (a + b))) ∧ Below w.heap.size w w' := by
 obtain ⟨i0, hi, hz0, hz1, hz2⟩ := info_parts Tryd.infoInt
 obtain ⟨M, hM1, hM2, hM3⟩ : ∃ M, (dec a).size ≤ M ∧ (dec b).size ≤ M ∧ M ≤ 100000 := ⟨max (dec a).size (dec b).size, by omega, by omega, by omega⟩
 go_enter Tryd.func84, Tryd.ntmps84
 go_wp2
 go_loopw [5, 6, 7] (fun v l i wr => ∃ (k c : Nat) (xs : List Nat), k ≤ M + 1 ∧ k + c ≤ M + 1 ∧ i = .int .i64 k ∧ l = .int .i64 c ∧ c ≤ 1 ∧ xs.length = k ∧ wr.ownsRow w.heap.size 3 1 v k (ints xs) ∧ Below w.heap.size w wr ∧
   Hid (∀ d ∈ xs, d < 10) ∧ Hid (ofd 10 xs + c * 10 ^ k = a % 10 ^ k + b % 10 ^ k))
  (fun _ _ i _ => M + 1 - (intOf i).toNat)
 case atStart =>
  exact ⟨0, 0, [], by omega, by omega, rfl, rfl, by omega, rfl, World.ownsRow_made w #[] 0 (Nat.le_refl _) (by decide) (by simp), (Below.refl _ _).alloc (Nat.le_refl _) _, hide (by simp), hide (by simp [ofd, Nat.mod_one])⟩
 case round =>
  obtain ⟨k, c, xs, hk, hkc, rfl, rfl, hc, hxk, hown, hb, hdg, hval⟩ := hrel
  have hak : a / 10 ^ k % 10 < 10 := Nat.mod_lt _ (by omega)
  have hbk : b / 10 ^ k % 10 < 10 := Nat.mod_lt _ (by omega)
  have ha0 := j3 a k
  have hb0 := j3 b k
  generalize hga : a / 10 ^ k % 10 = ak at *
  generalize hgb : b / 10 ^ k % 10 = bk at *
  have Ha := hide hga
  have Hb := hide hgb
  clear hga hgb
  obtain ⟨d, hd⟩ : ∃ d : Nat, ((ak : Int) + bk + c) % 10 = d := ⟨(((ak : Int) + bk + c) % 10).toNat, by omega⟩
  obtain ⟨c', hc'⟩ : ∃ d : Nat, ((ak : Int) + bk + c) / 10 = d := ⟨(((ak : Int) + bk + c) / 10).toNat, by omega⟩
  have hdl : d < 10 := by omega
  have hcl : (dec a).size ≤ k → (dec b).size ≤ k → c' = 0 := fun h1 h2 => by have := ha0 h1; have := hb0 h2; omega
  have hkM : k < (dec a).size ∨ k < (dec b).size ∨ 0 < c → k + 1 + c' ≤ M + 1 := by
   intro h
   by_cases h1 : (dec a).size ≤ k
   ·by_cases h2 : (dec b).size ≤ k
    ·have := hcl h1 h2; omega
    ·omega
   ·omega
  have HkM := hide hkM
  clear hcl hkM ha0 hb0
  by_cases h1 : k < (dec a).size
  ·have hkm := za HkM (.inl h1)
   go_wp2_with fail
   refine (qG a k ak _ (za Ha) (by omega) (by omega)).mono ?_
   rintro e w1 ⟨rfl, rfl⟩
   go_wp2_with fail
   refine (qG b k bk _ (za Hb) (by omega) (by omega)).mono ?_
   rintro e w1 ⟨rfl, rfl⟩
   have hw := hb.size
   go_wp2_with (at_builtin; refine wpList_append_own _ rfl (.tmp 35) (.tmp 38) 59 rfl w.heap.size 3 i0 (.int .i64 0) 1 8 Tryd.underlying59 hi hz0 hz1 hz2 rfl (by decide) _ _ _ rfl (hown.alloc _) ⟨w1.heap.size, 0, none⟩ 1 1 [.int .i64 d] rfl rfl (cell_one_new _ _ _) (by intro u hu; simp at hu; subst hu; rfl) (by unfold maxLen; omega) (by omega) (by simp; omega) ?_; intro v2 w2 hown2 hg2 _)
   have hbX := zy (hb.alloc hw _) (hown.alloc _) hg2 (by simp; omega)
   go_roundw
   case rel => exact ⟨k + 1, c', xs ++ [d], by omega, by omega, by go_num, by rw [hc'], by omega, by simp [hxk], by rw [← qK]; exact hown2, hbX, qJ hdg hdl, hide (by rw [qt, hxk]; exact j1 (za hval) (za Ha) (za Hb) (by omega))⟩
   case measure => simp [intOf]; omega
  ·by_cases h2 : k < (dec b).size
   ·have hkm := za HkM (.inr (.inl h2))
    go_wp2_with fail
    refine (qG a k ak _ (za Ha) (by omega) (by omega)).mono ?_
    rintro e w1 ⟨rfl, rfl⟩
    go_wp2_with fail
    refine (qG b k bk _ (za Hb) (by omega) (by omega)).mono ?_
    rintro e w1 ⟨rfl, rfl⟩
    have hw := hb.size
    go_wp2_with (at_builtin; refine wpList_append_own _ rfl (.tmp 35) (.tmp 38) 59 rfl w.heap.size 3 i0 (.int .i64 0) 1 8 Tryd.underlying59 hi hz0 hz1 hz2 rfl (by decide) _ _ _ rfl (hown.alloc _) ⟨w1.heap.size, 0, none⟩ 1 1 [.int .i64 d] rfl rfl (cell_one_new _ _ _) (by intro u hu; simp at hu; subst hu; rfl) (by unfold maxLen; omega) (by omega) (by simp; omega) ?_; intro v2 w2 hown2 hg2 _)
    have hbX := zy (hb.alloc hw _) (hown.alloc _) hg2 (by simp; omega)
    go_roundw
    case rel => exact ⟨k + 1, c', xs ++ [d], by omega, by omega, by go_num, by rw [hc'], by omega, by simp [hxk], by rw [← qK]; exact hown2, hbX, qJ hdg hdl, hide (by rw [qt, hxk]; exact j1 (za hval) (za Ha) (za Hb) (by omega))⟩
    case measure => simp [intOf]; omega
   ·by_cases h3 : 0 < c
    ·have hkm := za HkM (.inr (.inr h3))
     go_wp2_with fail
     refine (qG a k ak _ (za Ha) (by omega) (by omega)).mono ?_
     rintro e w1 ⟨rfl, rfl⟩
     go_wp2_with fail
     refine (qG b k bk _ (za Hb) (by omega) (by omega)).mono ?_
     rintro e w1 ⟨rfl, rfl⟩
     have hw := hb.size
     go_wp2_with (at_builtin; refine wpList_append_own _ rfl (.tmp 35) (.tmp 38) 59 rfl w.heap.size 3 i0 (.int .i64 0) 1 8 Tryd.underlying59 hi hz0 hz1 hz2 rfl (by decide) _ _ _ rfl (hown.alloc _) ⟨w1.heap.size, 0, none⟩ 1 1 [.int .i64 d] rfl rfl (cell_one_new _ _ _) (by intro u hu; simp at hu; subst hu; rfl) (by unfold maxLen; omega) (by omega) (by simp; omega) ?_; intro v2 w2 hown2 hg2 _)
     have hbX := zy (hb.alloc hw _) (hown.alloc _) hg2 (by simp; omega)
     go_roundw
     case rel => exact ⟨k + 1, c', xs ++ [d], by omega, by omega, by go_num, by rw [hc'], by omega, by simp [hxk], by rw [← qK]; exact hown2, hbX, qJ hdg hdl, hide (by rw [qt, hxk]; exact j1 (za hval) (za Ha) (za Hb) (by omega))⟩
     case measure => simp [intOf]; omega
    ·have hc0 : c = 0 := by omega
     subst hc0
     go_wp2_with fail
     refine (vf xs _ _ (za hdg) (by omega) (qe (hxk ▸ hown) (Nat.zero_le _))).mono ?_
     rintro e w1 ⟨rfl, hb1⟩
     go_wp2
     go_ret
     exact ⟨zB (by rw [Zj (Nat.le_of_not_lt h1) (Nat.le_of_not_lt h2) (za hval)]), hb.trans (hb1.mono hb.size)⟩
theorem B_tl (l : List UInt8) : (B l).toList = l := by rw [ByteArray.toList_eq, ZQ]
theorem yO : ∀ (l m : List Nat), l.length = m.length → (∀ d ∈ l, d < 10) → (∀ d ∈ m, d < 10) →
  Op.bytesLess (l.map sg) (m.map sg) = decide (ofd 10 l.reverse < ofd 10 m.reverse) := by
 intro l
 induction l with
 | nil => intro m h _ _; have : m = [] := List.eq_nil_of_length_eq_zero (by simpa using h.symm)
          subst this; simp [Op.bytesLess]
 | cons d r ih =>
  intro m h hl hm
  match m, h with
  | [], h => simp at h
  | c :: s, h =>
   have hrs : r.length = s.length := by simpa using h
   have hd := hl d (by simp)
   have hc := hm c (by simp)
   have hr := fun x hx => hl x (List.mem_cons_of_mem d hx)
   have hs := fun x hx => hm x (List.mem_cons_of_mem c hx)
   simp only [List.map_cons, Op.bytesLess, List.reverse_cons, ih s hrs hr hs]
   rw [qt, qt, List.length_reverse, List.length_reverse, ← hrs]
   have h1 := yn (b := 10) r.reverse (fun x hx => hr x (by simpa using hx))
   have h2 := yn (b := 10) s.reverse (fun x hx => hs x (by simpa using hx))
   rw [List.length_reverse] at h1 h2
   rw [← hrs] at h2
   generalize 10 ^ r.length = p at *
   have e1 : decide (sg d < sg c) = decide (d < c) := by
    simp only [UInt8.lt_iff_toNat_lt, zO (show d < 16 by omega), zO (show c < 16 by omega), if_pos hd, if_pos hc]; simp
   have e2 : (sg d == sg c) = decide (d = c) := by
    by_cases hdc : d = c
    ·subst hdc; simp
    ·have : sg d ≠ sg c := fun hh => hdc (Qb (by omega) (by omega) hh)
     simp [this, hdc]
   rw [e1, e2]
   rcases Nat.lt_trichotomy d c with hlt | heq | hgt
   ·have : p * (d + 1) ≤ p * c := Nat.mul_le_mul_left p hlt
    rw [Nat.mul_add] at this
    simp only [hlt, decide_true, Bool.true_or]
    symm; rw [decide_eq_true_iff]; omega
   ·subst heq; simp
   ·have : p * (c + 1) ≤ p * d := Nat.mul_le_mul_left p hgt
    rw [Nat.mul_add] at this
    have hn : ¬ d < c := by omega
    have hne : d ≠ c := by omega
    simp only [hn, hne, decide_false, Bool.false_and, Bool.or_false]
    symm; rw [decide_eq_false_iff_not]; omega
def hi10 (n : Nat) : List Nat := if n = 0 then [0] else (dg 10 n).reverse
theorem vF (n : Nat) : txl 10 n = (hi10 n).map sg := by
 unfold txl hi10; split
 ·simp [sg]
 ·rw [List.map_reverse]
theorem yi (n : Nat) : ∀ d ∈ hi10 n, d < 10 := by
 intro d hd; unfold hi10 at hd; split at hd
 ·simp at hd; omega
 ·exact dg_lt (by omega) n d (by simpa using hd)
theorem x5 (n : Nat) : ofd 10 (hi10 n).reverse = n := by
 unfold hi10; split
 ·subst n; simp [ofd]
 ·rw [List.reverse_reverse, vp (by omega)]
theorem xK {a b : Nat} (h : (dec a).size = (dec b).size) : Op.bytesLess (dec a).toList (dec b).toList = decide (a < b) := by
 unfold dec txt
 rw [B_tl, B_tl, vF, vF, yO _ _ _ (yi a) (yi b), x5, x5]
 rw [zm, zm, vF, vF] at h
 simpa using h
theorem jS (a b : Nat) : ((dec a).toList == (dec b).toList) = decide (a = b) := by
 by_cases h : a = b
 ·subst h; simp
 ·have : (dec a).toList ≠ (dec b).toList := by
   intro hh
   unfold dec txt at hh
   rw [B_tl, B_tl] at hh
   exact h (kP (by omega) (by omega) hh)
  simp [this, h]
theorem jH {a b : Nat} (h : (dec a).size < (dec b).size) : a < b := by
 rcases Nat.lt_or_ge a b with h1 | h1
 ·exact h1
 ·have := zw (b := 10) (by omega) (zZ a) (Nat.lt_of_le_of_lt h1 (zT a))
  rw [← zm] at this; omega
def cmpN (a b : Nat) : Int := if a < b then -1 else if b < a then 1 else 0
theorem kJ (a b : Nat) (w : World) (_hsa : (dec a).size ≤ 1000000000) (_hsb : (dec b).size ≤ 1000000000) :
  Calls Tryd.prog 81 #[.string (dec a), .string (dec b)] w fun e w' => e = .returned (.int .i64 (cmpN a b)) ∧ w' = w := by
 by_cases he : (dec a).size = (dec b).size
 ·have h1 := xK he
  have h2 := jS a b
  have h0 : ((dec a).size != (dec b).size) = false := by simp [he]
  have hI : (((dec a).size : Int) != ((dec b).size : Int)) = false := by simp [he]
  rcases Nat.lt_trichotomy a b with hlt | heq | hgt
  ·have hr : cmpN a b = -1 := by simp [cmpN, hlt]
   rw [decide_eq_true hlt] at h1
   rw [hr]
   clear he h2 h0 hr
   go_enter Tryd.func81, Tryd.ntmps81
   go_wp2
   go_ret
   exact ⟨rfl, rfl⟩
  ·subst heq
   have hr : cmpN a a = 0 := by simp [cmpN]
   rw [decide_eq_false (by omega)] at h1
   rw [hr]
   clear he h0 hr
   go_enter Tryd.func81, Tryd.ntmps81
   go_wp2
   go_ret
   exact ⟨rfl, rfl⟩
  ·have hr : cmpN a b = 1 := by unfold cmpN; rw [if_neg (by omega), if_pos hgt]
   rw [decide_eq_false (by omega)] at h1 h2
   rw [hr]
   clear he h0 hr
   go_enter Tryd.func81, Tryd.ntmps81
   go_wp2
   go_ret
   exact ⟨rfl, rfl⟩
 ·have hI : (((dec a).size : Int) != ((dec b).size : Int)) = true := by rw [bne_iff_ne]; omega
  by_cases hlt : (dec a).size < (dec b).size
  ·have hr : cmpN a b = -1 := by simp [cmpN, jH hlt]
   rw [hr]
   clear he hr
   go_enter Tryd.func81, Tryd.ntmps81
   go_wp2
   go_ret
   exact ⟨rfl, rfl⟩
  ·have hgt := jH (a := b) (b := a) (by omega)
   have hr : cmpN a b = 1 := by unfold cmpN; rw [if_neg (by omega), if_pos hgt]
   rw [hr]
   clear he hr hgt
   go_enter Tryd.func81, Tryd.ntmps81
   go_wp2
   go_ret
   exact ⟨rfl, rfl⟩
def isDec (l : List UInt8) : Bool := l != [] && l.all (fun c => 48 ≤ c && c ≤ 57) && (l.length ≤ 1 || l.head? != some 48)
theorem jB (n : Nat) : isDec (txl 10 n) = true := by
 have hall : (txl 10 n).all (fun c => 48 ≤ c && c ≤ 57) = true := by
  rw [List.all_eq_true]
  intro c hc
  rw [vF] at hc
  obtain ⟨d, hd, rfl⟩ := List.mem_map.1 hc
  have := yi n d hd
  simp only [Bool.and_eq_true, decide_eq_true_eq, UInt8.le_iff_toNat_le, zO (show d < 16 by omega), if_pos this]
  simp; omega
 have hne : txl 10 n ≠ [] := fun h => by have := qz (b := 10) (by omega) n; rw [h] at this; simp at this
 have hlead : (txl 10 n).length ≤ 1 ∨ (txl 10 n).head? ≠ some 48 := by
  have ht := y5 n
  cases hl : txl 10 n with
  | nil => left; simp
  | cons c r =>
   by_cases hr : r = []
   ·left; subst hr; simp
   ·right
    intro hc
    simp at hc
    subst hc
    rw [hl] at ht
    simp only [trim] at ht
    rw [if_pos ⟨trivial, hr⟩] at ht
    have := qF r
    have := congrArg List.length ht
    simp at this; omega
 unfold isDec
 simp only [bne_iff_ne, Bool.and_eq_true, Bool.or_eq_true, decide_eq_true_eq]
 exact ⟨⟨by simpa using hne, hall⟩, hlead⟩
def zn (l : List UInt8) : Nat := ofd 10 ((l.map fun c => c.toNat - 48).reverse)
theorem ql {l : List UInt8} (h : isDec l = true) : l = txl 10 (zn l) := by
 unfold isDec at h
 simp only [bne_iff_ne, Bool.and_eq_true, Bool.or_eq_true, decide_eq_true_eq] at h
 obtain ⟨⟨hne, hall⟩, hlead⟩ := h
 rw [List.all_eq_true] at hall
 have hc : ∀ c ∈ l, 48 ≤ c.toNat ∧ c.toNat ≤ 57 := by
  intro c hc; have := hall c hc
  simp only [Bool.and_eq_true, decide_eq_true_eq, UInt8.le_iff_toNat_le] at this
  simpa using this
 have hm : (l.map fun c => c.toNat - 48).map sg = l := by
  rw [List.map_map]
  have : ∀ c ∈ l, (sg ∘ fun c : UInt8 => c.toNat - 48) c = id c := by
   intro c hcl
   have := hc c hcl
   apply UInt8.toNat_inj.1
   simp only [Function.comp, id]
   rw [zO (by omega), if_pos (by omega)]; omega
  rw [List.map_congr_left this, List.map_id]
 have hd : ∀ d ∈ (l.map fun c => c.toNat - 48).reverse, d < 10 := by
  intro d hd
  rw [List.mem_reverse] at hd
  obtain ⟨c, hcl, rfl⟩ := List.mem_map.1 hd
  have := hc c hcl
  show c.toNat - 48 < 10
  omega
 have ht := qy _ hd (by simpa using hne)
 rw [List.map_reverse, List.reverse_reverse, hm] at ht
 unfold zn
 rw [← ht]
 symm
 apply vZ
 rcases hlead with h1 | h1
 ·exact .inl h1
 ·right
  cases l with
  | nil => exact absurd rfl hne
  | cons c r => exact ⟨c, r, rfl, fun h => h1 (by simp [h])⟩
def cntOk (s : Int) (m : Nat) : Bool := if s = 7 then m == 2 else if s = 8 then decide (m ≤ 40) else m == 0
def inR (k : Int) (n : Nat) : Bool := decide (0 ≤ k) && decide (k < n)
def zA (nd : Nd) (n : Nat) : Bool := cntOk nd.1 nd.2.2.length && nd.2.2.all (inR · n)
def gAt (g : List Int) (k : Int) : Int := g.getD k.toNat 0
def zY (a b : Nd) (g : List Int) : Bool := decide (a.1 = b.1) && decide (a.2.1 = b.2.1) && decide (a.2.2.map (gAt g) = b.2.2.map (gAt g))
theorem yk (k : Int) (n : Nat) (w : World) :
  Calls Tryd.prog 30 #[.int .i64 k, .int .i64 0, .int .i64 ((n : Int) - 1)] w fun e w' => e = .returned (.bool (inR k n)) ∧ w' = w := by
 by_cases h0 : 0 ≤ k
 ·have d0 : decide (0 ≤ k) = true := decide_eq_true h0
  have hr : Hid (inR k n = decide (k ≤ (n : Int) - 1)) := by
   show _ = _; unfold inR; rw [d0, Bool.true_and]; congr 1; rw [eq_iff_iff]; omega
  go_enter Tryd.func30, Tryd.ntmps30
  go_wp2
  go_ret
  exact ⟨by rw [za hr]; rfl, rfl⟩
 ·have d0 : decide (0 ≤ k) = false := decide_eq_false h0
  have hr : Hid (inR k n = false) := by show _ = _; unfold inR; rw [d0, Bool.false_and]
  go_enter Tryd.func30, Tryd.ntmps30
  go_wp2
  go_ret
  exact ⟨by rw [za hr]; rfl, rfl⟩
theorem qn {xs : List Int} {p : Int → Bool} {j : Nat} {x : Int} (h : xs[j]? = some x) : (xs.take (j + 1)).all p = ((xs.take j).all p && p x) := by
 rw [List.take_add_one, h]; simp
theorem vP {xs : List Int} {p : Int → Bool} {j : Nat} {x : Int} (h : xs[j]? = some x) (hp : p x = false) : xs.all p = false := by
 rw [List.all_eq_false]; exact ⟨x, List.mem_of_getElem? h, by simp [hp]⟩
theorem jJ (v : Value) (nd : Nd) (n : Nat) (w : World) (h : NdAt w v nd) (hn : n ≤ 1048576) :
  Calls Tryd.prog 47 #[v, .int .i64 n] w fun e w' => e = .returned (.bool (zA nd n)) ∧ Below w.heap.size w w' := by
 obtain ⟨s, text, kids⟩ := nd
 obtain ⟨kv, rfl, _, hk⟩ := h
 obtain ⟨a, cap, rfl, h1, h2⟩ := hk.form
 unfold maxLen at h2
 have hbb := (Below.refl w.heap.size w).alloc (Nat.le_refl _) (.cells #[.int .i64 s, .string (B text), .slice a kids.length cap] 76)
 have HK := hide (hk.below hbb)
 have HBB := hide hbb
 clear hk hbb
 simp only at *
 by_cases h7 : s = 7
 ·subst h7
  by_cases hm : kids.length = 2
  ·have HC : Hid (cntOk 7 kids.length = true) := by show _ = _; unfold cntOk; rw [if_pos rfl, hm]; rfl
   have HLEN := hide hm
   rw [hm] at h1 HK HBB
   rw [show (Value.slice a kids.length cap) = Value.slice a 2 cap from by rw [hm]]
   clear hm
   go_enter Tryd.func47, Tryd.ntmps47
   go_wp2
   go_loopw [5] (fun i wr => ∃ j : Nat, j ≤ 2 ∧ i = .int .i64 j ∧ Hid ((kids.take j).all (inR · n) = true) ∧ wr = w.alloc (.cells #[.int .i64 7, .string (B text), .slice a 2 cap] 76))
    (fun i _ => 2 - (intOf i).toNat)
   case atStart => exact ⟨0, by omega, rfl, hide (by simp), rfl⟩
   case round =>
    obtain ⟨j, hj, rfl, hall, rfl⟩ := hrel
    by_cases hlt : j < 2
    ·obtain ⟨x, hx⟩ : ∃ x, kids[j]? = some x := ⟨_, List.getElem?_eq_getElem (by have := za HLEN; omega)⟩
     obtain ⟨b, off, rfl, hb, hc⟩ := (za HK).cell hx
     have hst := qn (p := (inR · n)) hx
     rw [za hall, Bool.true_and] at hst
     have hfa := fun h => vP (p := (inR · n)) hx h
     have HST := hide (And.intro hst hfa)
     clear hst hfa hx
     go_wp2_with fail
     refine (yk x n _).mono ?_
     rintro e w1 ⟨rfl, rfl⟩
     cases hxr : inR x n with
     | false =>
      have HXR := hide hxr
      clear hxr
      go_wp2
      go_ret
      exact ⟨by unfold zA; rw [(za HST).2 (za HXR), Bool.and_false]; rfl, za HBB⟩
     | true =>
      have HXR := hide hxr
      clear hxr
      go_wp2
      go_roundw
      case rel => exact ⟨j + 1, by omega, by go_num, hide (by rw [(za HST).1]; exact za HXR), by first | rfl | trivial⟩
      case measure => simp [intOf]; omega
    ·go_wp2
     go_ret
     have := za hall
     rw [List.take_of_length_le (by have := za HLEN; omega)] at this
     exact ⟨by unfold zA; rw [this]; simp only at *; rw [za HC]; rfl, za HBB⟩
  ·have HC : Hid (cntOk 7 kids.length = false) := by show _ = _; unfold cntOk; rw [if_pos rfl]; simpa using hm
   have hmI : ¬ (kids.length : Int) = 2 := by omega
   go_enter Tryd.func47, Tryd.ntmps47
   go_wp2
   go_ret
   exact ⟨by unfold zA; rw [za HC]; rfl, za HBB⟩
 ·by_cases h8 : s = 8
  ·subst h8
   by_cases hm : kids.length ≤ 40
   ·have HC : Hid (cntOk 8 kids.length = true) := by show _ = _; unfold cntOk; rw [if_neg (by decide), if_pos rfl]; simpa using hm
    have hmI : ¬ (40 < (kids.length : Int)) := by omega
    go_enter Tryd.func47, Tryd.ntmps47
    go_wp2
    have HLEN : Hid (kids.length = kids.length) := rfl
    go_loopw [5] (fun i wr => ∃ j : Nat, j ≤ kids.length ∧ i = .int .i64 j ∧ Hid ((kids.take j).all (inR · n) = true) ∧ wr = w.alloc (.cells #[.int .i64 8, .string (B text), .slice a kids.length cap] 76))
     (fun i _ => kids.length - (intOf i).toNat)
    case atStart => exact ⟨0, by omega, rfl, hide (by simp), rfl⟩
    case round =>
     obtain ⟨j, hj, rfl, hall, rfl⟩ := hrel
     by_cases hlt : j < kids.length
     ·obtain ⟨x, hx⟩ : ∃ x, kids[j]? = some x := ⟨_, List.getElem?_eq_getElem (by have := za HLEN; omega)⟩
      obtain ⟨b, off, rfl, hb, hc⟩ := (za HK).cell hx
      have hst := qn (p := (inR · n)) hx
      rw [za hall, Bool.true_and] at hst
      have hfa := fun h => vP (p := (inR · n)) hx h
      have HST := hide (And.intro hst hfa)
      clear hst hfa hx
      go_wp2_with fail
      refine (yk x n _).mono ?_
      rintro e w1 ⟨rfl, rfl⟩
      cases hxr : inR x n with
      | false =>
       have HXR := hide hxr
       clear hxr
       go_wp2
       go_ret
       exact ⟨by unfold zA; rw [(za HST).2 (za HXR), Bool.and_false]; rfl, za HBB⟩
      | true =>
       have HXR := hide hxr
       clear hxr
       go_wp2
       go_roundw
       case rel => exact ⟨j + 1, by omega, by go_num, hide (by rw [(za HST).1]; exact za HXR), by first | rfl | trivial⟩
       case measure => simp [intOf]; omega
     ·go_wp2
      go_ret
      have := za hall
      rw [List.take_of_length_le (by have := za HLEN; omega)] at this
      exact ⟨by unfold zA; rw [this]; simp only at *; rw [za HC]; rfl, za HBB⟩
   ·have HC : Hid (cntOk 8 kids.length = false) := by show _ = _; unfold cntOk; rw [if_neg (by decide), if_pos rfl]; simpa using hm
    have hmI : 40 < (kids.length : Int) := by omega
    go_enter Tryd.func47, Tryd.ntmps47
    go_wp2
    go_ret
    exact ⟨by unfold zA; rw [za HC]; rfl, za HBB⟩
  ·by_cases hm : kids.length = 0
   ·have hk0 : kids = [] := List.length_eq_zero_iff.1 hm
    subst hk0
    have HC : Hid (zA (s, text, []) n = true) := by show _ = _; unfold zA cntOk; simp [h7, h8]
    go_enter Tryd.func47, Tryd.ntmps47
    go_wp2
    go_loopw [5] (fun i wr => i = .int .i64 0 ∧ wr = w.alloc (.cells #[.int .i64 s, .string (B text), .slice a 0 cap] 76)) (fun _ _ => 0)
    case atStart => exact ⟨rfl, rfl⟩
    case round =>
     obtain ⟨rfl, rfl⟩ := hrel
     go_wp2
     go_ret
     exact ⟨by rw [za HC]; rfl, za HBB⟩
   ·have HC : Hid (cntOk s kids.length = false) := by show _ = _; unfold cntOk; rw [if_neg h7, if_neg h8]; simpa using hm
    have hmI : 0 < (kids.length : Int) := by omega
    go_enter Tryd.func47, Tryd.ntmps47
    go_wp2
    go_ret
    exact ⟨by unfold zA; rw [za HC]; rfl, za HBB⟩
theorem ZC {g : List Int} {xs ys : List Int} {j : Nat} {x y : Int} (hx : xs[j]? = some x) (hy : ys[j]? = some y) (h : gAt g x ≠ gAt g y) : xs.map (gAt g) ≠ ys.map (gAt g) := by
 intro e
 have := congrArg (fun l => l[j]?) e
 simp [hx, hy] at this
 exact h this
theorem ZB {g : List Int} {xs ys : List Int} (hl : xs.length = ys.length) (h : ∀ (j : Nat) x y, xs[j]? = some x → ys[j]? = some y → gAt g x = gAt g y) : xs.map (gAt g) = ys.map (gAt g) := by
 apply List.ext_getElem?
 intro j
 rw [List.getElem?_map, List.getElem?_map]
 rcases Nat.lt_or_ge j xs.length with hj | hj
 ·obtain ⟨x, hx⟩ : ∃ x, xs[j]? = some x := ⟨_, List.getElem?_eq_getElem hj⟩
  obtain ⟨y, hy⟩ : ∃ y, ys[j]? = some y := ⟨_, List.getElem?_eq_getElem (by omega)⟩
  rw [hx, hy]; simp [h j x y hx hy]
 ·rw [List.getElem?_eq_none hj, List.getElem?_eq_none (by omega)]
theorem qC {g : List Int} {x : Int} (h0 : 0 ≤ x) (h1 : x < g.length) : g[x.toNat]? = some (gAt g x) := by
 unfold gAt
 rw [List.getD_eq_getElem?_getD, List.getElem?_eq_getElem (by omega)]; rfl
theorem kq (va vb vg : Value) (a b : Nd) (g : List Int) (w : World) (ha : NdAt w va a) (hb : NdAt w vb b) (hg : IntsAt w vg g) (ra : ∀ x ∈ a.2.2, 0 ≤ x ∧ x < g.length) (rb : ∀ x ∈ b.2.2, 0 ≤ x ∧ x < g.length) :
  Calls Tryd.prog 65 #[va, vb, vg] w fun e w' => e = .returned (.bool (zY a b g)) ∧ Below w.heap.size w w' := by
 obtain ⟨s1, t1, k1⟩ := a
 obtain ⟨s2, t2, k2⟩ := b
 obtain ⟨kv1, rfl, _, hk1⟩ := ha
 obtain ⟨kv2, rfl, _, hk2⟩ := hb
 obtain ⟨a1, c1, rfl, h11, h12⟩ := hk1.form
 obtain ⟨a2, c2, rfl, h21, h22⟩ := hk2.form
 obtain ⟨ag, cg, rfl, hg1, hg2⟩ := hg.form
 unfold maxLen at h12 h22 hg2
 have hbb := ((Below.refl w.heap.size w).alloc (Nat.le_refl _) (.cells #[.int .i64 s1, .string (B t1), .slice a1 k1.length c1] 76)).alloc (by simp) (.cells #[.int .i64 s2, .string (B t2), .slice a2 k2.length c2] 76)
 have HK1 := hide (hk1.below hbb)
 have HK2 := hide (hk2.below hbb)
 have HG := hide (hg.below hbb)
 have HBB := hide hbb
 have HP1 := hide ((AtC3.new w (.int .i64 s1) (.string (B t1)) (.slice a1 k1.length c1) 76).below ((Below.refl _ _).alloc (Nat.le_refl _) (.cells #[.int .i64 s2, .string (B t2), .slice a2 k2.length c2] 76)))
 have HP2 := hide (AtC3.new (w.alloc (.cells #[.int .i64 s1, .string (B t1), .slice a1 k1.length c1] 76)) (.int .i64 s2) (.string (B t2)) (.slice a2 k2.length c2) 76)
 rw [World.size_alloc] at HP2
 clear hk1 hk2 hg hbb
 simp only at *
 have htb : ((B t1).toList == (B t2).toList) = decide (t1 = t2) := by rw [B_tl, B_tl]; by_cases h : t1 = t2 <;> simp [h]
 by_cases hs : s1 = s2
 ·subst hs
  by_cases ht : t1 = t2
  ·subst ht
   by_cases hl : k1.length = k2.length
   ·obtain ⟨m, hm⟩ : ∃ m, k2.length = m := ⟨_, rfl⟩
    have hm1 : k1.length = m := by omega
    have HL := hide (And.intro hm1 hm)
    have HMA := hide (fun h => ZB (g := g) hl h)
    have HMG := hide (fun (j : Nat) x y hx hy h => ZC (g := g) (xs := k1) (ys := k2) (j := j) (x := x) (y := y) hx hy h)
    rw [hm1] at h11 HK1 HK2 HG HBB HP1 HP2 ⊢
    rw [hm] at h21 HK1 HK2 HG HBB HP1 HP2 ⊢
    clear hm hm1 hl
    go_enter Tryd.func65, Tryd.ntmps65
    go_wp2
    go_loopw [7] (fun i wr => ∃ j : Nat, j ≤ m ∧ i = .int .i64 j ∧ Hid (∀ (j' : Nat) x y, j' < j → k1[j']? = some x → k2[j']? = some y → gAt g x = gAt g y) ∧ Below ((w.alloc (.cells #[.int .i64 s1, .string (B t1), .slice a1 m c1] 76)).alloc (.cells #[.int .i64 s1, .string (B t1), .slice a2 m c2] 76)).heap.size ((w.alloc (.cells #[.int .i64 s1, .string (B t1), .slice a1 m c1] 76)).alloc (.cells #[.int .i64 s1, .string (B t1), .slice a2 m c2] 76)) wr)
     (fun i _ => m - (intOf i).toNat)
    case atStart => exact ⟨0, by omega, rfl, hide (fun _ _ _ h => absurd h (by omega)), Below.refl _ _⟩
    case round =>
     obtain ⟨j, hj, rfl, hall, hbl⟩ := hrel
     have p10 := ((za HP1).below hbl).n2
     have p20 := ((za HP2).below hbl).n2
     by_cases hlt : j < m
     ·have hll := za HL
      obtain ⟨x, hx⟩ : ∃ x, k1[j]? = some x := ⟨_, List.getElem?_eq_getElem (by omega)⟩
      obtain ⟨y, hy⟩ : ∃ y, k2[j]? = some y := ⟨_, List.getElem?_eq_getElem (by omega)⟩
      have rx := ra x (List.mem_of_getElem? hx)
      have ry := rb y (List.mem_of_getElem? hy)
      obtain ⟨b1, o1, rfl, hb1, hc1⟩ := ((za HK1).below hbl).cell hx
      obtain ⟨b2, o2, rfl, hb2, hc2⟩ := ((za HK2).below hbl).cell hy
      obtain ⟨bg, og, rfl, hbg, hgx⟩ := ((za HG).below hbl).cell (qC rx.1 rx.2)
      obtain ⟨bg', og', e', _, hgy⟩ := ((za HG).below hbl).cell (qC ry.1 ry.2)
      injection e' with e'
      injection e' with e1 e2
      subst e1 e2
      have HXY := hide (And.intro hx hy)
      have rx1 := rx.1
      have rx2 := rx.2
      have ry1 := ry.1
      have ry2 := ry.2
      have HBL := hide hbl
      clear hx hy hll hbl rx ry
      by_cases heq : gAt g x = gAt g y
      ·have HALL := hide (fun (j' : Nat) x' y' (h : j' < j + 1) (h1 : k1[j']? = some x') (h2 : k2[j']? = some y') => by
        rcases Nat.lt_succ_iff_lt_or_eq.1 h with h3 | h3
        ·exact za hall j' x' y' h3 h1 h2
        ·subst h3
         rw [(za HXY).1] at h1
         rw [(za HXY).2] at h2
         injection h1 with h1
         injection h2 with h2
         subst h1 h2
         exact heq : ∀ (j' : Nat) x y, j' < j + 1 → k1[j']? = some x → k2[j']? = some y → gAt g x = gAt g y)
       clear hall
       go_wp2
       go_quiet (fail)
       go_wp2
       go_roundw
       case rel => exact ⟨j + 1, by omega, by go_num, HALL, zI (za HBL) _⟩
       case measure => simp [intOf]; omega
      ·have HC : Hid (zY (s1, t1, k1) (s1, t1, k2) g = false) := by
        show _ = _; unfold zY
        have := za HMG j x y (za HXY).1 (za HXY).2 heq
        simp [this]
       clear hall HMG HMA
       go_wp2
       go_quiet (fail)
       go_wp2
       go_ret
       exact ⟨by rw [za HC]; rfl, zI ((za HBB).trans ((za HBL).mono (za HBB).size)) _⟩
     ·have HC : Hid (zY (s1, t1, k1) (s1, t1, k2) g = true) := by
       show _ = _; unfold zY
       have := za HMA (fun j' x y h1 h2 => za hall j' x y (by have := (List.getElem?_eq_some_iff.1 h1).1; have := (za HL).1; omega) h1 h2)
       simp [this]
      clear hall HMG HMA
      go_wp2
      go_ret
      exact ⟨by rw [za HC]; rfl, (za HBB).trans (hbl.mono (za HBB).size)⟩
   ·have HC : Hid (zY (s1, t1, k1) (s1, t1, k2) g = false) := by
     show _ = _; unfold zY
     have : ¬ k1.map (gAt g) = k2.map (gAt g) := fun e => hl (by simpa using congrArg List.length e)
     simp [this]
    have hlI : ¬ (k1.length : Int) = k2.length := by omega
    go_enter Tryd.func65, Tryd.ntmps65
    go_wp2
    go_ret
    exact ⟨by rw [za HC]; rfl, za HBB⟩
  ·have HC : Hid (zY (s1, t1, k1) (s1, t2, k2) g = false) := by show _ = _; unfold zY; simp [ht]
   rw [decide_eq_false ht] at htb
   go_enter Tryd.func65, Tryd.ntmps65
   go_wp2
   go_ret
   exact ⟨by rw [za HC]; rfl, za HBB⟩
 ·have HC : Hid (zY (s1, t1, k1) (s2, t2, k2) g = false) := by show _ = _; unfold zY; simp [hs]
  go_enter Tryd.func65, Tryd.ntmps65
  go_wp2
  go_ret
  exact ⟨by rw [za HC]; rfl, za HBB⟩
def iv (xs : List Int) : List Value := xs.map (Value.int .i64)
theorem vc (xs : List Int) (j : Nat) : (iv xs)[j]? = (xs[j]?).map (Value.int .i64) := by simp [iv]
theorem xS (xs : List Int) (j : Nat) (x : Int) : (iv xs).set j (.int .i64 x) = iv (xs.set j x) := by simp [iv, List.map_set]
theorem zz {w : World} {base : Nat} {v : Value} {xs : List Int} (h : w.ownsRow base 3 1 v xs.length (iv xs)) : IntsAt w v xs := by
 rcases h.2 with ⟨rfl, h0⟩ | ⟨g, cap, cur, rfl, hb, hg, h1, h2, h3, h4⟩
 ·exact ⟨none, 0, by rw [h0], by omega, by unfold maxLen; omega, fun h => absurd h (by omega)⟩
 ·refine ⟨_, cap, rfl, h1, h2, fun _ => ⟨g, 0, rfl, (Array.getElem?_eq_some_iff.1 hg).1, fun j x hx => ?_⟩⟩
  have hj := (List.getElem?_eq_some_iff.1 hx).1
  have := h.cellAt j (by omega)
  rw [vc, hx] at this
  simpa using this
def upTo (xs : List Int) (k : Nat) : List Int := xs.take k ++ List.replicate (xs.length - k) 0
theorem xC (xs : List Int) : upTo xs 0 = List.replicate xs.length 0 := by simp [upTo]
theorem Zh (xs : List Int) : upTo xs xs.length = xs := by simp [upTo]
theorem Zi {xs : List Int} {k : Nat} {x : Int} (h : xs[k]? = some x) : (upTo xs k).set k x = upTo xs (k + 1) := by
 have hk := (List.getElem?_eq_some_iff.1 h).1
 apply List.ext_getElem?
 intro j
 unfold upTo
 rw [List.getElem?_set]
 by_cases hj : k = j
 ·subst hj
  rw [if_pos rfl, if_pos (by simp; omega), List.getElem?_append_left (by simp; omega), List.getElem?_take_of_lt (by omega), h]
 ·rw [if_neg hj]
  rcases Nat.lt_or_ge j k with h1 | h1
  ·rw [List.getElem?_append_left (by simp; omega), List.getElem?_append_left (by simp; omega)]
   rw [List.getElem?_take_of_lt h1, List.getElem?_take_of_lt (by omega)]
  ·rw [List.getElem?_append_right (by simp; omega), List.getElem?_append_right (by simp; omega)]
   simp only [List.length_take, List.getElem?_replicate]
   have e1 : min k xs.length = k := by omega
   have e2 : min (k + 1) xs.length = k + 1 := by omega
   rw [e1, e2]
   by_cases hjl : j < xs.length
   ·rw [if_pos (by omega), if_pos (by omega)]
   ·rw [if_neg (by omega), if_neg (by omega)]
theorem Tryd.infoNode : (Tryd.prog.info? 76).map (fun i => (i.zero, i.size, i.bytes)) = some (some (.agg #[.int .i64 0, .string ⟨#[]⟩, .slice none 0 0]), 3, 48) := by kernel_rfl
def isDig (c : UInt8) : Bool := 48 ≤ c && c ≤ 57
theorem vT (c : UInt8) : isDig c = true ↔ 48 ≤ c.toNat ∧ c.toNat ≤ 57 := by
 simp [isDig, UInt8.le_iff_toNat_le]
theorem jf {l : List UInt8} (k : Nat) (h : k < l.length) (hb : ¬ (48 ≤ l[k].toNat ∧ l[k].toNat ≤ 57)) : isDec l = false := by
 cases hd : isDec l with
 | false => rfl
 | true =>
  unfold isDec at hd
  simp only [bne_iff_ne, Bool.and_eq_true, Bool.or_eq_true, decide_eq_true_eq] at hd
  have := List.all_eq_true.1 hd.1.2 l[k] (List.getElem_mem h)
  exact absurd ((vT _).1 this) hb
theorem j9 {l : List UInt8} (h0 : 0 < l.length) (hl : l.length ≤ 1 ∨ l.head? ≠ some 48) (h : ∀ k (hk : k < l.length), 48 ≤ l[k].toNat ∧ l[k].toNat ≤ 57) : isDec l = true := by
 unfold isDec
 simp only [bne_iff_ne, Bool.and_eq_true, Bool.or_eq_true, decide_eq_true_eq]
 refine ⟨⟨fun hh => by rw [hh] at h0; simp at h0, ?_⟩, hl⟩
 rw [List.all_eq_true]
 intro c hc
 obtain ⟨k, hk, rfl⟩ := List.getElem_of_mem hc
 exact (vT _).2 (h k hk)
theorem z7 (l : List UInt8) (w : World) (hs : l.length ≤ 1000000000) :
  Calls Tryd.prog 71 #[.string (B l)] w fun e w' => e = .returned (.bool (isDec l)) ∧ w' = w := by
 have hsz : (B l).size ≤ 1000000000 := by rw [ze]; exact hs
 have hI : ((B l).size : Int) = (l.length : Int) := by rw [ze]
 by_cases hz : l.length = 0
 ·have : l = [] := List.eq_nil_of_length_eq_zero hz
  subst this
  have h0 : (((B []).size : Int) == 0) = true := by simp [ze]
  clear hI hs hsz hz
  go_enter Tryd.func71, Tryd.ntmps71
  go_wp2
  go_ret
  exact ⟨rfl, rfl⟩
 ·have h0 : 0 < l.length := by omega
  have h0I : (((B l).size : Int) == 0) = false := by rw [beq_eq_false_iff_ne]; omega
  by_cases h1 : 1 < l.length
  ·have h1I : (1 : Int) < ((B l).size : Int) := by omega
   have hg0 : 0 < (B l).size := by omega
   have hg : ((B l)[0]'hg0).toNat = (l[0]'h0).toNat := by rw [B_get]
   by_cases hc : l[0]'h0 = 48
   ·have hq : ((((B l)[0]'hg0).toNat : Int) == 48) = true := by rw [hg, hc]; rfl
    have hf : isDec l = false := by
     cases hd : isDec l with
     | false => rfl
     | true =>
      unfold isDec at hd
      simp only [bne_iff_ne, Bool.and_eq_true, Bool.or_eq_true, decide_eq_true_eq] at hd
      rcases hd.2 with h2 | h2
      ·omega
      ·exact absurd (by rw [List.head?_eq_getElem?, List.getElem?_eq_getElem h0, hc]) h2
    rw [hf]
    clear hI hc hg hf hz
    go_enter Tryd.func71, Tryd.ntmps71
    go_wp2
    go_ret
    exact ⟨rfl, rfl⟩
   ·have hq : ((((B l)[0]'hg0).toNat : Int) == 48) = false := by
     rw [hg, beq_eq_false_iff_ne]
     intro hh
     apply hc
     apply UInt8.toNat_inj.1
     simp only [UInt8.toNat_ofNat]; omega
    have hl0 : Hid (l.length ≤ 1 ∨ l.head? ≠ some 48) := .inr (by
     rw [List.head?_eq_getElem?, List.getElem?_eq_getElem h0]
     intro hh; exact hc (by simpa using hh))
    clear hI hc hg hz
    go_enter Tryd.func71, Tryd.ntmps71
    go_wp2
    go_loop [3] (fun i => ∃ k : Nat, k ≤ l.length ∧ i = .int .i64 k ∧ Hid (∀ j (hj : j < l.length), j < k → 48 ≤ l[j].toNat ∧ l[j].toNat ≤ 57)) (fun i => l.length - (intOf i).toNat)
    case atStart => exact ⟨0, Nat.zero_le _, rfl, hide (fun j _ h => by omega)⟩
    case round =>
     clear hq
     obtain ⟨k, hk, rfl, hv⟩ := hrel
     by_cases hlt : k < l.length
     ·have hlt2 : k < (B l).size := by rw [ze]; exact hlt
      have hgk : ((B l)[k]'hlt2).toNat = (l[k]'hlt).toNat := by rw [B_get]
      by_cases h1 : ((l[k]'hlt).toNat : Int) < 48
      ·go_wp2
       go_ret
       exact ⟨zr (by rw [jf k hlt (by omega)]), rfl⟩
      ·by_cases h2 : 57 < ((l[k]'hlt).toNat : Int)
       ·go_wp2
        go_ret
        exact ⟨zr (by rw [jf k hlt (by omega)]), rfl⟩
       ·have h3 : 48 ≤ (l[k]'hlt).toNat ∧ (l[k]'hlt).toNat ≤ 57 := by omega
        have hv2 : Hid (∀ j (hj : j < l.length), j < k + 1 → 48 ≤ l[j].toNat ∧ l[j].toNat ≤ 57) := by
         intro j hj hjk
         by_cases hjk2 : j < k
         ·exact za hv j hj hjk2
         ·have : j = k := by omega
          subst this; exact h3
        go_wp2
        go_round
        case rel => exact ⟨k + 1, by omega, by go_num, hv2⟩
        case measure => simp [intOf]; omega
     ·have hlt2 : ¬ k < (B l).size := by rw [ze]; exact hlt
      have fin : isDec l = true := j9 h0 (za hl0) (fun j hj => za hv j hj (by omega))
      have Fin := hide fin
      clear fin
      go_wp2
      go_ret
      exact ⟨zr (za Fin).symm, rfl⟩
  ·have h1I : ¬ (1 : Int) < ((B l).size : Int) := by omega
   have hl0 : Hid (l.length ≤ 1 ∨ l.head? ≠ some 48) := .inl (by omega)
   clear hI hz
   go_enter Tryd.func71, Tryd.ntmps71
   go_wp2
   go_loop [3] (fun i => ∃ k : Nat, k ≤ l.length ∧ i = .int .i64 k ∧ Hid (∀ j (hj : j < l.length), j < k → 48 ≤ l[j].toNat ∧ l[j].toNat ≤ 57)) (fun i => l.length - (intOf i).toNat)
   case atStart => exact ⟨0, Nat.zero_le _, rfl, hide (fun j _ h => by omega)⟩
   case round =>
    obtain ⟨k, hk, rfl, hv⟩ := hrel
    by_cases hlt : k < l.length
    ·have hlt2 : k < (B l).size := by rw [ze]; exact hlt
     have hgk : ((B l)[k]'hlt2).toNat = (l[k]'hlt).toNat := by rw [B_get]
     by_cases h1 : ((l[k]'hlt).toNat : Int) < 48
     ·go_wp2
      go_ret
      exact ⟨zr (by rw [jf k hlt (by omega)]), rfl⟩
     ·by_cases h2 : 57 < ((l[k]'hlt).toNat : Int)
      ·go_wp2
       go_ret
       exact ⟨zr (by rw [jf k hlt (by omega)]), rfl⟩
      ·have h3 : 48 ≤ (l[k]'hlt).toNat ∧ (l[k]'hlt).toNat ≤ 57 := by omega
       have hv2 : Hid (∀ j (hj : j < l.length), j < k + 1 → 48 ≤ l[j].toNat ∧ l[j].toNat ≤ 57) := by
        intro j hj hjk
        by_cases hjk2 : j < k
        ·exact za hv j hj hjk2
        ·have : j = k := by omega
         subst this; exact h3
       go_wp2
       go_round
       case rel => exact ⟨k + 1, by omega, by go_num, hv2⟩
       case measure => simp [intOf]; omega
    ·have hlt2 : ¬ k < (B l).size := by rw [ze]; exact hlt
     have fin : isDec l = true := j9 h0 (za hl0) (fun j hj => za hv j hj (by omega))
     have Fin := hide fin
     clear fin
     go_wp2
     go_ret
     exact ⟨zr (za Fin).symm, rfl⟩
def digN (c : UInt8) : Nat := if 48 ≤ c.toNat ∧ c.toNat ≤ 57 then c.toNat - 48 else if 97 ≤ c.toNat ∧ c.toNat ≤ 102 then c.toNat - 87 else 99
theorem xm (c : UInt8) (w : World) :
  Calls Tryd.prog 83 #[.int .u8 c.toNat] w fun e w' => e = .returned (.int .i64 (digN c : Nat)) ∧ w' = w := by
 have hc : c.toNat < 256 := c.toNat_lt
 have hd : digN c = if 48 ≤ c.toNat ∧ c.toNat ≤ 57 then c.toNat - 48 else if 97 ≤ c.toNat ∧ c.toNat ≤ 102 then c.toNat - 87 else 99 := rfl
 generalize c.toNat = n at *
 generalize digN c = d at *
 by_cases h1 : 48 ≤ n ∧ n ≤ 57
 ·rw [if_pos h1] at hd
  have e : (n : Int) - 48 = (d : Int) := by omega
  obtain ⟨ha, hb⟩ := h1
  clear hd
  go_enter Tryd.func83, Tryd.ntmps83
  go_wp2
  go_ret
  exact ⟨zQ (by omega), rfl⟩
 ·rw [if_neg h1] at hd
  by_cases h2 : 97 ≤ n ∧ n ≤ 102
  ·rw [if_pos h2] at hd
   obtain ⟨ha, hb⟩ := h2
   have e : (n : Int) - 97 + 10 = (d : Int) := by omega
   have hh : ¬ (n : Int) ≤ 57 := by omega
   clear hd h1
   go_enter Tryd.func83, Tryd.ntmps83
   go_wp2
   go_ret
   exact ⟨zQ (by omega), rfl⟩
  ·rw [if_neg h2] at hd
   subst hd
   by_cases h3 : 48 ≤ n
   ·have h4 : ¬ (n : Int) ≤ 57 := by omega
    by_cases h5 : 97 ≤ n
    ·have h6 : ¬ (n : Int) ≤ 102 := by omega
     clear h1 h2
     go_enter Tryd.func83, Tryd.ntmps83
     go_wp2
     go_ret
     exact ⟨rfl, rfl⟩
    ·clear h1 h2
     go_enter Tryd.func83, Tryd.ntmps83
     go_wp2
     go_ret
     exact ⟨rfl, rfl⟩
   ·clear h1 h2
    go_enter Tryd.func83, Tryd.ntmps83
    go_wp2
    go_ret
    exact ⟨rfl, rfl⟩
theorem qV {P : Program} {src dst e : TypeId} (hs : P.underlying src = some (.slice e)) (he : P.underlying e = some (.int .u8)) (hd : P.underlying dst = some .string) (W w1 : World) (d : Nat) (hd10 : d < 10)
  (hb : Below (W.heap.size + 1) (W.alloc (.cells #[.int .u8 (48 + (d : Int))] e)) w1) :
  (convert src dst (.slice (some ⟨W.heap.size, 0, none⟩) 1 1)).run P w1 = .ok (.string (B [sg d])) w1 := by
 have h0 := World.ownsRow_lit (base := 0) (e := e) (size := 1) W #[.int .u8 (48 + (d : Int))] 1 (Nat.zero_le _) (by decide) (by simp)
 have h1 := zk h0 (by simpa using hb)
 have e1 : (#[Value.int .u8 (48 + (d : Int))] : Array Value).toList = [sg d].map u8v := by simp [kD hd10]
 rw [e1] at h1
 exact qg hs he hd h1
theorem jx (b : Nat) (hb : 2 ≤ b) (n : Nat) (h : b ≤ n) : txl b n = txl b (n / b) ++ [sg (n % b)] := by
 have h0 : n ≠ 0 := by omega
 have hq : n / b ≠ 0 := by
  intro hh
  rcases Nat.div_eq_zero_iff.1 hh with h1 | h1 <;> omega
 rw [qj h0, qM hb (by omega), qj hq]; simp
theorem qp (b : Nat) (hb : 2 ≤ b) (n : Nat) (h : n < b) : txl b n = [sg n] := by
 by_cases h0 : n = 0
 ·subst h0; simp [zG, sg]
 ·rw [qj h0, qM hb (by omega), Nat.mod_eq_of_lt h, Nat.div_eq_of_lt h, qs]; simp
theorem zL (n : Nat) (hn : n ≤ 9223372036854775807) (w : World) :
  Calls Tryd.prog 69 #[.int .i64 n] w fun e w' => e = .returned (.string (dec n)) ∧ Below w.heap.size w w' := by
 induction n using Nat.strongRecOn generalizing w with
 | _ n ih =>
  by_cases h : n < 10
  ·have hfin : B [sg n] = dec n := by rw [dec, txt, qp 10 (by omega) n h]
   have Fin := hide hfin
   have hconv := qV (dst := 9) Tryd.underlying22 Tryd.underlying5 Tryd.underlying9 w _ n h (Below.refl _ _)
   clear ih hfin
   go_enter Tryd.func69, Tryd.ntmps69
   go_wp2
   go_ret
   exact ⟨zB (za Fin), (Below.refl _ _).alloc (Nat.le_refl _) _⟩
  ·have hlt : n / 10 < n := Nat.div_lt_self (by omega) (by omega)
   have hq := ih (n / 10) hlt (by omega)
   have hfin : dec (n / 10) ++ B [sg (n % 10)] = dec n := by
    unfold dec txt; rw [zE, ← jx 10 (by omega) n (by omega)]
   have Fin := hide hfin
   have Hq := hide hq
   have hm : n % 10 < 10 := Nat.mod_lt _ (by omega)
   have hconv := fun (W : World) => qV (P := Tryd.prog) (src := 22) (dst := 9) Tryd.underlying22 Tryd.underlying5 Tryd.underlying9 W _ (n % 10) hm (Below.refl _ _)
   have hconv2 := fun (W w1 : World) => qV (P := Tryd.prog) (src := 22) (dst := 9) Tryd.underlying22 Tryd.underlying5 Tryd.underlying9 W w1 (n % 10) hm
   clear ih hfin hq
   obtain ⟨q, hqd⟩ : ∃ q : Nat, n / 10 = q := ⟨_, rfl⟩
   obtain ⟨r, hrd⟩ : ∃ r : Nat, n % 10 = r := ⟨_, rfl⟩
   rw [hrd] at hconv hconv2 hm Fin
   rw [hqd] at Fin Hq hlt
   have e1 : (n : Int) / 10 = (q : Int) := by omega
   have e2 : (n : Int).tmod 10 = (r : Int) := by rw [Int.tmod_eq_emod_of_nonneg (by omega)]; omega
   have e3 := wi64 (q : Int) (by omega) (by omega)
   have e4 := wi64 (48 + (r : Int)) (by omega) (by omega)
   have e5 := wu8 (48 + (r : Int)) (by omega) (by omega)
   have hqs : (dec q).size ≤ 19 := by
    rw [zm]; exact zw (by omega) (by omega) (by omega)
   have hrs : (B [sg r]).size ≤ 1 := by rw [ze]; simp
   have hns : ¬ 9223372036854775807 < (dec q).size + (B [sg r]).size := by omega
   have hns2 : ¬ (9223372036854775807 < ((dec q).size : Int) + ((B [sg r]).size : Int)) := by omega
   clear hqd hrd
   go_enter Tryd.func69, Tryd.ntmps69
   go_wp2
   have hcv0 := hconv2 w (w.alloc (.cells #[.int .u8 (48 + (r : Int))] 5)).drew ((Below.refl _ _).drew)
   go_region_with (go_at_call 69; refine (za Hq _).mono ?_; rintro e w1 ⟨rfl, hb1⟩; try have hcv := hconv2 w w1 (zt (by simpa using hb1)))
   all_goals
    go_wp2
    go_ret
    refine ⟨zB (za Fin), ?_⟩
    first
     | exact (zt hb1).alloc hb1.size _
     | exact ((Below.refl _ _).alloc (Nat.le_refl _) _).trans ((zt hb1).mono (by simp))
def cnt (ns : List Nd) : Nat := (ns.map fun nd => 2 + nd.2.2.length).sum
theorem Qa {α : Type} (l : List α) (j : Nat) (a b : α) : (l.set j a).set j b = l.set j b := by
 apply List.ext_getElem?; intro i
 simp only [List.getElem?_set, List.length_set]
 split <;> rfl
def seek (P : Nat → Bool) (i : Nat) : Nat → Nat
 | 0 => i
 | m + 1 => if P (i - (m + 1)) then i - (m + 1) else seek P i m
theorem ZL (P : Nat → Bool) (i m : Nat) : seek P i m ≤ i := by
 induction m with
 | zero => exact Nat.le_refl _
 | succ m ih => unfold seek; split <;> omega
def ndAt (ns : List Nd) (i : Nat) : Nd := ns.getD i (0, [], [])
theorem qr {ns : List Nd} {i : Nat} {nd : Nd} (h : ns[i]? = some nd) : ndAt ns i = nd := by
 unfold ndAt; rw [List.getD_eq_getElem?_getD, h]; rfl
def pG (ns : List Nd) (g : List Int) (i k : Nat) : Bool := decide (gAt g i = gAt g k) && zY (ndAt ns i) (ndAt ns k) g
def stepG (ns : List Nd) (g : List Int) : List Int := (List.range ns.length).map fun i => ((seek (pG ns g i) i i : Nat) : Int)
def itG (ns : List Nd) : Nat → List Int
 | 0 => List.replicate ns.length 0
 | k + 1 => stepG ns (itG ns k)
def grpM (ns : List Nd) : List Int := itG ns (ns.length + 1)
theorem vY (ns : List Nd) (g : List Int) : (stepG ns g).length = ns.length := by simp [stepG]
theorem xx {ns : List Nd} {g : List Int} {i : Nat} (h : i < ns.length) : (stepG ns g)[i]? = some ((seek (pG ns g i) i i : Nat) : Int) := by
 simp [stepG, h]
theorem qR (ns : List Nd) (k : Nat) : (itG ns k).length = ns.length := by
 cases k with
 | zero => simp [itG]
 | succ k => exact vY _ _
theorem kn {ns : List Nd} {n : Nat} (h : itG ns (n + 1) = itG ns n) : ∀ m, itG ns (n + m) = itG ns n := by
 intro m
 induction m with
 | zero => rfl
 | succ m ih =>
  show stepG ns (itG ns (n + m)) = _
  rw [ih]; exact h
theorem vJ {ns : List Nd} {n : Nat} (hn : n ≤ ns.length) (h : itG ns (n + 1) = itG ns n) : itG ns (n + 1) = grpM ns := by
 unfold grpM
 rw [h, ← kn h (ns.length + 1 - n)]
 congr 1; omega
theorem xB {S : List Int} {i : Nat} {x : Int} (h : S[i]? = some x) : (upTo S i).set i x = upTo S (i + 1) := Zi h
theorem ZN (l : List Int) (j : Nat) (a b : Int) : (l.set j a).set j b = l.set j b := Qa l j a b
def agree (a b : List Int) (j : Nat) : Bool := decide (a.take j = b.take j)
theorem y7 (a b : List Int) : agree a b 0 = true := by simp [agree]
theorem y6 {a b : List Int} {j : Nat} {x y : Int} (hx : a[j]? = some x) (hy : b[j]? = some y) : agree a b (j + 1) = (agree a b j && decide (x = y)) := by
 unfold agree
 rw [List.take_add_one, List.take_add_one, hx, hy]
 have hl : (a.take j).length = (b.take j).length := by
  have h1 := (List.getElem?_eq_some_iff.1 hx).1
  have h2 := (List.getElem?_eq_some_iff.1 hy).1
  rw [List.length_take, List.length_take]; omega
 rw [Bool.eq_iff_iff]
 simp only [Bool.and_eq_true, decide_eq_true_eq]
 constructor
 ·intro h
  have := List.append_inj h hl
  simpa using this
 ·rintro ⟨h1, h2⟩
  rw [h1, h2]
theorem kS {a b : List Int} {n : Nat} (ha : a.length = n) (hb : b.length = n) : agree a b n = decide (a = b) := by
 unfold agree
 rw [List.take_of_length_le (by omega), List.take_of_length_le (by omega)]
theorem jN {w : World} {base : Nat} {v : Value} {n : Nat} {xs : List Int} (h : w.ownsRow base 3 1 v n (iv xs)) (hn : xs.length = n) : IntsAt w v xs := by
 subst hn; exact zz h
theorem yK (v : Value) (ns : List Nd) (w : World) (h : NodesAt w v ns) (hs : ns.length ≤ 1048576) (hr : ∀ nd ∈ ns, ∀ x ∈ nd.2.2, 0 ≤ x ∧ x < ns.length) :
  Calls Tryd.prog 48 #[v] w fun e w' => (∃ gv, e = .returned gv ∧ w'.ownsRow w.heap.size 3 1 gv ns.length (iv (grpM ns))) ∧ Below w.heap.size w w' := by
 obtain ⟨i0, hi, hz0, hz1, hz2⟩ := info_parts Tryd.infoInt
 obtain ⟨a, cap, rfl, h1, h2⟩ := h.form0
 unfold maxLen at h2
 have H := hide h
 have HR := hide hr
 clear h hr
 go_enter Tryd.func48, Tryd.ntmps48
 go_wp2_with (refine wpList_make_full _ rfl (.tmp 11) (.tmp 11) 59 rfl w.heap.size 3 i0 (.int .i64 0) 1 Tryd.underlying59 hi hz0 hz1 .i64 .i64 ns.length ns.length ns.length rfl rfl rfl rfl (by rw [hz2]; omega) (by unfold maxLen; omega) (Nat.le_refl _) ?_; intro w1 hown1 hg1)
 have hown1' : w1.ownsRow w.heap.size 3 1 (.slice (some ⟨w.heap.size, 0, none⟩) ns.length ns.length) ns.length (iv (itG ns 0)) := by
  simpa [Value.cells, toList_madeCells_one, iv, itG] using hown1
 have HO1 := hide hown1'
 have HB1 := hide ((Below.refl w.heap.size w).grown hg1 (Nat.le_refl _) (fun _ h => by cases h))
 clear hown1 hg1 hown1'
 go_loopw [3, 4] (fun gv nv wr => ∃ (n g c : Nat), n ≤ ns.length + 1 ∧ nv = .int .i64 n ∧ gv = .slice (some ⟨g, 0, none⟩) ns.length c ∧ Hid (wr.ownsRow w.heap.size 3 1 (.slice (some ⟨g, 0, none⟩) ns.length c) ns.length (iv (itG ns n))) ∧ Below w.heap.size w wr)
  (fun _ nv _ => ns.length + 1 - (intOf nv).toNat)
 case atStart => exact ⟨0, _, _, by omega, rfl, rfl, HO1, za HB1⟩
 case round =>
  clear HO1 HB1
  obtain ⟨n, g, c, hn, rfl, rfl, hown, hbl⟩ := hrel
  obtain ⟨W, hW⟩ : ∃ W, W = wr := ⟨_, rfl⟩
  subst hW
  have hsz := hbl.size
  have hc := (show ns.length ≤ c by
   rcases (za hown).2 with ⟨e, _⟩ | ⟨_, _, _, e, _, _, h3, _⟩
   ·cases e
   ·injection e with _ _ e; omega)
  have hcm := (show c ≤ maxLen by
   rcases (za hown).2 with ⟨e, _⟩ | ⟨_, _, _, e, _, _, _, h4, _⟩
   ·cases e
   ·injection e with _ _ e; omega)
  unfold maxLen at hcm
  by_cases hlt : n ≤ ns.length
  ·go_wp2_with (refine wpList_make_full _ rfl (.tmp 20) (.tmp 20) 59 rfl W.heap.size 3 i0 (.int .i64 0) 1 Tryd.underlying59 hi hz0 hz1 .i64 .i64 ns.length ns.length ns.length rfl rfl rfl rfl (by rw [hz2]; omega) (by unfold maxLen; omega) (Nat.le_refl _) ?_; intro w2 hown2 hg2)
   have HG := hide (jN (za hown) (qR ns n))
   have HN := hide ((za H).below hbl)
   have hgW := ((za hown).lt g rfl).2
   have hSl := vY ns (itG ns n)
   obtain ⟨S, hS⟩ : ∃ S, S = stepG ns (itG ns n) := ⟨_, rfl⟩
   rw [← hS] at hSl
   have hown2' : w2.ownsRow W.heap.size 3 1 (.slice (some ⟨W.heap.size, 0, none⟩) ns.length ns.length) ns.length (iv (upTo S 0)) := by
    rw [xC, hSl]
    simpa [Value.cells, toList_madeCells_one, iv] using hown2
   have HO2 := hide hown2'
   have HB2 := hide ((Below.refl W.heap.size W).grown hg2 (Nat.le_refl _) (fun _ h => by cases h))
   have HS := hide hS
   clear hown2 hg2 hown2' hS
   go_loopw [6] (fun iv' wr => ∃ i : Nat, i ≤ ns.length ∧ iv' = .int .i64 i ∧ Hid (wr.ownsRow W.heap.size 3 1 (.slice (some ⟨W.heap.size, 0, none⟩) ns.length ns.length) ns.length (iv (upTo S i))) ∧ Below W.heap.size W wr)
    (fun iv' _ => ns.length - (intOf iv').toNat)
   case atStart => exact ⟨0, by omega, rfl, HO2, za HB2⟩
   case round =>
    clear HO2 HB2
    obtain ⟨i, hile, rfl, hownS, hbW⟩ := hrel
    obtain ⟨W2, hW2⟩ : ∃ W2, W2 = wr := ⟨_, rfl⟩
    subst hW2
    by_cases hil : i < ns.length
    ·obtain ⟨nd, hnd⟩ : ∃ nd, ns[i]? = some nd := ⟨_, List.getElem?_eq_getElem hil⟩
     obtain ⟨b, off, rfl, hba⟩ := (za H).addr (by omega)
     have hgi : (itG ns n)[i]? = some (gAt (itG ns n) (i : Int)) := by
      have := qC (g := itG ns n) (x := (i : Int)) (by omega) (by rw [qR]; omega)
      simpa using this
     obtain ⟨v0, hv0⟩ := qH (za hownS) i (by omega)
     have hfr := (za hownS).frozenAt i
     have hst := (za hownS).stored i (.int .i64 ((i : Nat) : Int))
     rw [xS] at hst
     have HST := hide hst.1
     have HBS := hide (hbW.setCell (p := ⟨W.heap.size, i, none⟩) (Nat.le_refl _) (.int .i64 ((i : Nat) : Int)))
     have HGI := hide (And.intro hnd hgi)
     clear hst hnd hgi hownS hbW
     go_wp2
     clear hv0 hfr
     go_loopw [7] (fun kv wr => ∃ (m : Nat) (t : Int), m ≤ i ∧ kv = .int .i64 t ∧ Hid (t = (i : Int) - 1 - m) ∧ -1 ≤ t ∧ t < i ∧ Hid (wr.ownsRow W.heap.size 3 1 (.slice (some ⟨W.heap.size, 0, none⟩) ns.length ns.length) ns.length (iv ((upTo S i).set i ((seek (pG ns (itG ns n) i) i m : Nat) : Int)))) ∧ Below W.heap.size W wr)
      (fun kv _ => (intOf kv + 1).toNat)
     case atStart => exact ⟨0, _, by omega, rfl, hide (by simp), by omega, by omega, HST, za HBS⟩
     case round =>
      clear HST HBS
      obtain ⟨m, t, hm, rfl, ht, ht0, ht1, hownS, hbW⟩ := hrel
      obtain ⟨W3, hW3⟩ : ∃ W3, W3 = wr := ⟨_, rfl⟩
      subst hW3
      by_cases hpos : 0 ≤ t
      ·obtain ⟨kk, rfl⟩ := Int.eq_ofNat_of_zero_le hpos
       have hkk : kk = i - (m + 1) ∧ m < i := by have := za ht; omega
       obtain ⟨ndk, hndk⟩ : ∃ nd, ns[kk]? = some nd := ⟨_, List.getElem?_eq_getElem (by omega)⟩
       have hgk : (itG ns n)[kk]? = some (gAt (itG ns n) (kk : Int)) := by
        have := qC (g := itG ns n) (x := (kk : Int)) (by omega) (by rw [qR]; omega)
        simpa using this
       have hrow := zk (za hown) hbW
       have g1 := hrow.cellAt i (by omega)
       rw [vc, (za HGI).2] at g1
       have g2 := hrow.cellAt kk (by omega)
       rw [vc, hgk] at g2
       simp only [Option.map_some] at g1 g2
       have hnW := (za HN).below hbW
       obtain ⟨kv1, c10, c11, c12, l1, k1⟩ := hnW.node (za HGI).1
       obtain ⟨kv2, c20, c21, c22, l2, k2⟩ := hnW.node hndk
       have HA1 := hide (⟨kv1, rfl, l1, k1⟩ : NdAt W3 (.agg #[.int .i64 nd.1, .string (B nd.2.1), kv1]) nd)
       have HA2 := hide (⟨kv2, rfl, l2, k2⟩ : NdAt W3 (.agg #[.int .i64 ndk.1, .string (B ndk.2.1), kv2]) ndk)
       have HGW := hide ((za HG).below hbW)
       have HR1 := hide (fun x hx => (za HR) nd (List.mem_of_getElem? (za HGI).1) x hx)
       have HR2 := hide (fun x hx => (za HR) ndk (List.mem_of_getElem? hndk) x hx)
       have hpg : pG ns (itG ns n) i kk = (decide (gAt (itG ns n) (i : Int) = gAt (itG ns n) (kk : Int)) && zY nd ndk (itG ns n)) := by
        unfold pG; rw [qr (za HGI).1, qr hndk]
       have HPG := hide hpg
       have HKK := hide hkk
       have hkl : kk < ns.length := by omega
       have HBW := hide hbW
       clear hrow hnW k1 k2 l1 l2 hpg hndk hgk hkk hbW
       obtain ⟨x, hx⟩ : ∃ x, gAt (itG ns n) (i : Int) = x := ⟨_, rfl⟩
       obtain ⟨y, hy⟩ : ∃ y, gAt (itG ns n) (kk : Int) = y := ⟨_, rfl⟩
       rw [hx] at g1
       rw [hy] at g2
       rw [hx, hy] at HPG
       clear hx hy
       go_upto_region 13 with fail
       go_cut [58] from 38 to 58 (fun s wx => s = .bool (pG ns (itG ns n) i kk) ∧ Below W3.heap.size W3 wx)
       case first =>
        by_cases hxy : x = y
        ·subst hxy
         have hpv : Hid (pG ns (itG ns n) i kk = zY nd ndk (itG ns n)) := by show _ = _; rw [za HPG]; simp
         go_region_held3 (fun w' => w'.cell? ⟨g, i, none⟩ = some (.int .i64 x) ∧ w'.cell? ⟨g, kk, none⟩ = some (.int .i64 x) ∧ w'.cell? ⟨b, off + i * 3, none⟩ = some (.int .i64 nd.1) ∧ w'.cell? ⟨b, off + i * 3 + 1, none⟩ = some (.string (B nd.2.1)) ∧ w'.cell? ⟨b, off + i * 3 + 2, none⟩ = some kv1 ∧ w'.cell? ⟨b, off + kk * 3, none⟩ = some (.int .i64 ndk.1) ∧ w'.cell? ⟨b, off + kk * 3 + 1, none⟩ = some (.string (B ndk.2.1)) ∧ w'.cell? ⟨b, off + kk * 3 + 2, none⟩ = some kv2) (((try dsimp only); (repeat' apply And.intro) <;> (first | with_reducible assumption | exact g1 | exact g2 | exact c10 | exact c11 | exact c12 | exact c20 | exact c21 | exact c22))) ((go_at_call 65; refine (kq _ _ _ nd ndk (itG ns n) W3.drew (by exact za HA1) (by exact za HA2) (by exact za HGW) (by rw [qR]; exact za HR1) (by rw [qR]; exact za HR2)).mono ?_; rintro e w5 ⟨rfl, hb5⟩; have HB5 : Hid (Below W3.heap.size W3 w5) := (Below.refl W3.heap.size W3).drew.trans hb5; have d1 := (za HB5).cell (p := ⟨g, i, none⟩) (World.block_lt_of_cell? _ _ g1); have d2 := (za HB5).cell (p := ⟨g, kk, none⟩) (World.block_lt_of_cell? _ _ g2); have e0 := (za HB5).cell (p := ⟨b, off + i * 3, none⟩) (World.block_lt_of_cell? _ _ c10); have e1 := (za HB5).cell (p := ⟨b, off + i * 3 + 1, none⟩) (World.block_lt_of_cell? _ _ c11); have e2 := (za HB5).cell (p := ⟨b, off + i * 3 + 2, none⟩) (World.block_lt_of_cell? _ _ c12); have f0 := (za HB5).cell (p := ⟨b, off + kk * 3, none⟩) (World.block_lt_of_cell? _ _ c20); have f1 := (za HB5).cell (p := ⟨b, off + kk * 3 + 1, none⟩) (World.block_lt_of_cell? _ _ c21); have f2 := (za HB5).cell (p := ⟨b, off + kk * 3 + 2, none⟩) (World.block_lt_of_cell? _ _ c22); rw [g1] at d1; rw [g2] at d2; rw [c10] at e0; rw [c11] at e1; rw [c12] at e2; rw [c20] at f0; rw [c21] at f1; rw [c22] at f2; clear hb5))
         go_wp2_with fail
         go_meet
         exact ⟨by rw [za hpv], za HB5⟩
        ·have hpv : Hid (pG ns (itG ns n) i kk = false) := by show _ = _; rw [za HPG]; simp [hxy]
         have hdx : decide (x = y) = false := decide_eq_false hxy
         go_quiet (fail)
         go_wp2_with fail
         go_meet
         exact ⟨by rw [za hpv], zI (Below.refl _ _) _⟩
       case rest =>
       obtain ⟨rfl, hbc⟩ := hcut
       rename World => W4
       have hown4 := zk (za hownS) hbc
       have hb4 := (za HBW).trans (hbc.mono (za HBW).size)
       have hik := (za HKK).1
       have hml := (za HKK).2
       have hseek : seek (pG ns (itG ns n) i) i (m + 1) = if pG ns (itG ns n) i kk then kk else seek (pG ns (itG ns n) i) i m := by
        show (if pG ns (itG ns n) i (i - (m + 1)) then i - (m + 1) else _) = _
        rw [← hik]
       have hti : ((kk : Int) - 1 = (i : Int) - 1 - (m + 1 : Nat)) := by omega
       have HTI := hide hti
       cases hP : pG ns (itG ns n) i kk with
       | true =>
        rw [hP, if_pos rfl] at hseek
        obtain ⟨v4, hv4⟩ := qH hown4 i (by omega)
        have hfr4 := hown4.frozenAt i
        have hst := hown4.stored i (.int .i64 ((kk : Nat) : Int))
        rw [xS, ZN] at hst
        have HST : Hid ((W4.setCell ⟨W.heap.size, i, none⟩ (.int .i64 ((kk : Nat) : Int))).ownsRow W.heap.size 3 1 (.slice (some ⟨W.heap.size, 0, none⟩) ns.length ns.length) ns.length (iv ((upTo S i).set i ((seek (pG ns (itG ns n) i) i (m + 1) : Nat) : Int)))) := by
         show World.ownsRow _ _ _ _ _ _ _
         rw [hseek]; exact hst.1
        have HBS := hide (hb4.setCell (p := ⟨W.heap.size, i, none⟩) (Nat.le_refl _) (.int .i64 ((kk : Nat) : Int)))
        clear hst hseek hti hown4 hb4 hbc hP hik
        go_wp2
        go_roundw
        case rel => exact ⟨m + 1, (kk : Int) - 1, by omega, by first | rfl | go_num, HTI, by omega, by omega, HST, za HBS⟩
        case measure => first | (simp [intOf]; done) | (simp [intOf]; omega)
       | false =>
        rw [hP, if_neg (by decide)] at hseek
        rw [← hseek] at hown4
        have HST := hide hown4
        have HBS := hide hb4
        clear hseek hti hown4 hb4 hbc hP hik
        go_wp2
        go_roundw
        case rel => exact ⟨m + 1, (kk : Int) - 1, by omega, by first | rfl | go_num, HTI, by omega, by omega, HST, za HBS⟩
        case measure => first | (simp [intOf]; done) | (simp [intOf]; omega)
      ·have hmi : m = i := by have := za ht; omega
       subst hmi
       have hSi : S[m]? = some ((seek (pG ns (itG ns n) m) m m : Nat) : Int) := by rw [za HS]; exact xx hil
       have hrow := za hownS
       rw [xB hSi] at hrow
       have HROW := hide hrow
       clear hSi hrow hownS
       go_wp2
       go_roundw
       case rel => exact ⟨m + 1, by omega, by go_num, HROW, hbW⟩
       case measure => simp [intOf]; omega
    ·have hie : i = ns.length := by omega
     subst hie
     have hrow := za hownS
     rw [show upTo S ns.length = S from by rw [← hSl]; exact Zh S] at hrow
     have HROW := hide hrow
     have hrg := zk (za hown) hbW
     have HRG := hide hrg
     have hgl := qR ns n
     clear hrow hownS hrg
     go_wp2
     go_loopw [8, 9] (fun sv jv wr => ∃ (j : Nat), j ≤ ns.length ∧ jv = .int .i64 j ∧ sv = .bool (agree S (itG ns n) j) ∧ Below W2.heap.size W2 wr)
      (fun _ jv _ => ns.length - (intOf jv).toNat)
     case atStart => exact ⟨0, by omega, rfl, by rw [y7], Below.refl _ _⟩
     case round =>
      obtain ⟨j, hj, rfl, rfl, hb2⟩ := hrel
      by_cases hjl : j < ns.length
      ·obtain ⟨x, hx⟩ : ∃ x, S[j]? = some x := ⟨_, List.getElem?_eq_getElem (by omega)⟩
       obtain ⟨y, hy⟩ : ∃ y, (itG ns n)[j]? = some y := ⟨_, List.getElem?_eq_getElem (by omega)⟩
       have hag := y6 hx hy
       have g1 := (zk (za HROW) hb2).cellAt j (by omega)
       rw [vc, hx] at g1
       have g2 := (zk (za HRG) hb2).cellAt j (by omega)
       rw [vc, hy] at g2
       simp only [Option.map_some] at g1 g2
       have HAG := hide hag
       have HB2 := hide hb2
       clear hx hy hag hb2
       cases hag0 : agree S (itG ns n) j with
       | true =>
        rw [hag0, Bool.true_and] at HAG
        clear hag0
        go_wp2
        go_quiet (fail)
        go_wp2
        go_roundw
        case rel => exact ⟨j + 1, by omega, by go_num, by rw [za HAG]; first | rfl | rw [show (x == y) = decide (x = y) from by by_cases h : x = y <;> simp [h]], zI (za HB2) _⟩
        case measure => simp [intOf]; omega
       | false =>
        rw [hag0, Bool.false_and] at HAG
        clear hag0
        go_wp2
        go_quiet (fail)
        go_wp2
        go_roundw
        case rel => exact ⟨j + 1, by omega, by go_num, by rw [za HAG], zI (za HB2) _⟩
        case measure => simp [intOf]; omega
      ·have hje : j = ns.length := by omega
       subst hje
       have hall : agree S (itG ns n) ns.length = decide (itG ns (n + 1) = itG ns n) := by
        rw [kS hSl hgl, za HS]; rfl
       have hrow3 := zk (za HROW) hb2
       rw [za HS] at hrow3
       have HROW3 := hide (hrow3 : World.ownsRow _ _ _ _ _ _ (iv (itG ns (n + 1))))
       have HB3 := hide ((hbl.trans (hbW.mono hsz)).trans (hb2.mono (Nat.le_trans hsz hbW.size)))
       clear hrow3 hb2
       rw [hall]
       by_cases hst : itG ns (n + 1) = itG ns n
       ·rw [decide_eq_true hst]
        have HST := hide hst
        clear hst hall
        by_cases hn0 : n = 0
        ·subst hn0
         go_wp2
         go_roundw
         case rel => exact ⟨1, W.heap.size, ns.length, by omega, by first | rfl | go_num, rfl, hide (qe (za HROW3) hsz), za HB3⟩
         case measure => first | (simp [intOf]; done) | (simp [intOf]; omega)
        ·have hn1 : (0 : Int) < n := by omega
         go_wp2
         go_ret
         refine ⟨⟨_, rfl, ?_⟩, za HB3⟩
         rw [← vJ hlt (za HST)]
         exact qe (za HROW3) hsz
       ·rw [decide_eq_false hst]
        clear hst hall
        go_wp2
        go_roundw
        case rel => exact ⟨n + 1, W.heap.size, ns.length, by omega, by first | rfl | go_num, rfl, hide (qe (za HROW3) hsz), za HB3⟩
        case measure => first | (simp [intOf]; done) | (simp [intOf]; omega)
  ·go_wp2
   go_ret
   have hn1 : n = ns.length + 1 := by omega
   subst hn1
   exact ⟨⟨_, rfl, za hown⟩, hbl⟩
def walkM (ns : List Nd) (gs : List Int) : Nat → Int → List Int → List Int
 | 0, _, o => o
 | f + 1, at', o => if gAt gs at' ∈ o then o else (ndAt ns (gAt gs at').toNat).2.2.foldl (fun o k => walkM ns gs f k o) (o ++ [gAt gs at'])
def InR (n : Nat) (o : List Int) : Prop := o.Nodup ∧ ∀ x ∈ o, 0 ≤ x ∧ x < n
theorem InR.len {n : Nat} {o : List Int} (h : InR n o) : o.length ≤ n := by
 induction n generalizing o with
 | zero =>
  cases o with
  | nil => exact Nat.le_refl _
  | cons x r => have := h.2 x (by simp); omega
 | succ n ih =>
  by_cases hm : (n : Int) ∈ o
  ·have h1 : InR n (o.erase (n : Int)) := by
    refine ⟨h.1.erase _, fun x hx => ?_⟩
    have := (h.1.mem_erase_iff).1 hx
    have h2 := h.2 x this.2
    have h3 := this.1
    omega
   have := ih h1
   rw [List.length_erase_of_mem hm] at this
   omega
  ·have h1 : InR n o := ⟨h.1, fun x hx => by
    have h2 := h.2 x hx
    have h3 : x ≠ (n : Int) := fun e => hm (e ▸ hx)
    omega⟩
   have := ih h1
   omega
theorem InR.snoc {n : Nat} {o : List Int} {g : Int} (h : InR n o) (h0 : 0 ≤ g ∧ g < n) (hg : g ∉ o) : InR n (o ++ [g]) := by
 refine ⟨?_, fun x hx => ?_⟩
 ·rw [List.nodup_append]
  refine ⟨h.1, by simp, fun a ha b hb => ?_⟩
  simp at hb
  subst hb
  exact fun e => hg (e ▸ ha)
 ·rw [List.mem_append] at hx
  rcases hx with hx | hx
  ·exact h.2 x hx
  ·simp at hx; subst hx; exact h0
def GsOk (n : Nat) (gs : List Int) : Prop := ∀ k : Int, 0 ≤ k → k < n → 0 ≤ gAt gs k ∧ gAt gs k < n
def KidsR (ns : List Nd) : Prop := ∀ nd ∈ ns, ∀ x ∈ nd.2.2, 0 ≤ x ∧ x < ns.length
theorem vV {ns : List Nd} (h : KidsR ns) {k : Int} (h0 : 0 ≤ k) (h1 : k < ns.length) : ∀ x ∈ (ndAt ns k.toNat).2.2, 0 ≤ x ∧ x < ns.length := by
 have hg : ns[k.toNat]? = some (ns[k.toNat]'(by omega)) := List.getElem?_eq_getElem _
 rw [qr hg]
 exact h _ (List.getElem_mem _)
theorem ja {ns : List Nd} {gs : List Int} (hk : KidsR ns) (hg : GsOk ns.length gs) : ∀ (f : Nat) (at' : Int) (o : List Int), 0 ≤ at' → at' < ns.length → InR ns.length o → InR ns.length (walkM ns gs f at' o) ∧ o.length ≤ (walkM ns gs f at' o).length ∧ (∀ x ∈ o, x ∈ walkM ns gs f at' o) := by
 intro f
 induction f with
 | zero => intro at' o _ _ h; exact ⟨h, Nat.le_refl _, fun _ h => h⟩
 | succ f ih =>
  intro at' o h0 h1 h
  unfold walkM
  split
  ·exact ⟨h, Nat.le_refl _, fun _ h => h⟩
  ·rename_i hn
   have hga := hg at' h0 h1
   have key : ∀ (ks : List Int) (o' : List Int), (∀ x ∈ ks, 0 ≤ x ∧ x < ns.length) → InR ns.length o' → InR ns.length (ks.foldl (fun o k => walkM ns gs f k o) o') ∧ o'.length ≤ (ks.foldl (fun o k => walkM ns gs f k o) o').length ∧ (∀ x ∈ o', x ∈ ks.foldl (fun o k => walkM ns gs f k o) o') := by
    intro ks
    induction ks with
    | nil => intro o' _ h'; exact ⟨h', Nat.le_refl _, fun _ h => h⟩
    | cons k r ihk =>
     intro o' hks h'
     have hk0 := hks k (by simp)
     obtain ⟨a1, a2, a3⟩ := ih k o' hk0.1 hk0.2 h'
     obtain ⟨b1, b2, b3⟩ := ihk _ (fun x hx => hks x (by simp [hx])) a1
     exact ⟨b1, Nat.le_trans a2 b2, fun x hx => b3 x (a3 x hx)⟩
   obtain ⟨c1, c2, c3⟩ := key (ndAt ns (gAt gs at').toNat).2.2 (o ++ [gAt gs at']) (vV hk hga.1 hga.2) (h.snoc hga hn)
   refine ⟨c1, ?_, fun x hx => c3 x (by simp [hx])⟩
   simp at c2; omega
def zq (o : List Int) (g : Int) : Int := match o.findIdx? (· == g) with | some i => i | none => -1
theorem yg {o : List Int} {g : Int} {j : Nat} (h : ∀ i, i < j → o[i]? ≠ some g) (hj : o[j]? = some g) : zq o g = j := by
 unfold zq
 have : o.findIdx? (· == g) = some j := by
  rw [List.findIdx?_eq_some_iff_getElem]
  obtain ⟨hjl, hje⟩ := List.getElem?_eq_some_iff.1 hj
  refine ⟨hjl, by simp [hje], fun i hi => ?_⟩
  have := h i hi
  rw [List.getElem?_eq_getElem (by omega)] at this
  simpa using this
 rw [this]
theorem yf {o : List Int} {g : Int} (h : ∀ i, i < o.length → o[i]? ≠ some g) : zq o g = -1 := by
 unfold zq
 have : o.findIdx? (· == g) = none := by
  rw [List.findIdx?_eq_none_iff]
  intro x hx
  obtain ⟨i, hi⟩ := List.getElem?_of_mem hx
  have hil := (List.getElem?_eq_some_iff.1 hi).1
  have := h i hil
  simp
  intro e
  subst e
  exact this hi
 rw [this]
theorem qS (v : Value) (o : List Int) (g : Int) (w : World) (h : IntsAt w v o) :
  Calls Tryd.prog 50 #[v, .int .i64 g] w fun e w' => e = .returned (.int .i64 (zq o g)) ∧ Below w.heap.size w w' := by
 obtain ⟨a, cap, rfl, h1, h2⟩ := h.form
 unfold maxLen at h2
 have H := hide h
 clear h
 go_enter Tryd.func50, Tryd.ntmps50
 go_wp2
 go_loopw [5] (fun i wr => ∃ j : Nat, j ≤ o.length ∧ i = .int .i64 j ∧ Hid (∀ i, i < j → o[i]? ≠ some g) ∧ Below w.heap.size w wr)
  (fun i _ => o.length - (intOf i).toNat)
 case atStart => exact ⟨0, by omega, rfl, hide (fun _ h => absurd h (by omega)), Below.refl _ _⟩
 case round =>
  obtain ⟨j, hj, rfl, hno, hbl⟩ := hrel
  by_cases hlt : j < o.length
  ·obtain ⟨x, hx⟩ : ∃ x, o[j]? = some x := ⟨_, List.getElem?_eq_getElem hlt⟩
   obtain ⟨b, off, rfl, hb, hc⟩ := ((za H).below hbl).cell hx
   by_cases hxg : x = g
   ·subst hxg
    have hp := yg (za hno) hx
    have HP := hide hp
    clear hp hno hx
    go_wp2
    go_ret
    exact ⟨zQ (by rw [za HP]), hbl⟩
   ·have hno2 := hide (fun (i : Nat) (hi : i < j + 1) => (by
     rcases Nat.lt_succ_iff_lt_or_eq.1 hi with h3 | h3
     ·exact za hno i h3
     ·subst h3; rw [hx]; intro e; injection e with e; exact hxg e : o[i]? ≠ some g))
    clear hno hx
    go_wp2
    go_roundw
    case rel => exact ⟨j + 1, by omega, by go_num, hno2, hbl⟩
    case measure => simp [intOf]; omega
  ·have hp := yf (o := o) (g := g) (fun i hi => za hno i (by omega))
   have HP := hide hp
   clear hp hno
   go_wp2
   go_ret
   exact ⟨zQ (by rw [za HP]), hbl⟩
end Go.Proofs.YtnenoaenjaghhaaDoor
