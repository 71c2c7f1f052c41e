/- A part of the proof, put together out of smaller texts: each piece says what it is for. -/
import Derived.Test.YtpbnmhnbkfnaeaaGreatDoorRows
import Derived.Below
import Derived.WalkKit
import Derived.WalkSpells
import Derived.WalkLawsBesides
import Derived.Deep.QuietTactic
import Derived.BigQuiet
import Derived.Deep.RegionHeld3
/- Plain arithmetic of digits: no program is named here. -/
namespace Go.Proofs.YtpbnmhnbkfnaeaaGreatDoor.Nt

/-- the number that digits are, the lowest first -/
def ofd (b : Nat) : List Nat → Nat
  | [] => 0
  | d :: r => d + b * ofd b r

/-- the digits of a number, the lowest first, with fuel -/
def dgf (b : Nat) : Nat → Nat → List Nat
  | 0, _ => []
  | f + 1, n => if n = 0 then [] else n % b :: dgf b f (n / b)

def dg (b n : Nat) : List Nat := dgf b n n

theorem dgf_stable {b : Nat} (hb : 2 ≤ b) : ∀ (f g n : Nat), n ≤ f → n ≤ g → dgf b f n = dgf b g n := by
  intro f
  induction f with
  | zero => intro g n h1 h2; have : n = 0 := by omega
            subst this; cases g <;> simp [dgf]
  | succ f ih =>
    intro g n h1 h2
    cases g with
    | zero => have : n = 0 := by omega
              subst this; simp [dgf]
    | succ g =>
      simp only [dgf]
      by_cases h : n = 0
      · simp [h]
      · have hlt : n / b < n := Nat.div_lt_self (by omega) (by omega)
        simp only [h, if_false]
        rw [ih g (n / b) (by omega) (by omega)]

theorem dg_zero (b : Nat) : dg b 0 = [] := by simp [dg, dgf]

theorem dg_pos {b n : Nat} (hb : 2 ≤ b) (hn : 0 < n) : dg b n = n % b :: dg b (n / b) := by
  unfold dg
  cases n with
  | zero => omega
  | succ m =>
    have hlt : (m + 1) / b < m + 1 := Nat.div_lt_self (by omega) (by omega)
    simp only [dgf]
    rw [if_neg (by omega), dgf_stable hb m ((m + 1) / b) ((m + 1) / b) (by omega) (by omega)]

theorem ofd_dg {b : Nat} (hb : 2 ≤ b) : ∀ n, ofd b (dg b n) = n := by
  intro n
  induction n using Nat.strongRecOn with
  | _ n ih =>
    by_cases h : n = 0
    · subst h; simp [dg_zero, ofd]
    · rw [dg_pos hb (by omega), ofd, ih _ (Nat.div_lt_self (by omega) (by omega))]
      exact Nat.mod_add_div n b

theorem dg_lt {b : Nat} (hb : 2 ≤ b) : ∀ n, ∀ d ∈ dg b n, d < b := by
  intro n
  induction n using Nat.strongRecOn with
  | _ n ih =>
    by_cases h : n = 0
    · subst h; simp [dg_zero]
    · rw [dg_pos hb (by omega)]
      intro d hd
      rcases List.mem_cons.1 hd with rfl | hd
      · exact Nat.mod_lt _ (by omega)
      · exact ih _ (Nat.div_lt_self (by omega) (by omega)) d hd

/-- canonical digits: each below the base, the highest not nought -/
def can (b : Nat) (l : List Nat) : Prop := (∀ d ∈ l, d < b) ∧ (∀ d, l.getLast? = some d → d ≠ 0)

theorem can_nil (b : Nat) : can b [] := ⟨by simp, by simp⟩

theorem ofd_pos_of_can {b : Nat} (hb : 2 ≤ b) : ∀ l, can b l → l ≠ [] → 0 < ofd b l := by
  intro l
  induction l with
  | nil => intro _ h; exact absurd rfl h
  | cons d r ih =>
    intro hc _
    simp only [ofd]
    by_cases hr : r = []
    · subst hr
      have := hc.2 d (by simp)
      simp only [ofd]; omega
    · have hc' : can b r := ⟨fun x hx => hc.1 x (List.mem_cons_of_mem _ hx), fun x hx => hc.2 x (by rw [List.getLast?_cons]; rw [hx]; rfl)⟩
      have h1 := ih hc' hr
      have h2 := Nat.mul_pos (show 0 < b by omega) h1
      omega

theorem can_tail {b d : Nat} {r : List Nat} (h : can b (d :: r)) : can b r :=
  ⟨fun x hx => h.1 x (List.mem_cons_of_mem _ hx), fun x hx => h.2 x (by rw [List.getLast?_cons]; rw [hx]; rfl)⟩

theorem dg_ofd {b : Nat} (hb : 2 ≤ b) : ∀ l, can b l → dg b (ofd b l) = l := by
  intro l
  induction l with
  | nil => intro _; simp [ofd, dg_zero]
  | cons d r ih =>
    intro hc
    have hp := ofd_pos_of_can hb (d :: r) hc (by simp)
    have hd : d < b := hc.1 d (by simp)
    rw [dg_pos hb hp]
    simp only [ofd]
    rw [Nat.add_mul_mod_self_left, Nat.mod_eq_of_lt hd, Nat.add_mul_div_left _ _ (by omega), Nat.div_eq_of_lt hd, Nat.zero_add, ih (can_tail hc)]

theorem dg_can {b : Nat} (hb : 2 ≤ b) : ∀ n, can b (dg b n) := by
  intro n
  refine ⟨dg_lt hb n, ?_⟩
  induction n using Nat.strongRecOn with
  | _ n ih =>
    by_cases h : n = 0
    · subst h; simp [dg_zero]
    · rw [dg_pos hb (by omega)]
      intro d hd
      have hlt : n / b < n := Nat.div_lt_self (by omega) (by omega)
      by_cases hr : dg b (n / b) = []
      · rw [hr] at hd
        simp at hd
        have hz : n / b = 0 := by rw [← ofd_dg hb (n / b), hr]; rfl
        rcases (Nat.div_eq_zero_iff).1 hz with h0 | h0
        · omega
        · rw [← hd, Nat.mod_eq_of_lt h0]; omega
      · rw [List.getLast?_cons] at hd
        have : (dg b (n / b)).getLast? = some d := by
          cases hg : (dg b (n / b)).getLast? with
          | none => exact absurd (List.getLast?_eq_none_iff.1 hg) hr
          | some y => rw [hg] at hd; simpa using hd
        exact ih _ hlt d this

theorem ofd_append (b : Nat) (l m : List Nat) : ofd b (l ++ m) = ofd b l + b ^ l.length * ofd b m := by
  induction l with
  | nil => simp [ofd]
  | cons d r ih => simp only [List.cons_append, ofd, ih, List.length_cons, Nat.pow_succ]; rw [Nat.mul_add, ← Nat.add_assoc, Nat.mul_comm (b ^ r.length) b, Nat.mul_assoc]

theorem ofd_lt {b : Nat} (l : List Nat) (h : ∀ d ∈ l, d < b) : ofd b l < b ^ l.length := by
  induction l with
  | nil => simp [ofd]
  | cons d r ih =>
    have h1 := ih (fun x hx => h x (List.mem_cons_of_mem _ hx))
    have h2 := h d (by simp)
    simp only [ofd, List.length_cons, Nat.pow_succ]
    have h3 : b * (ofd b r + 1) ≤ b * b ^ r.length := Nat.mul_le_mul_left _ h1
    rw [Nat.mul_add] at h3
    rw [Nat.mul_comm (b ^ r.length) b]
    omega

theorem ofd_replicate_zero (b k : Nat) : ofd b (List.replicate k 0) = 0 := by
  induction k with
  | zero => rfl
  | succ k ih => simp [List.replicate_succ, ofd, ih]

/-- noughts at the upper end are struck -/
def strip : List Nat → List Nat
  | [] => []
  | d :: r => match strip r with
    | [] => if d = 0 then [] else [d]
    | x :: y => d :: x :: y

theorem ofd_strip (b : Nat) (l : List Nat) : ofd b (strip l) = ofd b l := by
  induction l with
  | nil => rfl
  | cons d r ih =>
    simp only [strip, ofd]
    rw [← ih]
    cases h : strip r with
    | nil => by_cases hd : d = 0 <;> simp [hd, ofd]
    | cons x y => simp [ofd]

theorem strip_mem {l : List Nat} {d : Nat} (h : d ∈ strip l) : d ∈ l := by
  induction l with
  | nil => simp [strip] at h
  | cons x r ih =>
    simp only [strip] at h
    cases hs : strip r with
    | nil =>
      rw [hs] at h
      by_cases hx : x = 0
      · simp [hx] at h
      · simp [hx] at h; simp [h]
    | cons y z =>
      rw [hs] at h ih
      rcases List.mem_cons.1 h with h | h
      · simp [h]
      · exact List.mem_cons_of_mem _ (ih h)

theorem strip_last {l : List Nat} {d : Nat} (h : (strip l).getLast? = some d) : d ≠ 0 := by
  induction l with
  | nil => simp [strip] at h
  | cons x r ih =>
    simp only [strip] at h
    cases hs : strip r with
    | nil =>
      rw [hs] at h
      by_cases hx : x = 0
      · simp [hx] at h
      · simp [hx] at h; omega
    | cons y z =>
      rw [hs] at h ih
      exact ih (by simpa [List.getLast?_cons] using h)

theorem strip_can {b : Nat} {l : List Nat} (h : ∀ d ∈ l, d < b) : can b (strip l) :=
  ⟨fun d hd => h d (strip_mem hd), fun _ hd => strip_last hd⟩

theorem strip_eq_dg {b : Nat} (hb : 2 ≤ b) {l : List Nat} (h : ∀ d ∈ l, d < b) : strip l = dg b (ofd b l) := by
  rw [← ofd_strip, dg_ofd hb _ (strip_can h)]

theorem strip_snoc_zero (l : List Nat) : strip (l ++ [0]) = strip l := by
  induction l with
  | nil => simp [strip]
  | cons d r ih => simp only [List.cons_append, strip, ih]

theorem strip_snoc_pos (l : List Nat) (d : Nat) (hd : d ≠ 0) : strip (l ++ [d]) = l ++ [d] := by
  induction l with
  | nil => simp [strip, hd]
  | cons x r ih =>
    simp only [List.cons_append, strip, ih]
    cases h : r ++ [d] with
    | nil => simp at h
    | cons _ _ => rfl

theorem dg_inj {b : Nat} (hb : 2 ≤ b) {m n : Nat} (h : dg b m = dg b n) : m = n := by
  rw [← ofd_dg hb m, h, ofd_dg hb]

theorem dg_eq_nil {b : Nat} (hb : 2 ≤ b) {n : Nat} : dg b n = [] ↔ n = 0 := by
  constructor
  · intro h; rw [← ofd_dg hb n, h]; rfl
  · intro h; subst h; exact dg_zero b

theorem lt_pow_dg {b : Nat} (hb : 2 ≤ b) (n : Nat) : n < b ^ (dg b n).length := by
  have := ofd_lt _ (dg_lt hb n)
  rwa [ofd_dg hb] at this

theorem dg_len_le {b : Nat} (hb : 2 ≤ b) {k : Nat} : ∀ {n : Nat}, n < b ^ k → (dg b n).length ≤ k := by
  induction k with
  | zero => intro n h; have : n = 0 := by simpa using h
            subst this; simp [dg_zero]
  | succ k ih =>
    intro n h
    by_cases h0 : n = 0
    · subst h0; simp [dg_zero]
    · rw [dg_pos hb (by omega), List.length_cons]
      have : n / b < b ^ k := by
        rw [Nat.div_lt_iff_lt_mul (by omega)]; rwa [Nat.pow_succ] at h
      have := ih this
      omega

theorem dg_get {b : Nat} (hb : 2 ≤ b) : ∀ (k n : Nat), (dg b n).getD k 0 = n / b ^ k % b := by
  intro k
  induction k with
  | zero =>
    intro n
    by_cases h0 : n = 0
    · subst h0; simp [dg_zero]
    · rw [dg_pos hb (by omega)]; simp
  | succ k ih =>
    intro n
    by_cases h0 : n = 0
    · subst h0; simp [dg_zero]
    · rw [dg_pos hb (by omega)]
      have := ih (n / b)
      rw [List.getD_cons_succ, this, Nat.div_div_eq_div_mul, Nat.pow_succ, Nat.mul_comm (b ^ k) b]

theorem mod_pow_succ' (b n k : Nat) : n % b ^ (k + 1) = n % b ^ k + b ^ k * (n / b ^ k % b) := by
  rw [Nat.pow_succ, Nat.mod_mul]

theorem sub_step {a b k X l ak bk d l' : Nat} (h : X + b % 10 ^ k = a % 10 ^ k + l * 10 ^ k) (ha : a / 10 ^ k % 10 = ak) (hb : b / 10 ^ k % 10 = bk) (hd : d + bk + l = ak + 10 * l') :
    X + 10 ^ k * d + b % 10 ^ (k + 1) = a % 10 ^ (k + 1) + l' * 10 ^ (k + 1) := by
  rw [mod_pow_succ', mod_pow_succ', ha, hb, Nat.pow_succ]
  generalize 10 ^ k = p at *
  have e : p * d + p * bk + l * p = p * ak + l' * (p * 10) := by
    have := congrArg (p * ·) hd
    simp only [Nat.mul_add] at this
    rw [Nat.mul_comm l p, this, Nat.mul_comm l' (p * 10), Nat.mul_assoc]
  omega

theorem add_step {a b k X c ak bk d c' : Nat} (h : X + c * 10 ^ k = a % 10 ^ k + b % 10 ^ k) (ha : a / 10 ^ k % 10 = ak) (hb : b / 10 ^ k % 10 = bk) (hd : d + 10 * c' = ak + bk + c) :
    X + 10 ^ k * d + c' * 10 ^ (k + 1) = a % 10 ^ (k + 1) + b % 10 ^ (k + 1) := by
  rw [mod_pow_succ', mod_pow_succ', ha, hb, Nat.pow_succ]
  generalize 10 ^ k = p at *
  have e : p * d + c' * (p * 10) = p * ak + p * bk + c * p := by
    have := congrArg (p * ·) hd
    simp only [Nat.mul_add] at this
    rw [Nat.mul_comm c p, ← this, Nat.mul_comm c' (p * 10), Nat.mul_assoc]
  omega

theorem ofd_set (b : Nat) (l : List Nat) (j v : Nat) (h : j < l.length) : ofd b (l.set j v) + b ^ j * l[j] = ofd b l + b ^ j * v := by
  induction l generalizing j with
  | nil => simp at h
  | cons d r ih =>
    cases j with
    | zero => simp [ofd]; omega
    | succ j =>
      have := ih j (by simpa using h)
      simp only [List.set_cons_succ, ofd, List.getElem_cons_succ]
      have h2 := congrArg (b * ·) this
      simp only [Nat.mul_add] at h2
      rw [Nat.pow_succ, Nat.mul_comm (b ^ j) b, Nat.mul_assoc, Nat.mul_assoc]
      omega

theorem ofd_ge (b : Nat) (l : List Nat) (j : Nat) (h : j < l.length) : b ^ j * l[j] ≤ ofd b l := by
  have := ofd_set b l j 0 h
  omega

/-- one more product is laid -/
theorem mul_step {a b i k X ai bk x : Nat} (ha : a / 10 ^ i % 10 = ai) (hb : b / 10 ^ k % 10 = bk) (h : X = a % 10 ^ i * b + 10 ^ i * (ai * (b % 10 ^ k))) {Y : Nat} (hY : Y + 10 ^ (i + k) * x = X + 10 ^ (i + k) * (x + ai * bk)) :
    Y = a % 10 ^ i * b + 10 ^ i * (ai * (b % 10 ^ (k + 1))) := by
  rw [mod_pow_succ', hb]
  have e : 10 ^ i * (ai * (b % 10 ^ k + 10 ^ k * bk)) = 10 ^ i * (ai * (b % 10 ^ k)) + 10 ^ (i + k) * (ai * bk) := by
    rw [Nat.mul_add, Nat.mul_add, Nat.pow_add]
    congr 1
    simp only [Nat.mul_assoc, Nat.mul_comm, Nat.mul_left_comm]
  rw [Nat.mul_add] at hY
  subst ha
  omega

theorem mul_row {a b i ai : Nat} (ha : a / 10 ^ i % 10 = ai) : a % 10 ^ i * b + 10 ^ i * (ai * b) = a % 10 ^ (i + 1) * b := by
  rw [mod_pow_succ', ha, Nat.add_mul, Nat.mul_assoc]

/-- one carry -/
theorem carry_step {X x y j Y Z : Nat} (hY : Y + 10 ^ (j + 1) * y = X + 10 ^ (j + 1) * (y + x / 10)) (hZ : Z + 10 ^ j * x = Y + 10 ^ j * (x % 10)) : Z = X := by
  have e : 10 ^ j * x = 10 ^ j * (x % 10) + 10 ^ (j + 1) * (x / 10) := by
    rw [Nat.pow_succ, Nat.mul_assoc, ← Nat.mul_add]; congr 1; omega
  rw [Nat.mul_add] at hY
  omega

theorem ofd_snoc (b : Nat) (l : List Nat) (d : Nat) : ofd b (l ++ [d]) = ofd b l + b ^ l.length * d := by
  rw [ofd_append]; simp [ofd]

end Go.Proofs.YtpbnmhnbkfnaeaaGreatDoor.Nt
/- Texts of numbers: no program is named here. -/
namespace Go.Proofs.YtpbnmhnbkfnaeaaGreatDoor
open Go Nt

open Go.RowKit in
theorem hide {p : Prop} (h : p) : Hid p := h
open Go.RowKit in
theorem unhide {p : Prop} (h : Hid p) : p := h

/-- a text of bytes -/
def B (l : List UInt8) : ByteArray := ⟨l.toArray⟩

theorem B_toList (s : ByteArray) : B s.data.toList = s := by cases s; rfl
theorem B_size (l : List UInt8) : (B l).size = l.length := by simp [B, ByteArray.size]
theorem B_data (l : List UInt8) : (B l).data.toList = l := by simp [B]
theorem B_get (l : List UInt8) (k : Nat) (h : k < (B l).size) : (B l)[k] = l[k]'(by rw [B_size] at h; exact h) := by
  simp [B, ByteArray.getElem_eq_getElem_data]
theorem B_extract (l : List UInt8) (i j : Nat) : (B l).extract i j = B ((l.take j).drop i) := by
  apply ByteArray.ext
  simp [B, ByteArray.data_extract, List.extract_toArray]
  simp [List.drop_take]
theorem B_append (l m : List UInt8) : B l ++ B m = B (l ++ m) := by
  apply ByteArray.ext
  simp [B, ByteArray.data_append]
theorem B_inj {l m : List UInt8} : B l = B m ↔ l = m := by
  constructor
  · intro h; have := congrArg (fun s => s.data.toList) h; simpa [B] using this
  · intro h; rw [h]

/-- a digit's sign -/
def sg (d : Nat) : UInt8 := if d < 10 then UInt8.ofNat (48 + d) else UInt8.ofNat (87 + d)

theorem sg_toNat {d : Nat} (h : d < 16) : (sg d).toNat = if d < 10 then 48 + d else 87 + d := by
  unfold sg; split
  · simp [UInt8.toNat_ofNat']; omega
  · simp [UInt8.toNat_ofNat']; omega

theorem sg_inj {c d : Nat} (hc : c < 16) (hd : d < 16) (h : sg c = sg d) : c = d := by
  have := congrArg UInt8.toNat h
  rw [sg_toNat hc, sg_toNat hd] at this
  split at this <;> split at this <;> omega

/-- the signs of a number's digits in a radix, the highest first -/
def txl (b n : Nat) : List UInt8 := if n = 0 then [48] else ((dg b n).map sg).reverse
def txt (b n : Nat) : ByteArray := B (txl b n)
def dec (n : Nat) : ByteArray := txt 10 n

theorem txl_zero (b : Nat) : txl b 0 = [48] := by simp [txl]
theorem txl_pos {b n : Nat} (h : n ≠ 0) : txl b n = ((dg b n).map sg).reverse := by simp [txl, h]
theorem txl_length_pos {b : Nat} (hb : 2 ≤ b) (n : Nat) : 0 < (txl b n).length := by
  by_cases h : n = 0
  · subst h; simp [txl_zero]
  · rw [txl_pos h]; simp only [List.length_reverse, List.length_map]
    rw [dg_pos hb (by omega)]; simp

theorem lt_pow_txl {b : Nat} (hb : 2 ≤ b) (n : Nat) : n < b ^ (txl b n).length := by
  by_cases h : n = 0
  · subst h; simp only [txl_zero, List.length_singleton, Nat.pow_one]; omega
  · rw [txl_pos h]; simp only [List.length_reverse, List.length_map]; exact lt_pow_dg hb n

theorem txl_len_le {b : Nat} (hb : 2 ≤ b) {k n : Nat} (hk : 0 < k) (h : n < b ^ k) : (txl b n).length ≤ k := by
  by_cases h0 : n = 0
  · subst h0; simp only [txl_zero, List.length_singleton]; omega
  · rw [txl_pos h0]; simp only [List.length_reverse, List.length_map]; exact dg_len_le hb h

theorem txl_inj {b : Nat} (hb : 2 ≤ b) (hb16 : b ≤ 16) {m n : Nat} (h : txl b m = txl b n) : m = n := by
  have key : ∀ m, ofd b (((txl b m).reverse).map fun c => if c.toNat < 58 then c.toNat - 48 else c.toNat - 87) = m := by
    intro m
    by_cases h0 : m = 0
    · subst h0; simp [txl_zero, ofd]
    · rw [txl_pos h0, List.reverse_reverse, List.map_map]
      have : (dg b m).map ((fun c : UInt8 => if c.toNat < 58 then c.toNat - 48 else c.toNat - 87) ∘ sg) = (dg b m).map id := by
        apply List.map_congr_left
        intro d hd
        have hd' := dg_lt hb m d hd
        simp only [Function.comp]
        rw [sg_toNat (by omega)]
        split <;> simp <;> omega
      rw [this, List.map_id, ofd_dg hb]
  rw [← key m, h, key]

theorem dec_size_pos (n : Nat) : 0 < (dec n).size := by
  unfold dec txt; rw [B_size]; exact txl_length_pos (by omega) n
theorem dec_inj {m n : Nat} : dec m = dec n ↔ m = n := by
  constructor
  · intro h; exact txl_inj (by omega) (by omega) (B_inj.1 h)
  · intro h; rw [h]

/-- the k-th digit from the right stands there -/
theorem dec_at (n k : Nat) (h : k < (txl 10 n).length) : ((txl 10 n).reverse)[k]'(by simpa using h) = sg (n / 10 ^ k % 10) := by
  by_cases h0 : n = 0
  · subst h0
    have : k = 0 := by simp [txl_zero] at h; omega
    subst this
    simp [txl_zero, sg]
  · have hl : k < (dg 10 n).length := by rw [txl_pos h0] at h; simpa using h
    have e : (txl 10 n).reverse = (dg 10 n).map sg := by rw [txl_pos h0, List.reverse_reverse]
    have g := dg_get (b := 10) (by omega) k n
    rw [List.getD_eq_getElem?_getD, List.getElem?_eq_getElem hl] at g
    simp only [e, List.getElem_map]
    rw [← g]; rfl

theorem dec_above (n k : Nat) (h : (txl 10 n).length ≤ k) : n / 10 ^ k = 0 := by
  apply Nat.div_eq_of_lt
  exact Nat.lt_of_lt_of_le (lt_pow_txl (by omega) n) (Nat.pow_le_pow_right (by omega) h)

/-- noughts ahead are struck, but for a last one -/
def trim : List UInt8 → List UInt8
  | [] => []
  | c :: r => if c = 48 ∧ r ≠ [] then trim r else c :: r

theorem trim_rev (l : List Nat) (h : ∀ d ∈ l, d < 10) (hl : l ≠ []) : trim ((l.map sg).reverse) = txl 10 (ofd 10 l) := by
  -- by induction from the upper end
  have key : ∀ (n : Nat) (l : List Nat), l.length = n → (∀ d ∈ l, d < 10) → l ≠ [] → trim ((l.map sg).reverse) = txl 10 (ofd 10 l) := by
    intro n
    induction n with
    | zero => intro l hn _ hl; exact absurd (List.eq_nil_of_length_eq_zero hn) hl
    | succ n ih =>
      intro l hn hd hl
      have hdec := List.dropLast_concat_getLast hl
      generalize hm : l.dropLast = m at hdec
      generalize hx : l.getLast hl = x at hdec
      have hxl : x < 10 := hd x (by rw [← hdec]; simp)
      have hml : m.length = n := by rw [← hdec] at hn; simpa using hn
      have hmd : ∀ d ∈ m, d < 10 := fun d h => hd d (by rw [← hdec]; simp [h])
      rw [← hdec, List.map_append, List.reverse_append]
      simp only [List.map_cons, List.map_nil, List.reverse_cons, List.reverse_nil, List.nil_append, List.cons_append, trim]
      by_cases hx0 : x = 0
      · subst hx0
        rw [ofd_append]
        simp only [ofd, Nat.mul_zero, Nat.add_zero]
        by_cases hmn : m = []
        · subst hmn; simp [ofd, txl_zero, sg]
        · rw [if_pos ⟨by simp [sg], by simpa using hmn⟩]
          exact ih m hml hmd hmn
      · have hs : sg x ≠ 48 := by
          intro hc
          have := congrArg UInt8.toNat hc
          rw [sg_toNat (by omega), if_pos hxl] at this
          simp at this; omega
        rw [if_neg (fun hh => hs hh.1)]
        have hcan : can 10 (m ++ [x]) := ⟨fun d h => hd d (by rw [← hdec]; exact h), fun d h => by simp at h; omega⟩
        have hpos := ofd_pos_of_can (by omega) _ hcan (by simp)
        rw [txl_pos (by omega), dg_ofd (by omega) _ hcan]
        simp
  exact key l.length l rfl h hl

theorem trim_txl (n : Nat) : trim (txl 10 n) = txl 10 n := by
  by_cases h0 : n = 0
  · subst h0; simp [txl_zero, trim]
  · have := trim_rev (dg 10 n) (dg_lt (by omega) n) (fun h => h0 ((dg_eq_nil (by omega)).1 h))
    rw [ofd_dg (by omega)] at this
    rwa [txl_pos h0] at this ⊢

theorem trim_length (l : List UInt8) : (trim l).length ≤ l.length := by
  induction l with
  | nil => simp [trim]
  | cons c r ih => simp only [trim]; split <;> simp <;> omega

theorem trim_drop (l : List UInt8) (k : Nat) (h : k + 1 < l.length) (hz : l[k]'(by omega) = 48) : trim (l.drop k) = trim (l.drop (k + 1)) := by
  rw [List.drop_eq_getElem_cons (by omega), hz]
  simp only [trim]
  rw [if_pos ⟨by trivial, by simp; omega⟩]

theorem trim_stop (l : List UInt8) (h : l.length ≤ 1 ∨ ∃ c r, l = c :: r ∧ c ≠ 48) : trim l = l := by
  rcases h with h | ⟨c, r, rfl, hc⟩
  · match l, h with
    | [], _ => rfl
    | [c], _ => simp [trim]
  · simp [trim, hc]
end Go.Proofs.YtpbnmhnbkfnaeaaGreatDoor
/- Small laws on memory that every walk of this seat uses: no program is named here. -/
namespace Go.Proofs.YtpbnmhnbkfnaeaaGreatDoor
open Go.RowKit Nt

theorem ret_str {a b : ByteArray} (h : a = b) : Ending.returned (.string a) = .returned (.string b) := by rw [h]
theorem ret_int {k : IntKind} {a b : Int} (h : a = b) : Ending.returned (.int k a) = .returned (.int k b) := by rw [h]
theorem ret_bool {a b : Bool} (h : a = b) : Ending.returned (.bool a) = .returned (.bool b) := by rw [h]

def u8v (c : UInt8) : Value := .int .u8 c.toNat
def ints (l : List Nat) : List Value := l.map fun (d : Nat) => Value.int .i64 (d : Int)

theorem wi64 (x : Int) (h0 : -9223372036854775808 ≤ x) (h1 : x ≤ 9223372036854775807) : IntKind.i64.wrap x = x := by rw [IntKind.wrap_i64]; omega
theorem wu8 (x : Int) (h0 : 0 ≤ x) (h1 : x ≤ 255) : IntKind.u8.wrap x = x := by rw [IntKind.wrap_u8]; omega
theorem wu64 (x : Int) (h0 : 0 ≤ x) (h1 : x ≤ 18446744073709551615) : IntKind.u64.wrap x = x := by rw [IntKind.wrap_u64]; omega

theorem below_of_drew {n : Nat} {a w : World} (h : Below n a.drew w) : Below n a w := ⟨h.os, h.tape, h.output, h.size, h.block⟩

theorem own_below {w w' : World} {base : Nat} {e : TypeId} {size : Nat} {v : Value} {n : Nat} {xs : List Value} (h : w.ownsRow base e size v n xs) (hb : Below w.heap.size w w') :
    w'.ownsRow base e size v n xs := by
  refine ⟨h.1, ?_⟩
  rcases h.2 with hn | ⟨g, cap, cur, rfl, hbg, hgg, rest⟩
  · exact .inl hn
  · exact .inr ⟨g, cap, cur, rfl, hbg, by rw [hb.block g (Array.getElem?_eq_some_iff.1 hgg).1]; exact hgg, rest⟩

theorem own_base {w : World} {base base' : Nat} {e : TypeId} {size : Nat} {v : Value} {n : Nat} {xs : List Value} (h : w.ownsRow base e size v n xs) (hb : base' ≤ base) :
    w.ownsRow base' e size v n xs := by
  refine ⟨h.1, ?_⟩
  rcases h.2 with hn | ⟨g, cap, cur, rfl, hbg, rest⟩
  · exact .inl hn
  · exact .inr ⟨g, cap, cur, rfl, by omega, rest⟩

theorem below_grown {B : Nat} {w w' : World} {v : Value} {e : TypeId} {size n : Nat} {xs : List Value} {a : World} (h : Below B a w) (own : w.ownsRow B e size v n xs) (hg : w.grownBy w' v.ownBlock) (hB : B ≤ w.heap.size) : Below B a w' :=
  h.grown hg hB (fun k hk => (own.lt k hk).1)

theorem dig_snoc {b d : Nat} {xs : List Nat} (h : Hid (∀ x ∈ xs, x < b)) (hd : d < b) : Hid (∀ x ∈ xs ++ [d], x < b) := by
  intro x hx
  rcases List.mem_append.1 hx with h1 | h1
  · exact unhide h x h1
  · simp at h1; omega

theorem run_conv_bytes {P : Program} {w : World} {src dst e : TypeId} {base sz : Nat} {v : Value} {n : Nat} {l : List UInt8}
    (hs : P.underlying src = some (.slice e)) (he : P.underlying e = some (.int .u8)) (hd : P.underlying dst = some .string)
    (h : w.ownsRow base sz 1 v n (l.map u8v)) : (convert src dst v).run P w = .ok (.string (B l)) w := by
  have hl : l.length = n := by simpa using h.1
  have fold : ∀ (ns : List UInt8) (s : ByteArray), (ns.map (fun c => (c.toNat : Int))).foldl (fun r n => r.push (UInt8.ofNat n.toNat)) s = s ++ B ns := by
    intro ns
    induction ns with
    | nil => intro s; apply ByteArray.ext; simp [B, ByteArray.data_append]
    | cons c r ih =>
      intro s
      simp only [List.map_cons, List.foldl_cons, ih]
      apply ByteArray.ext
      simp [B, ByteArray.data_append, ByteArray.data_push]
  have fold0 : (l.map (fun c => (c.toNat : Int))).foldl (fun r n => r.push (UInt8.ofNat n.toNat)) ByteArray.empty = B l := by
    rw [fold]; apply ByteArray.ext; simp
  rcases h.2 with ⟨rfl, hn⟩ | ⟨g, cap, cur, rfl, _, hg, hnc, _, hcs, htake⟩
  · have : l = [] := List.eq_nil_of_length_eq_zero (by omega)
    subst this
    rw [run_convert_bytes_string w src dst e none 0 0 hs he hd]
    rfl
  · rw [run_convert_bytes_string w src dst e _ _ _ hs he hd]
    have hc := h.cells (g := g) rfl
    have hload := run_loadCells_list (P := P) (w := w) ⟨g, 0, none⟩ (l.map u8v) hc
    have e1 : (l.map u8v) = (l.map (fun c => (c.toNat : Int))).map (Value.int .u8) := by simp [u8v, Function.comp]
    rw [List.length_map, hl] at hload
    rw [e1] at hload
    have := run_bytesToString (P := P) w ⟨g, 0, none⟩ n cap (l.map (fun c => (c.toNat : Int))) hload
    rw [this, fold0]

theorem own_cell_some {w : World} {base : Nat} {e : TypeId} {g n cap : Nat} {xs : List Value} (h : w.ownsRow base e 1 (.slice (some ⟨g, 0, none⟩) n cap) n xs) (j : Nat) (hj : j < n) :
    ∃ v, w.cell? ⟨g, j, none⟩ = some v := by
  have hx : xs.length = n := by simpa using h.1
  exact ⟨xs[j], by rw [h.cellAt j (by omega)]; exact List.getElem?_eq_getElem (by omega)⟩

theorem u8v_sg {d : Nat} (h : d < 10) : u8v (sg d) = .int .u8 (48 + (d : Int)) := by
  unfold u8v; rw [sg_toNat (by omega), if_pos h]; simp

theorem ints_snoc (l : List Nat) (d : Nat) : ints l ++ [.int .i64 (d : Int)] = ints (l ++ [d]) := by simp [ints]
end Go.Proofs.YtpbnmhnbkfnaeaaGreatDoor
/- Data in memory: lists of ints, nodes, data, as they are read. -/
namespace Go.Proofs.YtpbnmhnbkfnaeaaGreatDoor
open Go.RowKit Nt

abbrev Nd := Int × List UInt8 × List Int
abbrev Dt := List Nd × List Int

/-- a slice of ints reads so -/
def IntsAt (w : World) (v : Value) (xs : List Int) : Prop :=
  ∃ a cap, v = .slice a xs.length cap ∧ xs.length ≤ cap ∧ cap ≤ maxLen ∧ (0 < xs.length → ∃ b off, a = some ⟨b, off, none⟩ ∧ b < w.heap.size ∧ ∀ j x, xs[j]? = some x → w.cell? ⟨b, off + j, none⟩ = some (.int .i64 x))
theorem IntsAt.below {w w' : World} {v : Value} {xs : List Int} (h : IntsAt w v xs) (k : Below w.heap.size w w') : IntsAt w' v xs := by
  obtain ⟨a, cap, rfl, h1, h2, h3⟩ := h
  refine ⟨a, cap, rfl, h1, h2, fun h0 => ?_⟩
  obtain ⟨b, off, rfl, hb, hc⟩ := h3 h0
  exact ⟨b, off, rfl, Nat.lt_of_lt_of_le hb k.size, fun j x hx => by rw [k.cell (p := ⟨b, off + j, none⟩) hb]; exact hc j x hx⟩
theorem IntsAt.len {w : World} {v : Value} {xs : List Int} (h : IntsAt w v xs) : xs.length ≤ maxLen := by
  obtain ⟨a, cap, _, h1, h2, _⟩ := h; omega

/-- a slice of nodes reads so: three cells a node -/
def NodesAt (w : World) (v : Value) (ns : List Nd) : Prop :=
  ∃ a cap, v = .slice a ns.length cap ∧ ns.length ≤ cap ∧ cap ≤ maxLen ∧ (0 < ns.length → ∃ b off, a = some ⟨b, off, none⟩ ∧ b < w.heap.size ∧ ∀ j nd, ns[j]? = some nd →
    w.cell? ⟨b, off + j * 3, none⟩ = some (.int .i64 nd.1) ∧ w.cell? ⟨b, off + j * 3 + 1, none⟩ = some (.string (B nd.2.1)) ∧ nd.2.1.length ≤ maxLen ∧ ∃ kv, w.cell? ⟨b, off + j * 3 + 2, none⟩ = some kv ∧ IntsAt w kv nd.2.2)
theorem NodesAt.below {w w' : World} {v : Value} {ns : List Nd} (h : NodesAt w v ns) (k : Below w.heap.size w w') : NodesAt w' v ns := by
  obtain ⟨a, cap, rfl, h1, h2, h3⟩ := h
  refine ⟨a, cap, rfl, h1, h2, fun h0 => ?_⟩
  obtain ⟨b, off, rfl, hb, hc⟩ := h3 h0
  refine ⟨b, off, rfl, Nat.lt_of_lt_of_le hb k.size, fun j nd hx => ?_⟩
  obtain ⟨c0, c1, hl, kv, c2, hk⟩ := hc j nd hx
  exact ⟨by rw [k.cell (p := ⟨b, off + j * 3, none⟩) hb]; exact c0, by rw [k.cell (p := ⟨b, off + j * 3 + 1, none⟩) hb]; exact c1, hl, kv, by rw [k.cell (p := ⟨b, off + j * 3 + 2, none⟩) hb]; exact c2, hk.below k⟩
/-- data read so -/
def DataAt (w : World) (v : Value) (d : Dt) : Prop := ∃ nv rv, v = .agg #[nv, rv] ∧ NodesAt w nv d.1 ∧ IntsAt w rv d.2
theorem DataAt.below {w w' : World} {v : Value} {d : Dt} (h : DataAt w v d) (k : Below w.heap.size w w') : DataAt w' v d := by
  obtain ⟨nv, rv, rfl, h1, h2⟩ := h; exact ⟨nv, rv, rfl, h1.below k, h2.below k⟩

def szR (left : Int) (n : Nat) : Int := if left < n then -1 else left - n
set_option maxHeartbeats 4000000 in
theorem szIntS_c (v : Value) (xs : List Int) (left : Int) (w : World) (h : IntsAt w v xs) (hl : 0 ≤ left ∧ left ≤ 1048576) :
    Calls Tryz.prog 48 #[v, .int .i64 left] w fun e w' => e = .returned (.int .i64 (szR left xs.length)) ∧ w' = w := by
  have hm := h.len
  obtain ⟨a, cap, rfl, h1, h2, _⟩ := h
  unfold maxLen at hm h2
  by_cases hlt : left < xs.length
  · have hn : left - xs.length < 0 := by omega
    go_enter Tryz.func48, Tryz.ntmps48
    go_wp2
    go_ret
    exact ⟨ret_int (by rw [szR, if_pos (by omega)]), rfl⟩
  · have hn : ¬ left - xs.length < 0 := by omega
    go_enter Tryz.func48, Tryz.ntmps48
    go_wp2
    go_ret
    exact ⟨ret_int (by rw [szR, if_neg (by omega)]), rfl⟩
end Go.Proofs.YtpbnmhnbkfnaeaaGreatDoor
/- More small laws on memory: no program is named here. -/
namespace Go.Proofs.YtpbnmhnbkfnaeaaGreatDoor
open Go.RowKit Nt

theorem newcell {w w3 : World} {cs : Array Value} {T : TypeId} (h : Below (w.heap.size + 1) (w.alloc (.cells cs T)) w3) (j : Nat) : w3.cell? ⟨w.heap.size, j, none⟩ = cs[j]? := by
  rw [h.cell (p := ⟨w.heap.size, j, none⟩) (Nat.lt_succ_self _)]
  exact World.cell?_alloc_at cs T _ j rfl
theorem newfree {w w3 : World} {cs : Array Value} {T : TypeId} (h : Below (w.heap.size + 1) (w.alloc (.cells cs T)) w3) (j : Nat) : w3.frozen? ⟨w.heap.size, j, none⟩ = false := by
  rw [h.frozen (p := ⟨w.heap.size, j, none⟩) (Nat.lt_succ_self _)]
  exact World.frozen?_alloc_at cs T _ j rfl
theorem below_new {w w3 : World} {o : Obj} (h : Below (w.heap.size + 1) (w.alloc o) w3) : Below w.heap.size w w3 :=
  ((Below.refl _ _).alloc (Nat.le_refl _) _).trans (h.mono (by omega))
theorem below_alloc_size {w w1 : World} {o : Obj} (h : Below (w.alloc o).heap.size (w.alloc o) w1) : Below (w.heap.size + 1) (w.alloc o) w1 := by simpa using h
/-- a chain of calls -/
theorem below_next {B : Nat} {a b c : World} (h : Below B a b) (hB : B ≤ b.heap.size) (k : Below b.heap.size b c) : Below B a c ∧ B ≤ c.heap.size :=
  ⟨h.trans (k.mono hB), Nat.le_trans hB k.size⟩
theorem below_same {B : Nat} {a b : World} (h : Below B a b) : Below B a b := h

def u64s (l : List Nat) : List Value := l.map fun (d : Nat) => Value.int .u64 (d : Int)
theorem u64s_length (l : List Nat) : (u64s l).length = l.length := by simp [u64s]
theorem u64s_get (l : List Nat) (j : Nat) (h : j < l.length) : (u64s l)[j]? = some (.int .u64 (l[j] : Nat)) := by simp [u64s, h]
theorem u64s_set (l : List Nat) (j d : Nat) (v : Int) (h : v = (d : Int)) : (u64s l).set j (.int .u64 v) = u64s (l.set j d) := by rw [h]; simp [u64s, List.map_set]
theorem u64s_zero (n : Nat) : List.replicate n (Value.int .u64 0) = u64s (List.replicate n 0) := by simp [u64s]
theorem u64s_snoc (l : List Nat) (d : Nat) : u64s l ++ [.int .u64 (d : Int)] = u64s (l ++ [d]) := by simp [u64s]

theorem own_take {w : World} {base : Nat} {e : TypeId} {g n cap : Nat} {xs : List Value} (h : w.ownsRow base e 1 (.slice (some ⟨g, 0, none⟩) n cap) n xs) (k : Nat) (hk : k ≤ n) :
    w.ownsRow base e 1 (.slice (some ⟨g, 0, none⟩) k cap) k (xs.take k) := by
  have hx : xs.length = n := by simpa using h.1
  refine ⟨by simp; omega, ?_⟩
  rcases h.2 with ⟨h', _⟩ | ⟨g', cap', cur, h', hb, hg, hnc, hcm, hcs, htake⟩
  · simp at h'
  · simp only [Value.slice.injEq, Option.some.injEq, Addr.mk.injEq, and_true, true_and] at h'
    obtain ⟨rfl, rfl⟩ := h'
    refine .inr ⟨g, cap, cur, rfl, hb, hg, by omega, hcm, hcs, ?_⟩
    rw [← htake, List.take_take]; simp; omega

/-- a slice that is owned: nil, or from a row's head on -/
theorem own_shape {w : World} {base : Nat} {e : TypeId} {v : Value} {n : Nat} {xs : List Value} (h : w.ownsRow base e 1 v n xs) :
    (v = .slice none 0 0 ∧ n = 0 ∧ xs = []) ∨ ∃ g cap, v = .slice (some ⟨g, 0, none⟩) n cap ∧ n ≤ cap ∧ base ≤ g ∧ g < w.heap.size := by
  rcases h.2 with ⟨rfl, hn⟩ | ⟨g, cap, cur, rfl, hb, hg, hnc, _⟩
  · left
    exact ⟨rfl, hn, List.eq_nil_of_length_eq_zero (by have := h.1; omega)⟩
  · right
    exact ⟨g, cap, rfl, hnc, hb, (Array.getElem?_eq_some_iff.1 hg).1⟩

theorem own_slice {w : World} {base : Nat} {e : TypeId} {v : Value} {n : Nat} {xs : List Value} (h : w.ownsRow base e 1 v n xs) : ∃ p cap, v = .slice p n cap := by
  rcases own_shape h with ⟨rfl, rfl, _⟩ | ⟨g, cap, rfl, _⟩
  · exact ⟨_, _, rfl⟩
  · exact ⟨_, _, rfl⟩
/-- .. and where it has an element it stands at a row's head -/
theorem own_some {w : World} {base : Nat} {e : TypeId} {v : Value} {n : Nat} {xs : List Value} (h : w.ownsRow base e 1 v n xs) (hn : 0 < n) :
    ∃ g cap, v = .slice (some ⟨g, 0, none⟩) n cap ∧ n ≤ cap ∧ base ≤ g ∧ g < w.heap.size := by
  rcases own_shape h with ⟨_, rfl, _⟩ | hh
  · omega
  · exact hh

theorem set_all {p : Nat → Prop} {l : List Nat} {j v : Nat} (h : ∀ d ∈ l, p d) (hv : p v) : ∀ d ∈ l.set j v, p d := by
  intro d hd
  rcases List.mem_or_eq_of_mem_set hd with h1 | h1
  · exact h d h1
  · rw [h1]; exact hv

theorem own_block_full {w : World} {base e g n : Nat} {xs : List Value} (h : w.ownsRow base e 1 (.slice (some ⟨g, 0, none⟩) n n) n xs) : w.heap[g]? = some (.cells xs.toArray e (0, 0)) := by
  rcases h.2 with ⟨h', _⟩ | ⟨g', cap', cur, h', hb, hg, hnc, hcm, hcs, htake⟩
  · simp at h'
  · simp only [Value.slice.injEq, Option.some.injEq, Addr.mk.injEq, and_true, true_and] at h'
    obtain ⟨rfl, rfl⟩ := h'
    rw [hg]
    have : cur.toList = xs := by
      rw [← htake, List.take_of_length_le]
      rw [Array.length_toList, hcs]; exact Nat.le_refl _
    rw [← this]
theorem own_of_block_full {w : World} {base e g n : Nat} {xs : List Value} (h : w.heap[g]? = some (.cells xs.toArray e (0, 0))) (hl : xs.length = n) (hn : n ≤ maxLen) (hb : base ≤ g) :
    w.ownsRow base e 1 (.slice (some ⟨g, 0, none⟩) n n) n xs := by
  refine ⟨by omega, .inr ⟨g, n, xs.toArray, rfl, hb, h, Nat.le_refl _, hn, by simp; omega, ?_⟩⟩
  rw [List.take_of_length_le (by simp; omega)]
theorem u64s_one (l : List Nat) : ∀ u ∈ u64s l, u.oneCell' = true := by
  intro u hu
  obtain ⟨d, _, rfl⟩ := List.mem_map.1 hu
  rfl
theorem u64s_append (l m : List Nat) : u64s (l ++ m) = u64s l ++ u64s m := by simp [u64s]
theorem u64s_drop (l : List Nat) (k : Nat) : u64s (l.drop k) = (u64s l).drop k := by simp [u64s, List.map_drop]

theorem wi32 (x : Int) (h0 : -2147483648 ≤ x) (h1 : x ≤ 2147483647) : IntKind.i32.wrap x = x := by rw [IntKind.wrap_i32]; omega
end Go.Proofs.YtpbnmhnbkfnaeaaGreatDoor
/- Generic words on memory: boxes of two cells; what only blocks of a set have turned. No program is named here. -/
namespace Go.Proofs.YtpbnmhnbkfnaeaaGreatDoor
open Go.RowKit Nt

/-- a box of two cells -/
def AtC2 (w : World) (b : Nat) (x y : Value) (T : TypeId) : Prop := w.heap[b]? = some (.cells #[x, y] T (0, 0))
theorem AtC2.lt {w : World} {b : Nat} {x y : Value} {T : TypeId} (h : AtC2 w b x y T) : b < w.heap.size := (Array.getElem?_eq_some_iff.1 h).1
theorem AtC2.new (w : World) (x y : Value) (T : TypeId) : AtC2 (w.alloc (.cells #[x, y] T)) w.heap.size x y T := by
  show (w.heap.push _)[w.heap.size]? = _; rw [Array.getElem?_push, if_pos rfl]
theorem AtC2.below {w w' : World} {b : Nat} {x y : Value} {T : TypeId} (h : AtC2 w b x y T) (k : Below w.heap.size w w') : AtC2 w' b x y T := (k.block b h.lt).trans h
theorem AtC2.n0 {w : World} {b : Nat} {x y : Value} {T : TypeId} (h : AtC2 w b x y T) : w.cell? ⟨b, 0, none⟩ = some x := by unfold AtC2 at h; simp [World.cell?, h]
theorem AtC2.n1 {w : World} {b : Nat} {x y : Value} {T : TypeId} (h : AtC2 w b x y T) : w.cell? ⟨b, 1, none⟩ = some y := by unfold AtC2 at h; simp [World.cell?, h]
theorem AtC2.f {w : World} {b : Nat} {x y : Value} {T : TypeId} (h : AtC2 w b x y T) (j : Nat) : w.frozen? ⟨b, j, none⟩ = false := by unfold AtC2 at h; simp [World.frozen?, h]

theorem AtC2.far {w : World} {b : Nat} {x y : Value} {T : TypeId} (h : AtC2 w b x y T) {a : Addr} (ha : a.block ≠ b) (u : Value) : AtC2 (w.setCell a u) b x y T := by
  unfold AtC2
  obtain ⟨g, o, sp⟩ := a
  rw [Below.heap_setCell _ _ _ _ (Ne.symm ha)]
  exact h
theorem AtC2.st0 {w : World} {b : Nat} {x y : Value} {T : TypeId} (h : AtC2 w b x y T) (u : Value) : AtC2 (w.setCell ⟨b, 0, none⟩ u) b u y T := by
  show (w.heap.modify b _)[b]? = _
  rw [Array.getElem?_modify, if_pos rfl, show w.heap[b]? = _ from h]; rfl

theorem AtC2.st1 {w : World} {b : Nat} {x y : Value} {T : TypeId} (h : AtC2 w b x y T) (u : Value) : AtC2 (w.setCell ⟨b, 1, none⟩ u) b x u T := by
  show (w.heap.modify b _)[b]? = _
  rw [Array.getElem?_modify, if_pos rfl, show w.heap[b]? = _ from h]; rfl
theorem step_b {a w w' : World} (h : Below a.heap.size a w) (hb : Below w.heap.size w w') : Below a.heap.size a w' := h.trans (hb.mono h.size)
theorem step_a {a w : World} (h : Below a.heap.size a w) (o : Obj) : Below a.heap.size a (w.alloc o) := h.alloc h.size o

/-- only blocks of a set were written -/
structure Kept (S : Nat → Prop) (w w' : World) : Prop where
  os : w'.os = w.os
  tape : w'.tape = w.tape
  output : w'.output = w.output
  size : w.heap.size ≤ w'.heap.size
  block : ∀ b, b < w.heap.size → ¬ S b → w'.heap[b]? = w.heap[b]?
theorem Kept.refl (S : Nat → Prop) (w : World) : Kept S w w := ⟨rfl, rfl, rfl, Nat.le_refl _, fun _ _ _ => rfl⟩
theorem Kept.trans {S : Nat → Prop} {w w' w'' : World} (h : Kept S w w') (k : Kept S w' w'') : Kept S w w'' :=
  ⟨k.os.trans h.os, k.tape.trans h.tape, k.output.trans h.output, Nat.le_trans h.size k.size, fun b hb ho => (k.block b (Nat.lt_of_lt_of_le hb h.size) ho).trans (h.block b hb ho)⟩
theorem Kept.of_below {S : Nat → Prop} {w w' : World} (h : Below w.heap.size w w') : Kept S w w' := ⟨h.os, h.tape, h.output, h.size, fun b hb _ => h.block b hb⟩
theorem Kept.of_grown {S : Nat → Prop} {w w' : World} {row : Option Nat} (h : w.grownBy w' row) (hr : ∀ i, row = some i → S i) : Kept S w w' :=
  ⟨h.os, h.tape, h.output, h.size, fun b hb ho => h.block b hb (fun e => ho (hr b e.symm))⟩
theorem Kept.set {S : Nat → Prop} {w : World} {a : Addr} (h : S a.block) (u : Value) : Kept S w (w.setCell a u) :=
  ⟨rfl, rfl, rfl, by simp, fun b _ ho => heap_setCell_other w a b u (fun e => ho (by rw [e]; exact h))⟩
theorem Kept.mono {S S' : Nat → Prop} {w w' : World} (h : Kept S w w') (hs : ∀ b, S b → S' b) : Kept S' w w' := ⟨h.os, h.tape, h.output, h.size, fun b hb ho => h.block b hb (fun e => ho (hs b e))⟩
/-- what lies below base is as it was -/
theorem Kept.below {S : Nat → Prop} {base : Nat} {w w' : World} (h : Kept S w w') (hb : base ≤ w.heap.size) (hs : ∀ b, S b → base ≤ b) : Below base w w' :=
  ⟨h.os, h.tape, h.output, h.size, fun b hlt => h.block b (by omega) (fun e => by have := hs b e; omega)⟩

theorem AtC2.kept {S : Nat → Prop} {w w' : World} {b : Nat} {x y : Value} {T : TypeId} (h : AtC2 w b x y T) (k : Kept S w w') (hb : ¬ S b) : AtC2 w' b x y T := (k.block b h.lt hb).trans h
theorem AtC2.alloc {w : World} {b : Nat} {x y : Value} {T : TypeId} (h : AtC2 w b x y T) (o : Obj) : AtC2 (w.alloc o) b x y T := h.below ((Below.refl _ _).alloc (Nat.le_refl _) o)
theorem drewN_below (w : World) (n : Nat) : Below w.heap.size w (w.drewN n) := by
  induction n with
  | zero => exact Below.refl _ _
  | succ n ih => exact ih.drew
end Go.Proofs.YtpbnmhnbkfnaeaaGreatDoor
namespace Go.Proofs.YtpbnmhnbkfnaeaaGreatDoor
open Go.RowKit Nt

/-- a node as it lies in its three cells -/
def NdAt (w : World) (v : Value) (nd : Nd) : Prop := ∃ kv, v = .agg #[.int .i64 nd.1, .string (B nd.2.1), kv] ∧ nd.2.1.length ≤ maxLen ∧ IntsAt w kv nd.2.2

set_option maxRecDepth 100000 in
set_option maxHeartbeats 4000000 in
theorem szReadNode_c (v : Value) (nd : Nd) (left : Int) (w : World) (h : NdAt w v nd) (hl : 0 ≤ left ∧ left ≤ 1048576) :
    Calls Tryz.prog 88 #[v, .int .i64 left] w fun e w' => (∃ r, e = .returned (.int .i64 r) ∧ r ≤ left ∧ (0 ≤ r → (nd.2.1.length : Int) ≤ left ∧ (nd.2.2.length : Int) ≤ left)) ∧ Below w.heap.size w w' := by
  obtain ⟨s, text, kids⟩ := nd
  obtain ⟨kv, rfl, htl, hk⟩ := h
  unfold maxLen at htl
  have hB := B_size text
  have hbb := (Below.refl w.heap.size w).alloc (Nat.le_refl _) (.cells #[.int .i64 s, .string (B text), kv] 117)
  have HK := hide (hk.below hbb)
  have HBB := hide hbb
  clear hk hbb
  simp only at *
  by_cases hlt : left < text.length
  · have hn : left - text.length < 0 := by omega
    go_enter Tryz.func88, Tryz.ntmps88
    go_wp2
    go_ret
    exact ⟨⟨-1, rfl, by omega, by omega⟩, unhide HBB⟩
  · have hn : ¬ left - text.length < 0 := by omega
    go_enter Tryz.func88, Tryz.ntmps88
    go_wp2_with fail
    have h := szIntS_c kv kids (left - text.length) _ (unhide HK) ⟨by omega, by omega⟩
    refine h.mono ?_
    clear h
    rintro e w1 ⟨rfl, rfl⟩
    by_cases h2 : left - text.length < kids.length
    · rw [show szR (left - text.length) kids.length = -1 from by unfold szR; rw [if_pos h2]]
      go_wp2
      go_ret
      exact ⟨⟨-1, rfl, by omega, by omega⟩, unhide HBB⟩
    · rw [show szR (left - text.length) kids.length = left - text.length - kids.length from by unfold szR; rw [if_neg h2]]
      have hn2 : ¬ left - text.length - kids.length < 0 := by omega
      go_wp2
      go_ret
      exact ⟨⟨_, rfl, by omega, fun _ => ⟨by omega, by omega⟩⟩, unhide HBB⟩

/-- sizes of all lists, none above a bound -/
def NsSmall (ns : List Nd) : Prop := ∀ nd ∈ ns, nd.2.1.length ≤ 1048576 ∧ nd.2.2.length ≤ 1048576
theorem NodesAt.len {w : World} {v : Value} {ns : List Nd} (h : NodesAt w v ns) : ns.length ≤ maxLen := by
  obtain ⟨a, cap, _, h1, h2, _⟩ := h; omega
theorem NodesAt.node {w : World} {b off n cap : Nat} {ns : List Nd} (h : NodesAt w (.slice (some ⟨b, off, none⟩) n cap) ns) {k : Nat} {nd : Nd} (hk : ns[k]? = some nd) :
    ∃ kv, w.cell? ⟨b, off + k * 3, none⟩ = some (.int .i64 nd.1) ∧ w.cell? ⟨b, off + k * 3 + 1, none⟩ = some (.string (B nd.2.1)) ∧ w.cell? ⟨b, off + k * 3 + 2, none⟩ = some kv ∧ nd.2.1.length ≤ maxLen ∧ IntsAt w kv nd.2.2 := by
  obtain ⟨a, c, hv, h1, h2, h3⟩ := h
  have h0 : 0 < ns.length := by
    have := (List.getElem?_eq_some_iff.1 hk).1; omega
  obtain ⟨b', off', rfl, hb, hc⟩ := h3 h0
  injection hv with e1 e2 e3
  injection e1 with e1
  injection e1 with e4 e5
  subst e4 e5
  obtain ⟨c0, c1, hl, kv, c2, hk'⟩ := hc k nd hk
  exact ⟨kv, c0, c1, c2, hl, hk'⟩
theorem NodesAt.form {w : World} {v : Value} {ns : List Nd} (h : NodesAt w v ns) (h0 : 0 < ns.length) : ∃ b off cap, v = .slice (some ⟨b, off, none⟩) ns.length cap ∧ ns.length ≤ cap ∧ cap ≤ maxLen ∧ b < w.heap.size := by
  obtain ⟨a, c, hv, h1, h2, h3⟩ := h
  obtain ⟨b', off', rfl, hb, hc⟩ := h3 h0
  exact ⟨b', off', c, hv, h1, h2, hb⟩

set_option maxRecDepth 100000 in
set_option maxHeartbeats 4000000 in
theorem szReadNodeS_c (v : Value) (ns : List Nd) (left : Int) (w : World) (h : NodesAt w v ns) (hl : 0 ≤ left ∧ left ≤ 1048576) :
    Calls Tryz.prog 47 #[v, .int .i64 left] w fun e w' => (∃ r, e = .returned (.int .i64 r) ∧ r ≤ left ∧ (0 ≤ r → (ns.length : Int) ≤ left ∧ NsSmall ns)) ∧ Below w.heap.size w w' := by
  have hm := h.len
  unfold maxLen at hm
  by_cases hlt : left < ns.length
  · obtain ⟨a, cap, rfl, h1, h2, _⟩ := h
    unfold maxLen at h2
    have hn : left - ns.length < 0 := by omega
    go_enter Tryz.func47, Tryz.ntmps47
    go_wp2
    go_ret
    exact ⟨⟨-1, rfl, by omega, by omega⟩, Below.refl _ _⟩
  · have hn : ¬ left - ns.length < 0 := by omega
    by_cases h0 : ns.length = 0
    · obtain ⟨a, cap, rfl, h1, h2, _⟩ := h
      unfold maxLen at h2
      have hns : ns = [] := List.length_eq_zero_iff.1 h0
      subst hns
      have hn0 : ¬ left < 0 := by omega
      go_enter Tryz.func47, Tryz.ntmps47
      go_wp2
      go_loopw [1, 5] (fun l i wr => i = .int .i64 0 ∧ l = .int .i64 left ∧ wr = w) (fun _ _ _ => 0)
      case atStart => exact ⟨rfl, rfl, rfl⟩
      case round =>
        obtain ⟨rfl, rfl, rfl⟩ := hrel
        go_wp2
        go_ret
        exact ⟨⟨_, rfl, by omega, fun _ => ⟨by simp; omega, by intro nd h; simp at h⟩⟩, Below.refl _ _⟩
    · obtain ⟨b, off, cap, rfl, h1, h2, hb⟩ := h.form (by omega)
      unfold maxLen at h2
      have H := hide h
      clear h
      go_enter Tryz.func47, Tryz.ntmps47
      go_wp2
      go_loopw [1, 5] (fun l i wr => ∃ (k : Nat) (x : Int), k ≤ ns.length ∧ i = .int .i64 k ∧ l = .int .i64 x ∧ 0 ≤ x ∧ x ≤ left - ns.length ∧ Below w.heap.size w wr ∧ NsSmall (ns.take k))
        (fun _ i _ => ns.length - (intOf i).toNat)
      case atStart => exact ⟨0, _, by omega, rfl, rfl, by omega, by omega, Below.refl _ _, by intro nd h; simp at h⟩
      case round =>
        obtain ⟨k, x, hk, rfl, rfl, hx0, hx1, hbl, hsm⟩ := hrel
        have hsz := hbl.size
        by_cases hlt2 : k < ns.length
        · obtain ⟨nd, hnd⟩ : ∃ nd, ns[k]? = some nd := ⟨_, List.getElem?_eq_getElem hlt2⟩
          obtain ⟨kv, c0, c1, c2, htl, hk2⟩ := ((unhide H).below hbl).node hnd
          go_wp2_with fail
          have h := szReadNode_c (.agg #[.int .i64 nd.1, .string (B nd.2.1), kv]) nd x wr ⟨kv, rfl, htl, hk2⟩ ⟨hx0, by omega⟩
          refine h.mono ?_
          clear h
          rintro e w1 ⟨⟨r, rfl, hr1, hr2⟩, hb1⟩
          by_cases hr : r < 0
          · go_wp2
            go_ret
            exact ⟨⟨-1, rfl, by omega, by omega⟩, hbl.trans (hb1.mono hsz)⟩
          · have hr0 : 0 ≤ r := by omega
            go_wp2
            go_roundw
            case rel =>
              refine ⟨k + 1, r, by omega, by go_num, rfl, hr0, by omega, hbl.trans (hb1.mono hsz), ?_⟩
              intro nd' hm'
              rw [List.take_add_one, hnd] at hm'
              simp only [Option.toList_some, List.mem_append, List.mem_singleton] at hm'
              rcases hm' with hm' | rfl
              · exact hsm nd' hm'
              · have := hr2 hr0; omega
            case measure => simp [intOf]; omega
        · go_wp2
          go_ret
          refine ⟨⟨_, rfl, by omega, fun _ => ⟨by omega, ?_⟩⟩, hbl⟩
          have := hsm
          rwa [List.take_of_length_le (by omega)] at this

set_option maxRecDepth 100000 in
set_option maxHeartbeats 4000000 in
theorem szReadData_c (v : Value) (d : Dt) (w : World) (h : DataAt w v d) :
    Calls Tryz.prog 21 #[v, .int .i64 1048576] w fun e w' => (∃ r, e = .returned (.int .i64 r) ∧ (0 ≤ r → d.1.length ≤ 1048576 ∧ d.2.length ≤ 1048576 ∧ NsSmall d.1)) ∧ Below w.heap.size w w' := by
  obtain ⟨ns, rs⟩ := d
  obtain ⟨nv, rv, rfl, hn, hr⟩ := h
  have hbb := (Below.refl w.heap.size w).alloc (Nat.le_refl _) (.cells #[nv, rv] 42)
  have HN := hide (hn.below hbb)
  have HR := hide (hr.below hbb)
  have HBB := hide hbb
  clear hn hr hbb
  simp only at *
  go_enter Tryz.func21, Tryz.ntmps21
  go_wp2_with fail
  have h := szReadNodeS_c nv ns 1048576 _ (unhide HN) ⟨by omega, by omega⟩
  refine h.mono ?_
  clear h
  rintro e w1 ⟨⟨r, rfl, hr1, hr2⟩, hb1⟩
  by_cases hr : r < 0
  · go_wp2
    go_ret
    exact ⟨⟨-1, rfl, by omega⟩, (unhide HBB).trans (hb1.mono (unhide HBB).size)⟩
  · have hr0 : 0 ≤ r := by omega
    have hA := (AtC2.new w nv rv 42).below hb1
    have a0 := hA.n0
    have a1 := hA.n1
    go_wp2_with fail
    have h := szIntS_c rv rs r w1 ((unhide HR).below hb1) ⟨by omega, by omega⟩
    refine h.mono ?_
    clear h
    rintro e w2 ⟨rfl, rfl⟩
    by_cases h2 : r < rs.length
    · rw [show szR r rs.length = -1 from by unfold szR; rw [if_pos h2]]
      go_wp2
      go_ret
      exact ⟨⟨-1, rfl, by omega⟩, (unhide HBB).trans (hb1.mono (unhide HBB).size)⟩
    · rw [show szR r rs.length = r - rs.length from by unfold szR; rw [if_neg h2]]
      have hn2 : ¬ r - rs.length < 0 := by omega
      go_wp2
      go_ret
      exact ⟨⟨_, rfl, fun _ => ⟨by have := (hr2 hr0).1; omega, by omega, (hr2 hr0).2⟩⟩, (unhide HBB).trans (hb1.mono (unhide HBB).size)⟩
end Go.Proofs.YtpbnmhnbkfnaeaaGreatDoor
namespace Go.Proofs.YtpbnmhnbkfnaeaaGreatDoor
open Go.RowKit Nt

theorem below_drewN {B : Nat} {a w : World} (h : Below B a w) (n : Nat) : Below B a (w.drewN n) := ⟨h.os, h.tape, h.output, h.size, h.block⟩
theorem IntsAt.form {w : World} {v : Value} {xs : List Int} (h : IntsAt w v xs) : ∃ a cap, v = .slice a xs.length cap ∧ xs.length ≤ cap ∧ cap ≤ maxLen := by
  obtain ⟨a, cap, hv, h1, h2, _⟩ := h; exact ⟨a, cap, hv, h1, h2⟩
theorem IntsAt.cell {w : World} {a : Option Addr} {n cap : Nat} {xs : List Int} (h : IntsAt w (.slice a n cap) xs) {k : Nat} {x : Int} (hk : xs[k]? = some x) : ∃ b off, a = some ⟨b, off, none⟩ ∧ b < w.heap.size ∧ w.cell? ⟨b, off + k, none⟩ = some (.int .i64 x) := by
  obtain ⟨a', c, hv, h1, h2, h3⟩ := h
  have h0 : 0 < xs.length := by
    have := (List.getElem?_eq_some_iff.1 hk).1; omega
  obtain ⟨b, off, rfl, hb, hc⟩ := h3 h0
  injection hv with e1 e2 e3
  subst e1
  exact ⟨b, off, rfl, hb, hc k x hk⟩

set_option maxRecDepth 100000 in
set_option maxHeartbeats 4000000 in
theorem eqIntS_c (v u : Value) (xs : List Int) (w : World) (h : IntsAt w v xs) (g : IntsAt w u xs) :
    Calls Tryz.prog 52 #[v, u] w fun e w' => e = .returned (.bool true) ∧ Below w.heap.size w w' := by
  obtain ⟨a, cap, rfl, h1, h2⟩ := h.form
  obtain ⟨a', cap', rfl, h1', h2'⟩ := g.form
  unfold maxLen at h2 h2'
  have H := hide h
  have G := hide g
  clear h g
  go_enter Tryz.func52, Tryz.ntmps52
  go_wp2
  go_loopw [5] (fun i wr => ∃ k : Nat, k ≤ xs.length ∧ i = .int .i64 k ∧ Below w.heap.size w wr)
    (fun i _ => xs.length - (intOf i).toNat)
  case atStart => exact ⟨0, by omega, rfl, Below.refl _ _⟩
  case round =>
    obtain ⟨k, hk, rfl, hbl⟩ := hrel
    by_cases hlt : k < xs.length
    · obtain ⟨x, hx⟩ : ∃ x, xs[k]? = some x := ⟨_, List.getElem?_eq_getElem hlt⟩
      obtain ⟨b, off, rfl, hb, hc⟩ := ((unhide H).below hbl).cell hx
      obtain ⟨b', off', rfl, hb', hc'⟩ := ((unhide G).below hbl).cell hx
      go_wp2
      go_quiet (fail)
      go_wp2
      go_roundw
      case rel => exact ⟨k + 1, by omega, by go_num, below_drewN hbl _⟩
      case measure => simp [intOf]; omega
    · go_wp2
      go_ret
      exact ⟨rfl, hbl⟩

/-- a box of three cells -/
def AtC3 (w : World) (b : Nat) (x y z : Value) (T : TypeId) : Prop := w.heap[b]? = some (.cells #[x, y, z] T (0, 0))
theorem AtC3.lt {w : World} {b : Nat} {x y z : Value} {T : TypeId} (h : AtC3 w b x y z T) : b < w.heap.size := (Array.getElem?_eq_some_iff.1 h).1
theorem AtC3.new (w : World) (x y z : Value) (T : TypeId) : AtC3 (w.alloc (.cells #[x, y, z] T)) w.heap.size x y z T := by
  show (w.heap.push _)[w.heap.size]? = _; rw [Array.getElem?_push, if_pos rfl]
theorem AtC3.below {w w' : World} {b : Nat} {x y z : Value} {T : TypeId} (h : AtC3 w b x y z T) (k : Below w.heap.size w w') : AtC3 w' b x y z T := (k.block b h.lt).trans h
theorem AtC3.n0 {w : World} {b : Nat} {x y z : Value} {T : TypeId} (h : AtC3 w b x y z T) : w.cell? ⟨b, 0, none⟩ = some x := by unfold AtC3 at h; simp [World.cell?, h]
theorem AtC3.n1 {w : World} {b : Nat} {x y z : Value} {T : TypeId} (h : AtC3 w b x y z T) : w.cell? ⟨b, 1, none⟩ = some y := by unfold AtC3 at h; simp [World.cell?, h]
theorem AtC3.n2 {w : World} {b : Nat} {x y z : Value} {T : TypeId} (h : AtC3 w b x y z T) : w.cell? ⟨b, 2, none⟩ = some z := by unfold AtC3 at h; simp [World.cell?, h]
theorem AtC3.f {w : World} {b : Nat} {x y z : Value} {T : TypeId} (h : AtC3 w b x y z T) (j : Nat) : w.frozen? ⟨b, j, none⟩ = false := by unfold AtC3 at h; simp [World.frozen?, h]

set_option maxRecDepth 100000 in
set_option maxHeartbeats 4000000 in
theorem eqReadNode_c (v u : Value) (nd : Nd) (w : World) (h : NdAt w v nd) (g : NdAt w u nd) :
    Calls Tryz.prog 90 #[v, u] w fun e w' => e = .returned (.bool true) ∧ Below w.heap.size w w' := by
  obtain ⟨s, text, kids⟩ := nd
  obtain ⟨kv, rfl, _, hk⟩ := h
  obtain ⟨ku, rfl, _, gk⟩ := g
  have hbb := ((Below.refl w.heap.size w).alloc (Nat.le_refl _) (.cells #[.int .i64 s, .string (B text), kv] 56)).alloc (by simp) (.cells #[.int .i64 s, .string (B text), ku] 56)
  have HK := hide (hk.below hbb)
  have GK := hide (gk.below hbb)
  have HBB := hide hbb
  clear hk gk hbb
  simp only at *
  go_enter Tryz.func90, Tryz.ntmps90
  go_wp2_with fail
  have h := eqIntS_c kv ku kids _ (unhide HK) (unhide GK)
  refine h.mono ?_
  clear h
  rintro e w1 ⟨rfl, hb1⟩
  go_wp2
  go_ret
  exact ⟨rfl, (unhide HBB).trans (hb1.mono (unhide HBB).size)⟩

theorem NodesAt.form0 {w : World} {v : Value} {ns : List Nd} (h : NodesAt w v ns) : ∃ a cap, v = .slice a ns.length cap ∧ ns.length ≤ cap ∧ cap ≤ maxLen := by
  obtain ⟨a, cap, hv, h1, h2, _⟩ := h; exact ⟨a, cap, hv, h1, h2⟩
theorem NodesAt.addr {w : World} {a : Option Addr} {n cap : Nat} {ns : List Nd} (h : NodesAt w (.slice a n cap) ns) (h0 : 0 < ns.length) : ∃ b off, a = some ⟨b, off, none⟩ ∧ b < w.heap.size := by
  obtain ⟨a', c, hv, h1, h2, h3⟩ := h
  obtain ⟨b, off, rfl, hb, hc⟩ := h3 h0
  injection hv with e1 e2 e3
  subst e1
  exact ⟨b, off, rfl, hb⟩

set_option maxRecDepth 100000 in
set_option maxHeartbeats 4000000 in
theorem eqReadNodeS_c (v u : Value) (ns : List Nd) (w : World) (h : NodesAt w v ns) (g : NodesAt w u ns) :
    Calls Tryz.prog 51 #[v, u] w fun e w' => e = .returned (.bool true) ∧ Below w.heap.size w w' := by
  obtain ⟨a, cap, rfl, h1, h2⟩ := h.form0
  obtain ⟨a', cap', rfl, h1', h2'⟩ := g.form0
  unfold maxLen at h2 h2'
  have H := hide h
  have G := hide g
  clear h g
  go_enter Tryz.func51, Tryz.ntmps51
  go_wp2
  go_loopw [5] (fun i wr => ∃ k : Nat, k ≤ ns.length ∧ i = .int .i64 k ∧ Below w.heap.size w wr)
    (fun i _ => ns.length - (intOf i).toNat)
  case atStart => exact ⟨0, by omega, rfl, Below.refl _ _⟩
  case round =>
    obtain ⟨k, hk, rfl, hbl⟩ := hrel
    by_cases hlt : k < ns.length
    · obtain ⟨nd, hnd⟩ : ∃ nd, ns[k]? = some nd := ⟨_, List.getElem?_eq_getElem hlt⟩
      obtain ⟨b, off, rfl, hb⟩ := ((unhide H).below hbl).addr (by omega)
      obtain ⟨b', off', rfl, hb'⟩ := ((unhide G).below hbl).addr (by omega)
      obtain ⟨kv, c0, c1, c2, htl, hk1⟩ := ((unhide H).below hbl).node hnd
      obtain ⟨ku, g0, g1, g2, _, hk2⟩ := ((unhide G).below hbl).node hnd
      have HK1 := hide (hk1.below (Below.refl wr.heap.size wr).drew)
      have HK2 := hide (hk2.below (Below.refl wr.heap.size wr).drew)
      have HTL := hide htl
      clear hk1 hk2 htl
      have hsz := hbl.size
      have HBL := hide hbl
      clear hbl
      go_wp2
      go_region_held3 (fun w' => w'.cell? ⟨b, off + k * 3, none⟩ = some (.int .i64 nd.1) ∧ w'.cell? ⟨b, off + k * 3 + 1, none⟩ = some (.string (B nd.2.1)) ∧ w'.cell? ⟨b, off + k * 3 + 2, none⟩ = some kv ∧ w'.cell? ⟨b', off' + k * 3, none⟩ = some (.int .i64 nd.1) ∧ w'.cell? ⟨b', off' + k * 3 + 1, none⟩ = some (.string (B nd.2.1)) ∧ w'.cell? ⟨b', off' + k * 3 + 2, none⟩ = some ku) (((try dsimp only); (repeat' apply And.intro) <;> (first | with_reducible assumption | exact c0 | exact c1 | exact c2 | exact g0 | exact g1 | exact g2))) ((go_at_call 90; refine (eqReadNode_c _ _ nd wr.drew ⟨kv, rfl, unhide HTL, unhide HK1⟩ ⟨ku, rfl, unhide HTL, unhide HK2⟩).mono ?_; rintro e w1 ⟨rfl, hb1⟩; have HB1 : Hid (Below wr.heap.size wr w1) := (Below.refl wr.heap.size wr).drew.trans hb1; have d0 := (unhide HB1).cell (p := ⟨b, off + k * 3, none⟩) hb; have d1 := (unhide HB1).cell (p := ⟨b, off + k * 3 + 1, none⟩) hb; have d2 := (unhide HB1).cell (p := ⟨b, off + k * 3 + 2, none⟩) hb; have f0 := (unhide HB1).cell (p := ⟨b', off' + k * 3, none⟩) hb'; have f1 := (unhide HB1).cell (p := ⟨b', off' + k * 3 + 1, none⟩) hb'; have f2 := (unhide HB1).cell (p := ⟨b', off' + k * 3 + 2, none⟩) hb'; rw [c0] at d0; rw [c1] at d1; rw [c2] at d2; rw [g0] at f0; rw [g1] at f1; rw [g2] at f2; clear hb1))
      go_wp2
      go_roundw
      case rel => exact ⟨k + 1, by omega, by go_num, (unhide HBL).trans ((unhide HB1).mono hsz)⟩
      case measure => simp [intOf]; omega
    · go_wp2
      go_ret
      exact ⟨rfl, hbl⟩

set_option maxRecDepth 100000 in
set_option maxHeartbeats 4000000 in
theorem eqReadData_c (v u : Value) (d : Dt) (w : World) (h : DataAt w v d) (g : DataAt w u d) :
    Calls Tryz.prog 23 #[v, u] w fun e w' => e = .returned (.bool true) ∧ Below w.heap.size w w' := by
  obtain ⟨ns, rs⟩ := d
  obtain ⟨nv, rv, rfl, hn, hr⟩ := h
  obtain ⟨nu, ru, rfl, gn, gr'⟩ := g
  have hbb := ((Below.refl w.heap.size w).alloc (Nat.le_refl _) (.cells #[nv, rv] 26)).alloc (by simp) (.cells #[nu, ru] 26)
  have HN := hide (hn.below hbb)
  have HR := hide (hr.below hbb)
  have GN := hide (gn.below hbb)
  have GR := hide (gr'.below hbb)
  have HBB := hide hbb
  have hA := AtC2.new w nv rv 26
  have HA := hide (hA.below ((Below.refl _ _).alloc (Nat.le_refl _) (.cells #[nu, ru] 26)))
  have HG := hide (AtC2.new (w.alloc (.cells #[nv, rv] 26)) nu ru 26)
  rw [World.size_alloc] at HG
  clear hn hr gn gr' hbb hA
  simp only at *
  go_enter Tryz.func23, Tryz.ntmps23
  go_wp2_with fail
  have h := eqReadNodeS_c nv nu ns _ (unhide HN) (unhide GN)
  refine h.mono ?_
  clear h
  rintro e w1 ⟨rfl, hb1⟩
  have a0 := ((unhide HA).below hb1).n0
  have a1 := ((unhide HA).below hb1).n1
  have g0 := ((unhide HG).below hb1).n0
  have g1 := ((unhide HG).below hb1).n1
  have HB1 := hide hb1
  clear hb1
  go_wp2_with fail
  have h := eqIntS_c rv ru rs w1 ((unhide HR).below (unhide HB1)) ((unhide GR).below (unhide HB1))
  refine h.mono ?_
  clear h
  rintro e w2 ⟨rfl, hb2⟩
  go_wp2
  go_ret
  have hb1' := (unhide HBB).trans ((unhide HB1).mono (unhide HBB).size)
  exact ⟨rfl, hb1'.trans (hb2.mono hb1'.size)⟩
end Go.Proofs.YtpbnmhnbkfnaeaaGreatDoor
namespace Go.Proofs.YtpbnmhnbkfnaeaaGreatDoor
open Go.RowKit Nt

theorem trim_stop_at (l : List UInt8) (k : Nat) (hk : k < l.length) (h : k + 1 < l.length → l[k] ≠ 48) : trim (l.drop k) = l.drop k := by
  apply trim_stop
  by_cases hl : k + 1 < l.length
  · right
    exact ⟨l[k], l.drop (k + 1), List.drop_eq_getElem_cons (by omega), h hl⟩
  · left; simp; omega

set_option maxHeartbeats 4000000 in
theorem l1Trim_c (l : List UInt8) (w : World) (hs : l.length ≤ 1000000000) :
    Calls Tryz.prog 125 #[.string (B l)] w fun e w' => e = .returned (.string (B (trim l))) ∧ w' = w := by
  have hsz : (B l).size ≤ 1000000000 := by rw [B_size]; exact hs
  go_enter Tryz.func125, Tryz.ntmps125
  go_wp2
  go_loop [3] (fun i => ∃ k : Nat, k ≤ l.length ∧ (k = 0 ∨ k < l.length) ∧ i = .int .i64 k ∧ Hid (trim l = trim (l.drop k))) (fun i => l.length - (intOf i).toNat)
  case atStart => exact ⟨0, Nat.zero_le _, .inl rfl, rfl, rfl⟩
  case round =>
    obtain ⟨k, hk, hk', rfl, ht⟩ := hrel
    have fin : (k + 1 < l.length → ∀ h, l[k]'h ≠ 48) → (B l).extract k (B l).size = B (trim l) := by
      intro h
      rw [B_extract, B_size, List.take_length, ht.out]
      by_cases h0 : k < l.length
      · rw [trim_stop_at l k h0 (fun hh => h hh h0)]
      · have : l = [] := by apply List.eq_nil_of_length_eq_zero; omega
        subst this; simp [trim]
    have Fin := hide fin
    clear fin
    by_cases hlt : k + 1 < l.length
    · have hlt2 : k + 1 < (B l).size := by rw [B_size]; exact hlt
      go_wp2
      · have hz : l[k] = 48 := by
          have h := ‹(((B l)[k].toNat : Int) == 48) = true›
          rw [B_get] at h
          apply UInt8.toNat_inj.1
          have := beq_iff_eq.1 h
          simp only [UInt8.toNat_ofNat]
          omega
        go_round
        case rel => exact ⟨k + 1, by omega, by omega, by go_num, by show trim l = _; rw [ht.out]; exact trim_drop l k (by omega) hz⟩
        case measure => simp [intOf]; omega
      · have hz : ∀ h : k < l.length, l[k] ≠ 48 := by
          have h := beq_eq_false_iff_ne.1 ‹(((B l)[k].toNat : Int) == 48) = false›
          rw [B_get] at h
          intro hh hc
          rw [hc] at h
          exact h rfl
        go_ret
        exact ⟨ret_str (unhide Fin (fun _ h => hz h)), rfl⟩
    · have hlt2 : ¬ k + 1 < (B l).size := by rw [B_size]; exact hlt
      have hkk : k ≤ (B l).size := by rw [B_size]; exact hk
      go_wp2
      go_ret
      exact ⟨ret_str (unhide Fin (fun h => absurd h hlt)), rfl⟩

set_option maxHeartbeats 4000000 in
theorem l1At_c (n k : Nat) (w : World) (hs : (dec n).size ≤ 1000000000) (hk : k ≤ 1000000000) :
    Calls Tryz.prog 163 #[.string (dec n), .int .i64 k] w fun e w' => e = .returned (.int .i64 ((n / 10 ^ k % 10 : Nat) : Int)) ∧ w' = w := by
  by_cases h : k < (dec n).size
  · have hb : (n / 10 ^ k % 10) < 10 := Nat.mod_lt _ (by omega)
    have hd : (dec n)[(dec n).size - 1 - k]'(by omega) = sg (n / 10 ^ k % 10) := by
      have h1 : k < (txl 10 n).length := by simpa [dec, txt, B_size] using h
      have := dec_at n k h1
      rw [List.getElem_reverse] at this
      rw [← this]
      simp only [dec, txt, B_get, B_size]
    have hn : ((dec n)[(dec n).size - 1 - k]'(by omega)).toNat = 48 + n / 10 ^ k % 10 := by rw [hd, sg_toNat (by omega), if_pos hb]
    generalize hg : n / 10 ^ k % 10 = d at *
    have Hn := hide hn
    clear hn hd hg
    go_enter Tryz.func163, Tryz.ntmps163
    go_wp2
    go_ret
    exact ⟨ret_int (by rw [unhide Hn]; omega), rfl⟩
  · have hz : n / 10 ^ k % 10 = 0 := by
      rw [dec_above n k (by simpa [dec, txt, B_size] using h)]
    rw [hz]
    go_enter Tryz.func163, Tryz.ntmps163
    go_wp2
    go_ret
    exact ⟨rfl, rfl⟩

theorem l1At_d (n k d : Nat) (w : World) (hd : n / 10 ^ k % 10 = d) (hs : (dec n).size ≤ 1000000000) (hk : k ≤ 1000000000) :
    Calls Tryz.prog 163 #[.string (dec n), .int .i64 k] w fun e w' => e = .returned (.int .i64 (d : Int)) ∧ w' = w := by
  subst hd; exact l1At_c n k w hs hk
end Go.Proofs.YtpbnmhnbkfnaeaaGreatDoor
namespace Go.Proofs.YtpbnmhnbkfnaeaaGreatDoor
open Go.RowKit Nt

theorem Tryz.infoInt : (Tryz.prog.info? 3).map (fun i => (i.zero, i.size, i.bytes)) = some (some (.int .i64 0), 1, 8) := by kernel_rfl
theorem Tryz.infoByte : (Tryz.prog.info? 5).map (fun i => (i.zero, i.size, i.bytes)) = some (some (.int .u8 0), 1, 1) := by kernel_rfl

/-- what 'out' holds when k digits are laid -/
def textCells (xs : List Nat) (n k : Nat) : List UInt8 := List.replicate (n - k) 0 ++ ((xs.take k).map sg).reverse

theorem textCells_set (xs : List Nat) (k : Nat) (h : k < xs.length) :
    (textCells xs xs.length k).set (xs.length - 1 - k) (sg xs[k]) = textCells xs xs.length (k + 1) := by
  unfold textCells
  have e : xs.length - k = (xs.length - 1 - k) + 1 := by omega
  rw [e, List.replicate_succ', List.append_assoc, List.set_append_right _ _ (by simp)]
  have e2 : xs.length - (k + 1) = xs.length - 1 - k := by omega
  rw [e2, List.length_replicate, Nat.sub_self, List.take_succ_eq_append_getElem h, List.map_append, List.reverse_append]
  simp

theorem textCells_all (xs : List Nat) : textCells xs xs.length xs.length = (xs.map sg).reverse := by simp [textCells]

theorem textCells_zero (xs : List Nat) : textCells xs xs.length 0 = List.replicate xs.length 0 := by simp [textCells]

/-- what the text is when all is laid -/
theorem text_end (xs : List Nat) (hd : ∀ d ∈ xs, d < 10) (hx : xs ≠ []) : trim (textCells xs xs.length xs.length) = txl 10 (ofd 10 xs) := by
  rw [textCells_all]; exact trim_rev xs hd hx

set_option maxRecDepth 100000 in
set_option maxHeartbeats 4000000 in
theorem l1Text_c (xs : List Nat) (v : Value) (w : World) (hd : ∀ d ∈ xs, d < 10) (hs : xs.length ≤ 1000000000) (h : w.ownsRow 0 3 1 v xs.length (ints xs)) :
    Calls Tryz.prog 164 #[v] w fun e w' => e = .returned (.string (dec (ofd 10 xs))) ∧ Below w.heap.size w w' := by
  obtain ⟨i0, hi, hz0, hz1, hz2⟩ := info_parts Tryz.infoByte
  rcases h.2 with ⟨rfl, hn⟩ | ⟨g, cap, cur, rfl, hbg, hgg, hnc, hcm, hcs, htake⟩
  · have hx : xs = [] := List.eq_nil_of_length_eq_zero hn
    subst hx
    clear h hs hd hn
    go_enter Tryz.func164, Tryz.ntmps164
    go_wp2_with (refine wpList_make_full _ rfl (.tmp 6) (.tmp 6) 22 rfl w.heap.size 5 i0 (.int .u8 0) 1 Tryz.underlying22 hi hz0 hz1 .i64 .i64 0 0 0 rfl rfl rfl rfl (by rw [hz2]; omega) (by decide) (Nat.le_refl _) ?_; intro w1 hown1 hg1)
    have hb := (Below.refl w.heap.size w).grown hg1 (Nat.le_refl _) (fun _ h => by cases h)
    clear hown1 hg1
    refine wp_loop_rounds 1 ?_; rw [rounds_succ]
    go_wp2
    go_ret
    exact ⟨rfl, hb⟩
  · clear htake hcs hcm hgg hbg
    have Hd := hide hd
    clear hd
    go_enter Tryz.func164, Tryz.ntmps164
    go_wp2_with (refine wpList_make_full _ rfl (.tmp 6) (.tmp 6) 22 rfl w.heap.size 5 i0 (.int .u8 0) 1 Tryz.underlying22 hi hz0 hz1 .i64 .i64 xs.length xs.length xs.length rfl rfl rfl rfl (by rw [hz2]; omega) (by unfold maxLen; omega) (Nat.le_refl _) ?_; intro w1 hown1 hg1)
    go_loopw [4] (fun i wr => ∃ k : Nat, k ≤ xs.length ∧ i = .int .i64 k ∧ wr.ownsRow w.heap.size 5 1 (.slice (some ⟨w.heap.size, 0, none⟩) xs.length xs.length) xs.length ((textCells xs xs.length k).map u8v) ∧ Below w.heap.size w wr)
      (fun i _ => xs.length - (intOf i).toNat)
    case atStart =>
      refine ⟨0, Nat.zero_le _, rfl, ?_, (Below.refl _ _).grown hg1 (Nat.le_refl _) (fun _ h => by cases h)⟩
      rw [textCells_zero]
      simpa [Value.cells, toList_madeCells_one, u8v] using hown1
    case round =>
      obtain ⟨k, hk, rfl, hown, hb⟩ := hrel
      by_cases hlt : k < xs.length
      · have hc1 : wr.cell? ⟨g, k, none⟩ = some (.int .i64 (xs[k] : Nat)) := by
          rw [(own_below h hb).cellAt k (by omega)]; simp [ints, hlt]
        have hf := hown.frozenAt (xs.length - 1 - k)
        obtain ⟨v0, hv0⟩ := own_cell_some hown (xs.length - 1 - k) (by omega)
        have hst := hown.stored (xs.length - 1 - k) (u8v (sg xs[k]))
        have hdk : xs[k] < 10 := unhide Hd _ (List.getElem_mem hlt)
        rw [← List.map_set, textCells_set xs k hlt, u8v_sg hdk] at hst
        have Hst := hide hst
        clear hst
        go_wp2
        go_roundw
        case rel => exact ⟨k + 1, by omega, by go_num, (unhide Hst).1, hb.setCell (by simp) _⟩
        case measure => simp [intOf]; omega
      · have hkn : k = xs.length := by omega
        subst hkn
        by_cases hx : xs = []
        · subst hx
          go_wp2
          go_ret
          exact ⟨rfl, hb⟩
        · have hx0 : ((xs.length : Int) == 0) = false := by
            have : xs.length ≠ 0 := fun h => hx (List.eq_nil_of_length_eq_zero h)
            rw [beq_eq_false_iff_ne]; omega
          have hconv := run_conv_bytes (dst := 9) Tryz.underlying22 Tryz.underlying5 Tryz.underlying9 hown
          have Fin := hide (text_end xs (unhide Hd) hx)
          go_wp2_with (go_at_call 125; refine (l1Trim_c _ _ (by simp [textCells]; omega)).mono ?_; rintro e w' ⟨rfl, rfl⟩)
          go_ret
          exact ⟨ret_str (by rw [unhide Fin]; rfl), hb⟩
end Go.Proofs.YtpbnmhnbkfnaeaaGreatDoor
/- Data that are made: each list in a block of its own. -/
namespace Go.Proofs.YtpbnmhnbkfnaeaaGreatDoor
open Go.RowKit Nt

def iv (xs : List Int) : List Value := xs.map (Value.int .i64)
theorem iv_get (xs : List Int) (j : Nat) : (iv xs)[j]? = (xs[j]?).map (Value.int .i64) := by simp [iv]
theorem iv_set (xs : List Int) (j : Nat) (x : Int) : (iv xs).set j (.int .i64 x) = iv (xs.set j x) := by simp [iv, List.map_set]
theorem iv_len (xs : List Int) : (iv xs).length = xs.length := by simp [iv]

theorem owns_ints {w : World} {base : Nat} {v : Value} {xs : List Int} (h : w.ownsRow base 3 1 v xs.length (iv xs)) : IntsAt w v xs := by
  rcases h.2 with ⟨rfl, h0⟩ | ⟨g, cap, cur, rfl, hb, hg, h1, h2, h3, h4⟩
  · exact ⟨none, 0, by rw [h0], by omega, by unfold maxLen; omega, fun h => absurd h (by omega)⟩
  · refine ⟨_, cap, rfl, h1, h2, fun _ => ⟨g, 0, rfl, (Array.getElem?_eq_some_iff.1 hg).1, fun j x hx => ?_⟩⟩
    have hj := (List.getElem?_eq_some_iff.1 hx).1
    have := h.cellAt j (by omega)
    rw [iv_get, hx] at this
    simpa using this

/-- the first k of a list, noughts behind -/
def upTo (xs : List Int) (k : Nat) : List Int := xs.take k ++ List.replicate (xs.length - k) 0
theorem upTo_len (xs : List Int) (k : Nat) (h : k ≤ xs.length) : (upTo xs k).length = xs.length := by
  unfold upTo; rw [List.length_append, List.length_take, List.length_replicate]; omega
theorem upTo_zero (xs : List Int) : upTo xs 0 = List.replicate xs.length 0 := by simp [upTo]
theorem upTo_all (xs : List Int) : upTo xs xs.length = xs := by simp [upTo]
theorem upTo_set {xs : List Int} {k : Nat} {x : Int} (h : xs[k]? = some x) : (upTo xs k).set k x = upTo xs (k + 1) := by
  have hk := (List.getElem?_eq_some_iff.1 h).1
  apply List.ext_getElem?
  intro j
  unfold upTo
  rw [List.getElem?_set]
  by_cases hj : k = j
  · subst hj
    rw [if_pos rfl, if_pos (by simp; omega), List.getElem?_append_left (by simp; omega), List.getElem?_take_of_lt (by omega), h]
  · rw [if_neg hj]
    rcases Nat.lt_or_ge j k with h1 | h1
    · rw [List.getElem?_append_left (by simp; omega), List.getElem?_append_left (by simp; omega)]
      rw [List.getElem?_take_of_lt h1, List.getElem?_take_of_lt (by omega)]
    · rw [List.getElem?_append_right (by simp; omega), List.getElem?_append_right (by simp; omega)]
      simp only [List.length_take, List.getElem?_replicate]
      have e1 : min k xs.length = k := by omega
      have e2 : min (k + 1) xs.length = k + 1 := by omega
      rw [e1, e2]
      by_cases hjl : j < xs.length
      · rw [if_pos (by omega), if_pos (by omega)]
      · rw [if_neg (by omega), if_neg (by omega)]

set_option maxRecDepth 100000 in
set_option maxHeartbeats 4000000 in
theorem toIntS_c (v : Value) (xs : List Int) (w : World) (h : IntsAt w v xs) (hs : xs.length ≤ 1048576) :
    Calls Tryz.prog 50 #[v] w fun e w' => (∃ cap, e = .returned (.slice (some ⟨w.heap.size, 0, none⟩) xs.length cap) ∧ w'.ownsRow w.heap.size 3 1 (.slice (some ⟨w.heap.size, 0, none⟩) xs.length cap) xs.length (iv xs)) ∧ Below w.heap.size w w' := by
  obtain ⟨i0, hi, hz0, hz1, hz2⟩ := info_parts Tryz.infoInt
  obtain ⟨a, cap, rfl, h1, h2⟩ := h.form
  unfold maxLen at h2
  have H := hide h
  clear h
  go_enter Tryz.func50, Tryz.ntmps50
  go_wp2_with (refine wpList_make_full _ rfl (.tmp 6) (.tmp 6) 24 rfl w.heap.size 3 i0 (.int .i64 0) 1 Tryz.underlying24 hi hz0 hz1 .i64 .i64 xs.length xs.length xs.length rfl rfl rfl rfl (by rw [hz2]; omega) (by unfold maxLen; omega) (Nat.le_refl _) ?_; intro w1 hown1 hg1)
  go_loopw [4] (fun i wr => ∃ k : Nat, k ≤ xs.length ∧ i = .int .i64 k ∧ wr.ownsRow w.heap.size 3 1 (.slice (some ⟨w.heap.size, 0, none⟩) xs.length xs.length) xs.length (iv (upTo xs k)) ∧ Below w.heap.size w wr)
    (fun i _ => xs.length - (intOf i).toNat)
  case atStart =>
    refine ⟨0, by omega, rfl, ?_, (Below.refl _ _).grown hg1 (Nat.le_refl _) (fun _ h => by cases h)⟩
    rw [upTo_zero]
    simpa [Value.cells, toList_madeCells_one, iv] using hown1
  case round =>
    clear hown1 hg1
    obtain ⟨k, hk, rfl, hown, hbl⟩ := hrel
    by_cases hlt : k < xs.length
    · obtain ⟨x, hx⟩ : ∃ x, xs[k]? = some x := ⟨_, List.getElem?_eq_getElem hlt⟩
      obtain ⟨b, off, rfl, hb, hc⟩ := ((unhide H).below hbl).cell hx
      obtain ⟨v0, hv0⟩ := own_cell_some hown k (by omega)
      have hfr := hown.frozenAt k
      have hst := hown.stored k (.int .i64 x)
      rw [iv_set, upTo_set hx] at hst
      have Hst := hide hst.1
      have HB := hide (hbl.setCell (p := ⟨w.heap.size, k, none⟩) (Nat.le_refl _) (.int .i64 x))
      clear hst
      go_wp2
      go_roundw
      case rel => exact ⟨k + 1, by omega, by go_num, unhide Hst, unhide HB⟩
      case measure => simp [intOf]; omega
    · go_wp2
      go_ret
      have : k = xs.length := by omega
      subst this
      rw [upTo_all] at hown
      exact ⟨⟨_, rfl, hown⟩, hbl⟩
end Go.Proofs.YtpbnmhnbkfnaeaaGreatDoor
namespace Go.Proofs.YtpbnmhnbkfnaeaaGreatDoor
open Go.RowKit Nt

/-- no two of these lie in one block -/
def Apart (l : List Value) : Prop := l.Pairwise (fun a b => ∀ i, a.ownBlock = some i → b.ownBlock ≠ some i)

/-- nodes in a block g of the call's own, each list of kids in another one -/
def NodesOwn (w : World) (base g n : Nat) (ns : List Nd) (kvs : List Value) : Prop :=
  (base ≤ g ∧ g < w.heap.size ∧ kvs.length = ns.length) ∧ (∀ j, w.frozen? ⟨g, j, none⟩ = false) ∧ (∀ j, j < n * 3 → ∃ u, w.cell? ⟨g, j, none⟩ = some u) ∧
  (∀ j nd kv, ns[j]? = some nd → kvs[j]? = some kv → w.cell? ⟨g, j * 3, none⟩ = some (.int .i64 nd.1) ∧ w.cell? ⟨g, j * 3 + 1, none⟩ = some (.string (B nd.2.1)) ∧ w.cell? ⟨g, j * 3 + 2, none⟩ = some kv ∧ nd.2.1.length ≤ maxLen ∧ w.ownsRow base 3 1 kv nd.2.2.length (iv nd.2.2)) ∧
  Apart kvs ∧ (∀ kv ∈ kvs, kv.ownBlock ≠ some g)

theorem NodesOwn.below {w w' : World} {base g n : Nat} {ns : List Nd} {kvs : List Value} (h : NodesOwn w base g n ns kvs) (k : Below w.heap.size w w') : NodesOwn w' base g n ns kvs := by
  obtain ⟨⟨h1, h2, h3⟩, hf, hc, hn, ha, hg⟩ := h
  refine ⟨⟨h1, Nat.lt_of_lt_of_le h2 k.size, h3⟩, fun j => by rw [k.frozen (p := ⟨g, j, none⟩) h2]; exact hf j, fun j hj => ?_, fun j nd kv e1 e2 => ?_, ha, hg⟩
  · obtain ⟨u, hu⟩ := hc j hj
    exact ⟨u, by rw [k.cell (p := ⟨g, j, none⟩) h2]; exact hu⟩
  · obtain ⟨c0, c1, c2, hl, ho⟩ := hn j nd kv e1 e2
    exact ⟨by rw [k.cell (p := ⟨g, j * 3, none⟩) h2]; exact c0, by rw [k.cell (p := ⟨g, j * 3 + 1, none⟩) h2]; exact c1, by rw [k.cell (p := ⟨g, j * 3 + 2, none⟩) h2]; exact c2, hl, own_below ho k⟩

theorem cell_set3_far {w : World} {g i : Nat} {u v t : Value} {a : Addr} (h : a.block = g → a.off < i ∨ i + 3 ≤ a.off) : (((w.setCell ⟨g, i, none⟩ u).setCell ⟨g, i + 1, none⟩ v).setCell ⟨g, i + 2, none⟩ t).cell? a = w.cell? a := by
  have key : ∀ j, j < 3 → (⟨g, i + j, none⟩ : Addr) ≠ a := by
    intro j hj e
    subst e
    have := h rfl
    simp at this
    omega
  rw [World.cell?_setCell_other _ _ _ _ (key 2 (by omega)), World.cell?_setCell_other _ _ _ _ (key 1 (by omega)), World.cell?_setCell_other _ ⟨g, i, none⟩ _ _ (key 0 (by omega))]
theorem cell_set3 {w : World} {g i : Nat} {u v t : Value} (h0 : ∃ x, w.cell? ⟨g, i, none⟩ = some x) (h1 : ∃ x, w.cell? ⟨g, i + 1, none⟩ = some x) (h2 : ∃ x, w.cell? ⟨g, i + 2, none⟩ = some x) :
    (((w.setCell ⟨g, i, none⟩ u).setCell ⟨g, i + 1, none⟩ v).setCell ⟨g, i + 2, none⟩ t).cell? ⟨g, i, none⟩ = some u ∧
    (((w.setCell ⟨g, i, none⟩ u).setCell ⟨g, i + 1, none⟩ v).setCell ⟨g, i + 2, none⟩ t).cell? ⟨g, i + 1, none⟩ = some v ∧
    (((w.setCell ⟨g, i, none⟩ u).setCell ⟨g, i + 1, none⟩ v).setCell ⟨g, i + 2, none⟩ t).cell? ⟨g, i + 2, none⟩ = some t := by
  obtain ⟨x0, h0⟩ := h0
  obtain ⟨x1, h1⟩ := h1
  obtain ⟨x2, h2⟩ := h2
  have n01 : (⟨g, i, none⟩ : Addr) ≠ ⟨g, i + 1, none⟩ := by intro e; injection e with _ e2; omega
  have n02 : (⟨g, i, none⟩ : Addr) ≠ ⟨g, i + 2, none⟩ := by intro e; injection e with _ e2; omega
  have n12 : (⟨g, i + 1, none⟩ : Addr) ≠ ⟨g, i + 2, none⟩ := by intro e; injection e with _ e2; omega
  refine ⟨?_, ?_, ?_⟩
  · rw [World.cell?_setCell_other _ _ _ _ (Ne.symm n02), World.cell?_setCell_other _ _ _ _ (Ne.symm n01), World.cell?_setCell_same _ _ _ h0]
  · rw [World.cell?_setCell_other _ _ _ _ (Ne.symm n12)]
    exact World.cell?_setCell_same _ _ _ (u := x1) (by rw [World.cell?_setCell_other _ _ _ _ n01]; exact h1)
  · exact World.cell?_setCell_same _ _ _ (u := x2) (by rw [World.cell?_setCell_other _ _ _ _ n12, World.cell?_setCell_other _ _ _ _ n02]; exact h2)

theorem some_set3 {w : World} {g i : Nat} {u v t : Value} {a : Addr} (h : ∃ x, w.cell? a = some x) : ∃ x, (((w.setCell ⟨g, i, none⟩ u).setCell ⟨g, i + 1, none⟩ v).setCell ⟨g, i + 2, none⟩ t).cell? a = some x := by
  have key : ∀ {w : World} {p : Addr} {x : Value}, (∃ y, w.cell? a = some y) → ∃ y, (w.setCell p x).cell? a = some y := by
    intro w p x ⟨y, hy⟩
    by_cases e : p = a
    · subst e; exact ⟨x, World.cell?_setCell_same _ _ _ hy⟩
    · exact ⟨y, by rw [World.cell?_setCell_other _ _ _ _ e]; exact hy⟩
  exact key (key (key h))

/-- a row in another block stays -/
theorem own_set3 {w : World} {base g i n : Nat} {e : TypeId} {size : Nat} {kv : Value} {xs : List Value} {u v t : Value} (h : w.ownsRow base e size kv n xs) (hg : kv.ownBlock ≠ some g) :
    (((w.setCell ⟨g, i, none⟩ u).setCell ⟨g, i + 1, none⟩ v).setCell ⟨g, i + 2, none⟩ t).ownsRow base e size kv n xs := by
  refine h.kept (row := some g) ⟨rfl, rfl, rfl, by simp, fun k _ hk => ?_⟩ (.inr hg)
  have hk' : k ≠ g := fun e => hk (by rw [e])
  rw [heap_setCell_other _ ⟨g, i + 2, none⟩ k _ hk', heap_setCell_other _ ⟨g, i + 1, none⟩ k _ hk', heap_setCell_other _ ⟨g, i, none⟩ k _ hk']

theorem NodesOwn.store {w : World} {base g n : Nat} {ns : List Nd} {kvs : List Value} {nd : Nd} {kv : Value} (h : NodesOwn w base g n ns kvs) (hk : ns.length < n) (hl : nd.2.1.length ≤ maxLen) (ho : w.ownsRow base 3 1 kv nd.2.2.length (iv nd.2.2)) (hg : kv.ownBlock ≠ some g)
    (hd : ∀ k' ∈ kvs, ∀ i, k'.ownBlock = some i → kv.ownBlock ≠ some i) :
    NodesOwn (((w.setCell ⟨g, ns.length * 3, none⟩ (.int .i64 nd.1)).setCell ⟨g, ns.length * 3 + 1, none⟩ (.string (B nd.2.1))).setCell ⟨g, ns.length * 3 + 2, none⟩ kv) base g n (ns ++ [nd]) (kvs ++ [kv]) := by
  obtain ⟨⟨h1, h2, h3⟩, hf, hc, hn, ha, hgg⟩ := h
  refine ⟨⟨h1, by simpa using h2, by simp [h3]⟩, fun j => by simpa using hf j, fun j hj => some_set3 (hc j hj), fun j nd' kv' e1 e2 => ?_, ?_, ?_⟩
  · by_cases hj : j < ns.length
    · rw [List.getElem?_append_left hj] at e1
      rw [List.getElem?_append_left (by omega)] at e2
      obtain ⟨c0, c1, c2, hl', ho'⟩ := hn j nd' kv' e1 e2
      refine ⟨?_, ?_, ?_, hl', own_set3 ho' (hgg kv' (List.mem_of_getElem? e2))⟩
      · rw [cell_set3_far (by intro _; left; show j * 3 < ns.length * 3; omega)]; exact c0
      · rw [cell_set3_far (by intro _; left; show j * 3 + 1 < ns.length * 3; omega)]; exact c1
      · rw [cell_set3_far (by intro _; left; show j * 3 + 2 < ns.length * 3; omega)]; exact c2
    · have hj2 : j = ns.length := by
        have := (List.getElem?_eq_some_iff.1 e1).1
        simp at this; omega
      subst hj2
      rw [List.getElem?_append_right (Nat.le_refl _)] at e1
      rw [List.getElem?_append_right (by omega), h3] at e2
      simp at e1 e2
      subst e1 e2
      obtain ⟨c0, c1, c2⟩ := cell_set3 (w := w) (g := g) (i := ns.length * 3) (u := .int .i64 nd.1) (v := .string (B nd.2.1)) (t := kv) (hc _ (by omega)) (hc _ (by omega)) (hc _ (by omega))
      exact ⟨c0, c1, c2, hl, own_set3 ho hg⟩
  · unfold Apart
    rw [List.pairwise_append]
    refine ⟨ha, List.pairwise_singleton _ _, fun a ha' b hb => ?_⟩
    simp at hb
    subst hb
    exact hd a ha'
  · intro k' hk'
    simp at hk'
    rcases hk' with hk' | rfl
    · exact hgg k' hk'
    · exact hg
end Go.Proofs.YtpbnmhnbkfnaeaaGreatDoor
namespace Go.Proofs.YtpbnmhnbkfnaeaaGreatDoor
open Go.RowKit Nt

theorem Tryz.infoNode : (Tryz.prog.info? 56).map (fun i => (i.zero, i.size, i.bytes)) = some (some (.agg #[.int .i64 0, .string ⟨#[]⟩, .slice none 0 0]), 3, 48) := by kernel_rfl

set_option maxRecDepth 100000 in
set_option maxHeartbeats 4000000 in
theorem toReadNode_c (v : Value) (nd : Nd) (w : World) (h : NdAt w v nd) (hs : nd.2.2.length ≤ 1048576) :
    Calls Tryz.prog 89 #[v] w fun e w' => (∃ g cap, e = .returned (.agg #[.int .i64 nd.1, .string (B nd.2.1), .slice (some ⟨g, 0, none⟩) nd.2.2.length cap]) ∧ w.heap.size ≤ g ∧ w'.ownsRow w.heap.size 3 1 (.slice (some ⟨g, 0, none⟩) nd.2.2.length cap) nd.2.2.length (iv nd.2.2)) ∧ Below w.heap.size w w' := by
  obtain ⟨s, text, kids⟩ := nd
  obtain ⟨kv, rfl, _, hk⟩ := h
  simp only at hs hk
  have hb1 := (Below.refl w.heap.size w).alloc (Nat.le_refl _) (.cells #[.int .i64 s, .string (B text), kv] 117)
  have hb2 := hb1.alloc (by simp) (.cells #[.int .i64 0, .string ⟨#[]⟩, .slice none 0 0] 56)
  have hb3 := hb2.alloc (by simp; omega) (.cells #[.int .i64 s, .string (B text), .slice none 0 0] 56)
  have HK := hide (hk.below hb3)
  have HBB := hide hb3
  have HR := hide ((AtC3.new (w.alloc (.cells #[.int .i64 s, .string (B text), kv] 117)) (.int .i64 0) (.string ⟨#[]⟩) (.slice none 0 0) 56).below ((Below.refl _ _).alloc (Nat.le_refl _) (.cells #[.int .i64 s, .string (B text), .slice none 0 0] 56)))
  have HO := hide (AtC3.new ((w.alloc (.cells #[.int .i64 s, .string (B text), kv] 117)).alloc (.cells #[.int .i64 0, .string ⟨#[]⟩, .slice none 0 0] 56)) (.int .i64 s) (.string (B text)) (.slice none 0 0) 56)
  rw [World.size_alloc] at HR
  rw [World.size_alloc, World.size_alloc] at HO
  clear hk hb1 hb2 hb3
  simp only at *
  go_enter Tryz.func89, Tryz.ntmps89
  go_wp2_with fail
  have h := toIntS_c kv kids _ (unhide HK) hs
  refine h.mono ?_
  clear h
  rintro e w1 ⟨⟨cap, rfl, hown⟩, hb1⟩
  have hR := (unhide HR).below hb1
  have hO := (unhide HO).below hb1
  have r0 := hR.n0
  have r1 := hR.n1
  have r2 := hR.n2
  have rf := hR.f
  have o0 := hO.n0
  have o1 := hO.n1
  have o2 := hO.n2
  have of := hO.f
  have ol := hO.lt
  have HB1 := hide hb1
  have HOWN := hide hown
  clear hR hO hb1 hown
  go_wp2
  have hcc := And.intro r0 (And.intro r1 r2)
  refine bodyPost_ret (v := .agg #[.int .i64 s, .string (B text), .slice (some ⟨w.heap.size + 1 + 1 + 1, 0, none⟩) kids.length cap]) (by simp [results, Tryz.results89, go_sem, hcc]) rfl ⟨⟨_, cap, rfl, by omega, ?_⟩, ?_⟩
  · have h0 := unhide HOWN
    simp only [World.size_alloc] at h0
    refine own_base (base := w.heap.size + 1 + 1 + 1) ?_ (by omega)
    exact ownsRow_setCell_below (ownsRow_setCell_below (ownsRow_setCell_below (ownsRow_setCell_below h0 (by show w.heap.size + 1 + 1 < _; omega) _) (by show w.heap.size + 1 < _; omega) _) (by show w.heap.size + 1 < _; omega) _) (by show w.heap.size + 1 < _; omega) _
  · refine ((unhide HBB).trans ((unhide HB1).mono (unhide HBB).size)).trans ?_
    repeat (first | exact Below.refl _ _ | refine Below.setCell ?_ (by first | exact Nat.le_refl _ | exact Nat.le_succ _ | (simp; done) | (simp; omega)) _ | refine Below.alloc ?_ (by first | exact Nat.le_refl _ | (simp; done) | (simp; omega)) _)

theorem NodesOwn.made {w : World} {g n cap : Nat} {xs : List Value} (h : w.ownsRow g 56 3 (.slice (some ⟨g, 0, none⟩) n cap) n xs) (hg : g < w.heap.size) : NodesOwn w g g n [] [] :=
  ⟨⟨Nat.le_refl _, hg, rfl⟩, fun j => h.frozenAt j, fun j hj => by
      have hx : j < xs.length := by rw [h.1]; exact hj
      exact ⟨xs[j], by rw [h.cellAt j hj]; exact List.getElem?_eq_getElem hx⟩, fun j nd kv e1 _ => by simp at e1, List.Pairwise.nil, fun kv hk => by simp at hk⟩
theorem NodesOwn.old {w : World} {base g n : Nat} {ns : List Nd} {kvs : List Value} (h : NodesOwn w base g n ns kvs) : ∀ k' ∈ kvs, ∀ i, k'.ownBlock = some i → i < w.heap.size := by
  intro k' hk i hi
  obtain ⟨j, hj⟩ := List.getElem?_of_mem hk
  have hjl := (List.getElem?_eq_some_iff.1 hj).1
  have hl := h.1.2.2
  obtain ⟨_, _, _, _, ho⟩ := h.2.2.2.1 j (ns[j]'(by omega)) k' (List.getElem?_eq_getElem _) hj
  exact (ho.lt i hi).2

set_option maxRecDepth 100000 in
set_option maxHeartbeats 4000000 in
theorem toReadNodeS_c (v : Value) (ns : List Nd) (w : World) (h : NodesAt w v ns) (hs : ns.length ≤ 1048576) (hns : NsSmall ns) :
    Calls Tryz.prog 49 #[v] w fun e w' => (∃ kvs, e = .returned (.slice (some ⟨w.heap.size, 0, none⟩) ns.length ns.length) ∧ NodesOwn w' w.heap.size w.heap.size ns.length ns kvs) ∧ Below w.heap.size w w' := by
  obtain ⟨i0, hi, hz0, hz1, hz2⟩ := info_parts Tryz.infoNode
  obtain ⟨a, cap, rfl, h1, h2⟩ := h.form0
  unfold maxLen at h2
  have H := hide h
  clear h
  go_enter Tryz.func49, Tryz.ntmps49
  go_wp2_with (refine wpList_make_full _ rfl (.tmp 6) (.tmp 6) 23 rfl w.heap.size 56 i0 (.agg #[.int .i64 0, .string ⟨#[]⟩, .slice none 0 0]) 3 Tryz.underlying23 hi hz0 hz1 .i64 .i64 ns.length ns.length ns.length rfl rfl rfl rfl (by rw [hz2]; omega) (by unfold maxLen; omega) (Nat.le_refl _) ?_; intro w1 hown1 hg1)
  have hb1 := (Below.refl w.heap.size w).grown hg1 (Nat.le_refl _) (fun _ h => by cases h)
  have hlt1 := (hown1.lt w.heap.size rfl).2
  have Hmade := hide (NodesOwn.made hown1 hlt1)
  have HB1 := hide hb1
  clear hown1 hg1 hb1
  go_loopw [4] (fun i wr => ∃ (k : Nat) (kvs : List Value), k ≤ ns.length ∧ i = .int .i64 k ∧ Hid (NodesOwn wr w.heap.size w.heap.size ns.length (ns.take k) kvs) ∧ Below w.heap.size w wr)
    (fun i _ => ns.length - (intOf i).toNat)
  case atStart => exact ⟨0, [], by omega, rfl, Hmade, unhide HB1⟩
  case round =>
    clear Hmade HB1 hlt1
    obtain ⟨k, kvs, hk, rfl, hno, hbl⟩ := hrel
    by_cases hlt : k < ns.length
    · obtain ⟨nd, hnd⟩ : ∃ nd, ns[k]? = some nd := ⟨_, List.getElem?_eq_getElem hlt⟩
      obtain ⟨b, off, rfl, hb⟩ := ((unhide H).below hbl).addr (by omega)
      obtain ⟨kv, c0, c1, c2, htl, hk1⟩ := ((unhide H).below hbl).node hnd
      have HN := hide (⟨kv, rfl, htl, hk1⟩ : NdAt wr (.agg #[.int .i64 nd.1, .string (B nd.2.1), kv]) nd)
      have hks : nd.2.2.length ≤ 1048576 := (hns nd (List.mem_of_getElem? hnd)).2
      have hwl := (unhide hno).1.2.1
      clear hk1
      go_wp2_with fail
      have h := toReadNode_c _ nd wr (unhide HN) hks
      refine h.mono ?_
      clear h
      rintro e w2 ⟨⟨gk, capk, rfl, hgk, hownk⟩, hb2⟩
      have hno2 := (unhide hno).below hb2
      have hlen : (ns.take k).length = k := by rw [List.length_take]; omega
      have hold := (unhide hno).old
      have hst := hno2.store (nd := nd) (kv := .slice (some ⟨gk, 0, none⟩) nd.2.2.length capk) (by omega) htl (own_base hownk hbl.size) (by intro e; simp [Value.ownBlock] at e; omega) (by intro k' hk' i hi e; simp [Value.ownBlock] at e; have := hold k' hk' i hi; omega)
      rw [hlen] at hst
      have htk : ns.take k ++ [nd] = ns.take (k + 1) := by rw [List.take_add_one, hnd]; rfl
      rw [htk] at hst
      have hcell := hno2.2.2.1
      obtain ⟨x0, hx0⟩ := hcell (k * 3) (by omega)
      obtain ⟨x1, hx1⟩ := hcell (k * 3 + 1) (by omega)
      obtain ⟨x2, hx2⟩ := hcell (k * 3 + 2) (by omega)
      have hfr := hno2.2.1
      have Hst := hide hst
      have HB := hide ((((hbl.trans (hb2.mono hbl.size)).setCell (p := ⟨w.heap.size, k * 3, none⟩) (Nat.le_refl _) (.int .i64 nd.1)).setCell (p := ⟨w.heap.size, k * 3 + 1, none⟩) (Nat.le_refl _) (.string (B nd.2.1))).setCell (p := ⟨w.heap.size, k * 3 + 2, none⟩) (Nat.le_refl _) (.slice (some ⟨gk, 0, none⟩) nd.2.2.length capk))
      clear hno hno2 hold hst hcell htk hownk hb2
      go_wp2
      go_roundw
      case rel => exact ⟨k + 1, _, by omega, by go_num, Hst, unhide HB⟩
      case measure => simp [intOf]; omega
    · go_wp2
      go_ret
      have : k = ns.length := by omega
      subst this
      have := unhide hno
      rw [List.take_of_length_le (Nat.le_refl _)] at this
      exact ⟨⟨kvs, rfl, this⟩, hbl⟩

/-- data of the call's own: from block base on, below top; no two lists in one block -/
def DataOwn (w : World) (base top : Nat) (v : Value) (d : Dt) : Prop :=
  ∃ nv rv kvs, v = .agg #[nv, rv] ∧ ((d.1 = [] ∧ nv = .slice none 0 0 ∧ kvs = []) ∨ ∃ g cap, nv = .slice (some ⟨g, 0, none⟩) d.1.length cap ∧ d.1.length ≤ cap ∧ cap ≤ maxLen ∧ NodesOwn w base g d.1.length d.1 kvs) ∧
    w.ownsRow base 3 1 rv d.2.length (iv d.2) ∧ Apart (rv :: kvs) ∧ (∀ i, nv.ownBlock = some i → rv.ownBlock ≠ some i) ∧ (∀ x, x = nv ∨ x = rv ∨ x ∈ kvs → ∀ i, x.ownBlock = some i → i < top) ∧ top ≤ w.heap.size

theorem NodesOwn.base {w : World} {base base' g n : Nat} {ns : List Nd} {kvs : List Value} (h : NodesOwn w base g n ns kvs) (hb : base' ≤ base) : NodesOwn w base' g n ns kvs := by
  obtain ⟨⟨h1, h2, h3⟩, hf, hc, hn, ha, hg⟩ := h
  exact ⟨⟨Nat.le_trans hb h1, h2, h3⟩, hf, hc, fun j nd kv e1 e2 => by
    obtain ⟨c0, c1, c2, hl, ho⟩ := hn j nd kv e1 e2
    exact ⟨c0, c1, c2, hl, own_base ho hb⟩, ha, hg⟩
theorem NodesOwn.at {w : World} {base g n cap : Nat} {ns : List Nd} {kvs : List Value} (h : NodesOwn w base g n ns kvs) (hc : ns.length ≤ cap) (hm : cap ≤ maxLen) : NodesAt w (.slice (some ⟨g, 0, none⟩) ns.length cap) ns := by
  obtain ⟨⟨h1, h2, h3⟩, hf, hcc, hn, ha, hg⟩ := h
  refine ⟨_, cap, rfl, hc, hm, fun _ => ⟨g, 0, rfl, h2, fun j nd e1 => ?_⟩⟩
  have hj := (List.getElem?_eq_some_iff.1 e1).1
  obtain ⟨c0, c1, c2, hl, ho⟩ := hn j nd (kvs[j]'(by omega)) e1 (List.getElem?_eq_getElem _)
  exact ⟨by simpa using c0, by simpa using c1, hl, _, by simpa using c2, owns_ints ho⟩
theorem DataOwn.at {w : World} {base top : Nat} {v : Value} {d : Dt} (h : DataOwn w base top v d) : DataAt w v d := by
  obtain ⟨nv, rv, kvs, rfl, hn, hr, _⟩ := h
  refine ⟨nv, rv, rfl, ?_, owns_ints hr⟩
  rcases hn with ⟨e1, rfl, _⟩ | ⟨g, cap, rfl, h1, h2, hn⟩
  · rw [e1]; exact ⟨none, 0, rfl, Nat.le_refl _, by unfold maxLen; omega, fun h => absurd h (by simp)⟩
  · exact hn.at h1 h2

theorem NodesOwn.far {w : World} {base g n : Nat} {ns : List Nd} {kvs : List Value} (h : NodesOwn w base g n ns kvs) {a : Addr} (ha : a.block < base) (u : Value) : NodesOwn (w.setCell a u) base g n ns kvs := by
  obtain ⟨⟨h1, h2, h3⟩, hf, hc, hn, ha', hg⟩ := h
  have key : ∀ j, (w.setCell a u).cell? ⟨g, j, none⟩ = w.cell? ⟨g, j, none⟩ := fun j => World.cell?_setCell_far _ _ _ _ (by show a.block ≠ g; omega)
  refine ⟨⟨h1, by simpa using h2, h3⟩, fun j => by simpa using hf j, fun j hj => by rw [key]; exact hc j hj, fun j nd kv e1 e2 => ?_, ha', hg⟩
  obtain ⟨c0, c1, c2, hl, ho⟩ := hn j nd kv e1 e2
  exact ⟨by rw [key]; exact c0, by rw [key]; exact c1, by rw [key]; exact c2, hl, ownsRow_setCell_below ho ha u⟩
set_option maxRecDepth 100000 in
set_option maxHeartbeats 4000000 in
theorem toReadData_c (v : Value) (d : Dt) (w : World) (h : DataAt w v d) (hs : d.1.length ≤ 1048576 ∧ d.2.length ≤ 1048576 ∧ NsSmall d.1) :
    Calls Tryz.prog 22 #[v] w fun e w' => (∃ u, e = .returned u ∧ DataOwn w' w.heap.size w'.heap.size u d) ∧ Below w.heap.size w w' := by
  obtain ⟨ns, rs⟩ := d
  obtain ⟨nv, rv, rfl, hn, hr⟩ := h
  simp only at hs hn hr
  have hb1 := (Below.refl w.heap.size w).alloc (Nat.le_refl _) (.cells #[nv, rv] 42)
  have hb2 := hb1.alloc (by simp) (.cells #[.slice none 0 0, .slice none 0 0] 26)
  have hb3 := hb2.alloc (by simp; omega) (.cells #[.slice none 0 0, .slice none 0 0] 26)
  have HN := hide (hn.below hb3)
  have HR := hide hr
  have HBB := hide hb3
  have HP := hide (((AtC2.new w nv rv 42).below ((Below.refl _ _).alloc (Nat.le_refl _) (.cells #[.slice none 0 0, .slice none 0 0] 26))).below ((Below.refl _ _).alloc (Nat.le_refl _) (.cells #[.slice none 0 0, .slice none 0 0] 26)))
  have HD := hide ((AtC2.new (w.alloc (.cells #[nv, rv] 42)) (.slice none 0 0) (.slice none 0 0) 26).below ((Below.refl _ _).alloc (Nat.le_refl _) (.cells #[.slice none 0 0, .slice none 0 0] 26)))
  have HO := hide (AtC2.new ((w.alloc (.cells #[nv, rv] 42)).alloc (.cells #[.slice none 0 0, .slice none 0 0] 26)) (.slice none 0 0) (.slice none 0 0) 26)
  rw [World.size_alloc] at HD
  rw [World.size_alloc, World.size_alloc] at HO
  clear hn hr hb1 hb2 hb3
  go_enter Tryz.func22, Tryz.ntmps22
  go_wp2_with fail
  have h := toReadNodeS_c nv ns _ (unhide HN) hs.1 hs.2.2
  refine h.mono ?_
  clear h
  rintro e w1 ⟨⟨kvs, rfl, hno⟩, hb1⟩
  have hP := (unhide HP).below hb1
  have hD := (unhide HD).below hb1
  have hO := (unhide HO).below hb1
  have p0 := hP.n0
  have p1 := hP.n1
  have o0 := hO.n0
  have o1 := hO.n1
  have of := hO.f
  have ol := hO.lt
  have HB1 := hide hb1
  have HNO := hide hno
  have HD1 := hide hD
  have HO1 := hide (hO.st0 (.slice (some ⟨w.heap.size + 1 + 1 + 1, 0, none⟩) ns.length ns.length))
  have HS := hide (((unhide HBB).trans (hb1.mono (unhide HBB).size)).setCell (p := ⟨w.heap.size + 1 + 1, 0, none⟩) (by show w.heap.size ≤ w.heap.size + 1 + 1; omega) (.slice (some ⟨w.heap.size + 1 + 1 + 1, 0, none⟩) ns.length ns.length))
  have HD2 := hide ((unhide HD1).far (a := ⟨w.heap.size + 1 + 1, 0, none⟩) (by show w.heap.size + 1 + 1 ≠ w.heap.size + 1; omega) (.slice (some ⟨w.heap.size + 1 + 1 + 1, 0, none⟩) ns.length ns.length))
  have hno' := unhide HNO
  simp only [World.size_alloc] at hno'
  have HNO2 := hide (hno'.far (a := ⟨w.heap.size + 1 + 1, 0, none⟩) (by show w.heap.size + 1 + 1 < _; omega) (.slice (some ⟨w.heap.size + 1 + 1 + 1, 0, none⟩) ns.length ns.length))
  clear hP hD hO hb1 hno hno' HNO HD1 HB1
  go_wp2_with fail
  clear p0 p1 o0 o1 of ol
  have h := toIntS_c rv rs (w1.setCell ⟨w.heap.size + 1 + 1, 0, none⟩ (.slice (some ⟨w.heap.size + 1 + 1 + 1, 0, none⟩) ns.length ns.length)) ((unhide HR).below (unhide HS)) hs.2.1
  refine h.mono ?_
  clear h
  generalize w1.setCell ⟨w.heap.size + 1 + 1, 0, none⟩ (.slice (some ⟨w.heap.size + 1 + 1 + 1, 0, none⟩) ns.length ns.length) = w2 at *
  rintro e w3 ⟨⟨cap, rfl, hown⟩, hb3⟩
  have hD := (unhide HD2).below hb3
  have hO := (unhide HO1).below hb3
  have d0 := hD.n0
  have d1 := hD.n1
  have df := hD.f
  have o0 := hO.n0
  have o1 := hO.n1
  have of := hO.f
  have ol := hO.lt
  have HB3 := hide ((unhide HS).trans (hb3.mono (unhide HS).size))
  have HNO3 := hide ((unhide HNO2).below hb3)
  have HOWN := hide hown
  have hs3 := hb3.size
  have hs1 := (unhide HNO2).1.2.1
  have hold := (unhide HNO2).old
  clear hD hO hb3 hown HD2 HO1 HNO2 HS HP HD HO HN HR HBB
  go_wp2
  refine bodyPost_ret (v := .agg #[.slice (some ⟨w.heap.size + 1 + 1 + 1, 0, none⟩) ns.length ns.length, .slice (some ⟨w2.heap.size, 0, none⟩) rs.length cap]) (by simp [results, Tryz.results22, go_sem, d0, d1]) rfl ⟨⟨_, rfl, _, _, kvs, rfl, .inr ⟨w.heap.size + 1 + 1 + 1, ns.length, rfl, Nat.le_refl _, by unfold maxLen; omega, ?_⟩, ?_, ?_, ?_, ?_, Nat.le_refl _⟩, ?_⟩
  · refine NodesOwn.base (base := w.heap.size + 1 + 1 + 1) ?_ (by omega)
    exact (((unhide HNO3).far (by show w.heap.size + 1 + 1 < _; omega) _).far (by show w.heap.size + 1 < _; omega) _).far (by show w.heap.size + 1 < _; omega) _
  · refine own_base (base := w2.heap.size) ?_ (by omega)
    exact ownsRow_setCell_below (ownsRow_setCell_below (ownsRow_setCell_below (unhide HOWN) (by show w.heap.size + 1 + 1 < _; omega) _) (by show w.heap.size + 1 < _; omega) _) (by show w.heap.size + 1 < _; omega) _
  · unfold Apart
    rw [List.pairwise_cons]
    refine ⟨fun b hb i hi e => ?_, (unhide HNO3).2.2.2.2.1⟩
    simp [Value.ownBlock] at hi
    have := hold b hb i e
    omega
  · intro i hi e
    simp [Value.ownBlock] at hi e
    omega
  · intro x hx i hi
    have hsz : ((((w3.setCell ⟨w.heap.size + 1 + 1, 1, none⟩ (.slice (some ⟨w2.heap.size, 0, none⟩) rs.length cap)).setCell ⟨w.heap.size + 1, 0, none⟩ (.slice (some ⟨w.heap.size + 1 + 1 + 1, 0, none⟩) ns.length ns.length)).setCell ⟨w.heap.size + 1, 1, none⟩ (.slice (some ⟨w2.heap.size, 0, none⟩) rs.length cap))).heap.size = w3.heap.size := by simp
    rw [hsz]
    rcases hx with rfl | rfl | hx
    · simp [Value.ownBlock] at hi; omega
    · simp [Value.ownBlock] at hi
      have := ((unhide HOWN).lt w2.heap.size rfl).2
      omega
    · have := hold x hx i hi; omega
  · refine (unhide HB3).trans ?_
    repeat (first | exact Below.refl _ _ | refine Below.setCell ?_ (by first | exact Nat.le_refl _ | exact Nat.le_succ _ | (simp; done) | (simp; omega)) _ | refine Below.alloc ?_ (by first | exact Nat.le_refl _ | (simp; done) | (simp; omega)) _)
end Go.Proofs.YtpbnmhnbkfnaeaaGreatDoor
namespace Go.Proofs.YtpbnmhnbkfnaeaaGreatDoor
open Go.RowKit Nt

/-- a text of a number is no longer than this -/
def big : Nat := 100000

theorem dec_len (n : Nat) : (dec n).size = (txl 10 n).length := by simp [dec, txt, B_size]
theorem dec_lt (n : Nat) : n < 10 ^ (dec n).size := by rw [dec_len]; exact lt_pow_txl (by omega) n

theorem sub_end {a b X l : Nat} (hba : b ≤ a) (hX : X < 10 ^ (dec a).size) (h : X + b % 10 ^ (dec a).size = a % 10 ^ (dec a).size + l * 10 ^ (dec a).size) : X = a - b := by
  have ha := dec_lt a
  rw [Nat.mod_eq_of_lt ha, Nat.mod_eq_of_lt (by omega)] at h
  generalize 10 ^ (dec a).size = p at *
  have : l = 0 := by
    rcases Nat.eq_zero_or_pos l with h0 | h0
    · exact h0
    · have := Nat.mul_le_mul_right p h0
      omega
  subst this; omega

set_option maxRecDepth 100000 in
set_option maxHeartbeats 4000000 in
theorem l1Sub_c (a b : Nat) (w : World) (hba : b ≤ a) (hs : (dec a).size ≤ 100000) :
    Calls Tryz.prog 153 #[.string (dec a), .string (dec b)] w fun e w' => e = .returned (.string (dec (a - b))) ∧ Below w.heap.size w w' := by
  obtain ⟨i0, hi, hz0, hz1, hz2⟩ := info_parts Tryz.infoInt
  have hbs : (dec b).size ≤ 1000000000 := by
    have := txl_len_le (b := 10) (by omega) (dec_size_pos a) (Nat.lt_of_le_of_lt hba (dec_lt a))
    rw [dec_len b]; omega
  have Hba := hide hba
  clear hba
  go_enter Tryz.func153, Tryz.ntmps153
  go_wp2
  go_loopw [5, 6, 7] (fun v l i wr => ∃ (k c : Nat) (xs : List Nat), k ≤ (dec a).size ∧ i = .int .i64 k ∧ l = .int .i64 c ∧ c ≤ 1 ∧ xs.length = k ∧ wr.ownsRow w.heap.size 3 1 v k (ints xs) ∧ Below w.heap.size w wr ∧
      Hid (∀ d ∈ xs, d < 10) ∧ Hid (ofd 10 xs + b % 10 ^ k = a % 10 ^ k + c * 10 ^ k))
    (fun _ _ i _ => (dec a).size - (intOf i).toNat)
  case atStart =>
    exact ⟨0, 0, [], Nat.zero_le _, rfl, rfl, by omega, rfl, World.ownsRow_made w #[] 0 (Nat.le_refl _) (by decide) (by simp), (Below.refl _ _).alloc (Nat.le_refl _) _, hide (by simp), hide (by simp [ofd, Nat.mod_one])⟩
  case round =>
    obtain ⟨k, c, xs, hk, rfl, rfl, hc, hxk, hown, hb, hdg, hval⟩ := hrel
    by_cases hlt : k < (dec a).size
    · have hak : a / 10 ^ k % 10 < 10 := Nat.mod_lt _ (by omega)
      have hbk : b / 10 ^ k % 10 < 10 := Nat.mod_lt _ (by omega)
      generalize hga : a / 10 ^ k % 10 = ak at *
      generalize hgb : b / 10 ^ k % 10 = bk at *
      have Ha := hide hga
      have Hb := hide hgb
      clear hga hgb
      go_wp2_with fail
      refine (l1At_d a k ak _ (unhide Ha) (by omega) (by omega)).mono ?_
      rintro e w1 ⟨rfl, rfl⟩
      go_wp2_with fail
      refine (l1At_d b k bk _ (unhide Hb) (by omega) (by omega)).mono ?_
      rintro e w1 ⟨rfl, rfl⟩
      by_cases hneg : (ak : Int) - bk - c < 0
      · obtain ⟨d, hd⟩ : ∃ d : Nat, (ak : Int) - bk - c + 10 = d := ⟨((ak : Int) - bk - c + 10).toNat, by omega⟩
        have hdl : d < 10 := by omega
        have hw := hb.size
        go_wp2_with (at_builtin; refine wpList_append_own _ rfl (.tmp 29) (.tmp 31) 24 rfl w.heap.size 3 i0 (.int .i64 0) 1 8 Tryz.underlying24 hi hz0 hz1 hz2 rfl (by decide) _ _ _ rfl (hown.alloc _) ⟨w1.heap.size, 0, none⟩ 1 1 [.int .i64 d] rfl rfl (cell_one_new _ _ _) (by intro u hu; simp at hu; subst hu; rfl) (by unfold maxLen; omega) (by omega) (by simp; omega) ?_; intro v2 w2 hown2 hg2 _)
        have hbX := below_grown (hb.alloc hw _) (hown.alloc _) hg2 (by simp; omega)
        go_roundw
        case rel => exact ⟨k + 1, 1, xs ++ [d], by omega, by go_num, rfl, by omega, by simp [hxk], by rw [← ints_snoc]; exact hown2, hbX, dig_snoc hdg hdl, hide (by rw [ofd_snoc, hxk]; exact sub_step (unhide hval) (unhide Ha) (unhide Hb) (by omega))⟩
        case measure => simp [intOf]; omega
      · obtain ⟨d, hd⟩ : ∃ d : Nat, (ak : Int) - bk - c = d := ⟨((ak : Int) - bk - c).toNat, by omega⟩
        have hdl : d < 10 := by omega
        have hw := hb.size
        go_wp2_with (at_builtin; refine wpList_append_own _ rfl (.tmp 29) (.tmp 31) 24 rfl w.heap.size 3 i0 (.int .i64 0) 1 8 Tryz.underlying24 hi hz0 hz1 hz2 rfl (by decide) _ _ _ rfl (hown.alloc _) ⟨w1.heap.size, 0, none⟩ 1 1 [.int .i64 d] rfl rfl (cell_one_new _ _ _) (by intro u hu; simp at hu; subst hu; rfl) (by unfold maxLen; omega) (by omega) (by simp; omega) ?_; intro v2 w2 hown2 hg2 _)
        have hbX := below_grown (hb.alloc hw _) (hown.alloc _) hg2 (by simp; omega)
        go_roundw
        case rel => exact ⟨k + 1, 0, xs ++ [d], by omega, by go_num, rfl, by omega, by simp [hxk], by rw [← ints_snoc]; exact hown2, hbX, dig_snoc hdg hdl, hide (by rw [ofd_snoc, hxk]; exact sub_step (unhide hval) (unhide Ha) (unhide Hb) (by omega))⟩
        case measure => simp [intOf]; omega
    · go_wp2_with fail
      refine (l1Text_c xs _ _ (unhide hdg) (by omega) (own_base (hxk ▸ hown) (Nat.zero_le _))).mono ?_
      rintro e w1 ⟨rfl, hb1⟩
      go_wp2
      go_ret
      have hkn : k = (dec a).size := by omega
      subst hkn
      exact ⟨ret_str (by rw [sub_end (unhide Hba) (hxk ▸ ofd_lt xs (unhide hdg)) (unhide hval)]), hb.trans (hb1.mono hb.size)⟩
end Go.Proofs.YtpbnmhnbkfnaeaaGreatDoor
namespace Go.Proofs.YtpbnmhnbkfnaeaaGreatDoor
open Go.RowKit Nt

theorem dec_above' (n k : Nat) (h : (dec n).size ≤ k) : n / 10 ^ k % 10 = 0 := by
  rw [dec_above n k (by rw [← dec_len]; exact h)]

theorem add_end {a b X k : Nat} (h1 : (dec a).size ≤ k) (h2 : (dec b).size ≤ k) (h : X + 0 * 10 ^ k = a % 10 ^ k + b % 10 ^ k) : X = a + b := by
  have ha := Nat.lt_of_lt_of_le (dec_lt a) (Nat.pow_le_pow_right (show 0 < 10 by omega) h1)
  have hb := Nat.lt_of_lt_of_le (dec_lt b) (Nat.pow_le_pow_right (show 0 < 10 by omega) h2)
  rw [Nat.mod_eq_of_lt ha, Nat.mod_eq_of_lt hb] at h
  omega


set_option maxRecDepth 100000 in
set_option maxHeartbeats 4000000 in
theorem l1Add_c (a b : Nat) (w : World) (hsa : (dec a).size ≤ 100000) (hsb : (dec b).size ≤ 100000) :
    Calls Tryz.prog 132 #[.string (dec a), .string (dec b)] w fun e w' => e = .returned (.string (dec (a + b))) ∧ Below w.heap.size w w' := by
  obtain ⟨i0, hi, hz0, hz1, hz2⟩ := info_parts Tryz.infoInt
  obtain ⟨M, hM1, hM2, hM3⟩ : ∃ M, (dec a).size ≤ M ∧ (dec b).size ≤ M ∧ M ≤ 100000 := ⟨max (dec a).size (dec b).size, by omega, by omega, by omega⟩
  go_enter Tryz.func132, Tryz.ntmps132
  go_wp2
  go_loopw [5, 6, 7] (fun v l i wr => ∃ (k c : Nat) (xs : List Nat), k ≤ M + 1 ∧ k + c ≤ M + 1 ∧ i = .int .i64 k ∧ l = .int .i64 c ∧ c ≤ 1 ∧ xs.length = k ∧ wr.ownsRow w.heap.size 3 1 v k (ints xs) ∧ Below w.heap.size w wr ∧
      Hid (∀ d ∈ xs, d < 10) ∧ Hid (ofd 10 xs + c * 10 ^ k = a % 10 ^ k + b % 10 ^ k))
    (fun _ _ i _ => M + 1 - (intOf i).toNat)
  case atStart =>
    exact ⟨0, 0, [], by omega, by omega, rfl, rfl, by omega, rfl, World.ownsRow_made w #[] 0 (Nat.le_refl _) (by decide) (by simp), (Below.refl _ _).alloc (Nat.le_refl _) _, hide (by simp), hide (by simp [ofd, Nat.mod_one])⟩
  case round =>
    obtain ⟨k, c, xs, hk, hkc, rfl, rfl, hc, hxk, hown, hb, hdg, hval⟩ := hrel
    have hak : a / 10 ^ k % 10 < 10 := Nat.mod_lt _ (by omega)
    have hbk : b / 10 ^ k % 10 < 10 := Nat.mod_lt _ (by omega)
    have ha0 := dec_above' a k
    have hb0 := dec_above' b k
    generalize hga : a / 10 ^ k % 10 = ak at *
    generalize hgb : b / 10 ^ k % 10 = bk at *
    have Ha := hide hga
    have Hb := hide hgb
    clear hga hgb
    obtain ⟨d, hd⟩ : ∃ d : Nat, ((ak : Int) + bk + c) % 10 = d := ⟨(((ak : Int) + bk + c) % 10).toNat, by omega⟩
    obtain ⟨c', hc'⟩ : ∃ d : Nat, ((ak : Int) + bk + c) / 10 = d := ⟨(((ak : Int) + bk + c) / 10).toNat, by omega⟩
    have hdl : d < 10 := by omega
    have hcl : (dec a).size ≤ k → (dec b).size ≤ k → c' = 0 := fun h1 h2 => by have := ha0 h1; have := hb0 h2; omega
    have hkM : k < (dec a).size ∨ k < (dec b).size ∨ 0 < c → k + 1 + c' ≤ M + 1 := by
      intro h
      by_cases h1 : (dec a).size ≤ k
      · by_cases h2 : (dec b).size ≤ k
        · have := hcl h1 h2; omega
        · omega
      · omega
    have HkM := hide hkM
    clear hcl hkM ha0 hb0
    by_cases h1 : k < (dec a).size
    · have hkm := unhide HkM (.inl h1)
      go_wp2_with fail
      refine (l1At_d a k ak _ (unhide Ha) (by omega) (by omega)).mono ?_
      rintro e w1 ⟨rfl, rfl⟩
      go_wp2_with fail
      refine (l1At_d b k bk _ (unhide Hb) (by omega) (by omega)).mono ?_
      rintro e w1 ⟨rfl, rfl⟩
      have hw := hb.size
      go_wp2_with (at_builtin; refine wpList_append_own _ rfl (.tmp 35) (.tmp 38) 24 rfl w.heap.size 3 i0 (.int .i64 0) 1 8 Tryz.underlying24 hi hz0 hz1 hz2 rfl (by decide) _ _ _ rfl (hown.alloc _) ⟨w1.heap.size, 0, none⟩ 1 1 [.int .i64 d] rfl rfl (cell_one_new _ _ _) (by intro u hu; simp at hu; subst hu; rfl) (by unfold maxLen; omega) (by omega) (by simp; omega) ?_; intro v2 w2 hown2 hg2 _)
      have hbX := below_grown (hb.alloc hw _) (hown.alloc _) hg2 (by simp; omega)
      go_roundw
      case rel => exact ⟨k + 1, c', xs ++ [d], by omega, by omega, by go_num, by rw [hc'], by omega, by simp [hxk], by rw [← ints_snoc]; exact hown2, hbX, dig_snoc hdg hdl, hide (by rw [ofd_snoc, hxk]; exact add_step (unhide hval) (unhide Ha) (unhide Hb) (by omega))⟩
      case measure => simp [intOf]; omega
    · by_cases h2 : k < (dec b).size
      · have hkm := unhide HkM (.inr (.inl h2))
        go_wp2_with fail
        refine (l1At_d a k ak _ (unhide Ha) (by omega) (by omega)).mono ?_
        rintro e w1 ⟨rfl, rfl⟩
        go_wp2_with fail
        refine (l1At_d b k bk _ (unhide Hb) (by omega) (by omega)).mono ?_
        rintro e w1 ⟨rfl, rfl⟩
        have hw := hb.size
        go_wp2_with (at_builtin; refine wpList_append_own _ rfl (.tmp 35) (.tmp 38) 24 rfl w.heap.size 3 i0 (.int .i64 0) 1 8 Tryz.underlying24 hi hz0 hz1 hz2 rfl (by decide) _ _ _ rfl (hown.alloc _) ⟨w1.heap.size, 0, none⟩ 1 1 [.int .i64 d] rfl rfl (cell_one_new _ _ _) (by intro u hu; simp at hu; subst hu; rfl) (by unfold maxLen; omega) (by omega) (by simp; omega) ?_; intro v2 w2 hown2 hg2 _)
        have hbX := below_grown (hb.alloc hw _) (hown.alloc _) hg2 (by simp; omega)
        go_roundw
        case rel => exact ⟨k + 1, c', xs ++ [d], by omega, by omega, by go_num, by rw [hc'], by omega, by simp [hxk], by rw [← ints_snoc]; exact hown2, hbX, dig_snoc hdg hdl, hide (by rw [ofd_snoc, hxk]; exact add_step (unhide hval) (unhide Ha) (unhide Hb) (by omega))⟩
        case measure => simp [intOf]; omega
      · by_cases h3 : 0 < c
        · have hkm := unhide HkM (.inr (.inr h3))
          go_wp2_with fail
          refine (l1At_d a k ak _ (unhide Ha) (by omega) (by omega)).mono ?_
          rintro e w1 ⟨rfl, rfl⟩
          go_wp2_with fail
          refine (l1At_d b k bk _ (unhide Hb) (by omega) (by omega)).mono ?_
          rintro e w1 ⟨rfl, rfl⟩
          have hw := hb.size
          go_wp2_with (at_builtin; refine wpList_append_own _ rfl (.tmp 35) (.tmp 38) 24 rfl w.heap.size 3 i0 (.int .i64 0) 1 8 Tryz.underlying24 hi hz0 hz1 hz2 rfl (by decide) _ _ _ rfl (hown.alloc _) ⟨w1.heap.size, 0, none⟩ 1 1 [.int .i64 d] rfl rfl (cell_one_new _ _ _) (by intro u hu; simp at hu; subst hu; rfl) (by unfold maxLen; omega) (by omega) (by simp; omega) ?_; intro v2 w2 hown2 hg2 _)
          have hbX := below_grown (hb.alloc hw _) (hown.alloc _) hg2 (by simp; omega)
          go_roundw
          case rel => exact ⟨k + 1, c', xs ++ [d], by omega, by omega, by go_num, by rw [hc'], by omega, by simp [hxk], by rw [← ints_snoc]; exact hown2, hbX, dig_snoc hdg hdl, hide (by rw [ofd_snoc, hxk]; exact add_step (unhide hval) (unhide Ha) (unhide Hb) (by omega))⟩
          case measure => simp [intOf]; omega
        · have hc0 : c = 0 := by omega
          subst hc0
          go_wp2_with fail
          refine (l1Text_c xs _ _ (unhide hdg) (by omega) (own_base (hxk ▸ hown) (Nat.zero_le _))).mono ?_
          rintro e w1 ⟨rfl, hb1⟩
          go_wp2
          go_ret
          exact ⟨ret_str (by rw [add_end (Nat.le_of_not_lt h1) (Nat.le_of_not_lt h2) (unhide hval)]), hb.trans (hb1.mono hb.size)⟩
end Go.Proofs.YtpbnmhnbkfnaeaaGreatDoor
namespace Go.Proofs.YtpbnmhnbkfnaeaaGreatDoor
open Go.RowKit Nt

theorem B_tl (l : List UInt8) : (B l).toList = l := by rw [ByteArray.toList_eq, B_data]

theorem less_digits : ∀ (l m : List Nat), l.length = m.length → (∀ d ∈ l, d < 10) → (∀ d ∈ m, d < 10) →
    Op.bytesLess (l.map sg) (m.map sg) = decide (ofd 10 l.reverse < ofd 10 m.reverse) := by
  intro l
  induction l with
  | nil => intro m h _ _; have : m = [] := List.eq_nil_of_length_eq_zero (by simpa using h.symm)
           subst this; simp [Op.bytesLess]
  | cons d r ih =>
    intro m h hl hm
    match m, h with
    | [], h => simp at h
    | c :: s, h =>
      have hrs : r.length = s.length := by simpa using h
      have hd := hl d (by simp)
      have hc := hm c (by simp)
      have hr := fun x hx => hl x (List.mem_cons_of_mem d hx)
      have hs := fun x hx => hm x (List.mem_cons_of_mem c hx)
      simp only [List.map_cons, Op.bytesLess, List.reverse_cons, ih s hrs hr hs]
      rw [ofd_snoc, ofd_snoc, List.length_reverse, List.length_reverse, ← hrs]
      have h1 := ofd_lt (b := 10) r.reverse (fun x hx => hr x (by simpa using hx))
      have h2 := ofd_lt (b := 10) s.reverse (fun x hx => hs x (by simpa using hx))
      rw [List.length_reverse] at h1 h2
      rw [← hrs] at h2
      generalize 10 ^ r.length = p at *
      have e1 : decide (sg d < sg c) = decide (d < c) := by
        simp only [UInt8.lt_iff_toNat_lt, sg_toNat (show d < 16 by omega), sg_toNat (show c < 16 by omega), if_pos hd, if_pos hc]; simp
      have e2 : (sg d == sg c) = decide (d = c) := by
        by_cases hdc : d = c
        · subst hdc; simp
        · have : sg d ≠ sg c := fun hh => hdc (sg_inj (by omega) (by omega) hh)
          simp [this, hdc]
      rw [e1, e2]
      rcases Nat.lt_trichotomy d c with hlt | heq | hgt
      · have : p * (d + 1) ≤ p * c := Nat.mul_le_mul_left p hlt
        rw [Nat.mul_add] at this
        simp only [hlt, decide_true, Bool.true_or]
        symm; rw [decide_eq_true_iff]; omega
      · subst heq; simp
      · have : p * (c + 1) ≤ p * d := Nat.mul_le_mul_left p hgt
        rw [Nat.mul_add] at this
        have hn : ¬ d < c := by omega
        have hne : d ≠ c := by omega
        simp only [hn, hne, decide_false, Bool.false_and, Bool.or_false]
        symm; rw [decide_eq_false_iff_not]; omega

/-- digits, the highest first -/
def hi10 (n : Nat) : List Nat := if n = 0 then [0] else (dg 10 n).reverse
theorem txl_hi (n : Nat) : txl 10 n = (hi10 n).map sg := by
  unfold txl hi10; split
  · simp [sg]
  · rw [List.map_reverse]
theorem hi10_lt (n : Nat) : ∀ d ∈ hi10 n, d < 10 := by
  intro d hd; unfold hi10 at hd; split at hd
  · simp at hd; omega
  · exact dg_lt (by omega) n d (by simpa using hd)
theorem ofd_hi (n : Nat) : ofd 10 (hi10 n).reverse = n := by
  unfold hi10; split
  · subst n; simp [ofd]
  · rw [List.reverse_reverse, ofd_dg (by omega)]

theorem dec_less {a b : Nat} (h : (dec a).size = (dec b).size) : Op.bytesLess (dec a).toList (dec b).toList = decide (a < b) := by
  unfold dec txt
  rw [B_tl, B_tl, txl_hi, txl_hi, less_digits _ _ _ (hi10_lt a) (hi10_lt b), ofd_hi, ofd_hi]
  rw [dec_len, dec_len, txl_hi, txl_hi] at h
  simpa using h

theorem dec_beq (a b : Nat) : ((dec a).toList == (dec b).toList) = decide (a = b) := by
  by_cases h : a = b
  · subst h; simp
  · have : (dec a).toList ≠ (dec b).toList := by
      intro hh
      unfold dec txt at hh
      rw [B_tl, B_tl] at hh
      exact h (txl_inj (by omega) (by omega) hh)
    simp [this, h]

theorem dec_size_lt {a b : Nat} (h : (dec a).size < (dec b).size) : a < b := by
  rcases Nat.lt_or_ge a b with h1 | h1
  · exact h1
  · have := txl_len_le (b := 10) (by omega) (dec_size_pos a) (Nat.lt_of_le_of_lt h1 (dec_lt a))
    rw [← dec_len] at this; omega

def cmpN (a b : Nat) : Int := if a < b then -1 else if b < a then 1 else 0

set_option maxRecDepth 100000 in
set_option maxHeartbeats 4000000 in
theorem l1Cmp_c (a b : Nat) (w : World) (_hsa : (dec a).size ≤ 1000000000) (_hsb : (dec b).size ≤ 1000000000) :
    Calls Tryz.prog 152 #[.string (dec a), .string (dec b)] w fun e w' => e = .returned (.int .i64 (cmpN a b)) ∧ w' = w := by
  by_cases he : (dec a).size = (dec b).size
  · have h1 := dec_less he
    have h2 := dec_beq a b
    have h0 : ((dec a).size != (dec b).size) = false := by simp [he]
    have hI : (((dec a).size : Int) != ((dec b).size : Int)) = false := by simp [he]
    rcases Nat.lt_trichotomy a b with hlt | heq | hgt
    · have hr : cmpN a b = -1 := by simp [cmpN, hlt]
      rw [decide_eq_true hlt] at h1
      rw [hr]
      clear he h2 h0 hr
      go_enter Tryz.func152, Tryz.ntmps152
      go_wp2
      go_ret
      exact ⟨rfl, rfl⟩
    · subst heq
      have hr : cmpN a a = 0 := by simp [cmpN]
      rw [decide_eq_false (by omega)] at h1
      rw [hr]
      clear he h0 hr
      go_enter Tryz.func152, Tryz.ntmps152
      go_wp2
      go_ret
      exact ⟨rfl, rfl⟩
    · have hr : cmpN a b = 1 := by unfold cmpN; rw [if_neg (by omega), if_pos hgt]
      rw [decide_eq_false (by omega)] at h1 h2
      rw [hr]
      clear he h0 hr
      go_enter Tryz.func152, Tryz.ntmps152
      go_wp2
      go_ret
      exact ⟨rfl, rfl⟩
  · have hI : (((dec a).size : Int) != ((dec b).size : Int)) = true := by rw [bne_iff_ne]; omega
    by_cases hlt : (dec a).size < (dec b).size
    · have hr : cmpN a b = -1 := by simp [cmpN, dec_size_lt hlt]
      rw [hr]
      clear he hr
      go_enter Tryz.func152, Tryz.ntmps152
      go_wp2
      go_ret
      exact ⟨rfl, rfl⟩
    · have hgt := dec_size_lt (a := b) (b := a) (by omega)
      have hr : cmpN a b = 1 := by unfold cmpN; rw [if_neg (by omega), if_pos hgt]
      rw [hr]
      clear he hr hgt
      go_enter Tryz.func152, Tryz.ntmps152
      go_wp2
      go_ret
      exact ⟨rfl, rfl⟩

/-- a text that is a number, in decimals, with no needless nought -/
def isDec (l : List UInt8) : Bool := l != [] && l.all (fun c => 48 ≤ c && c ≤ 57) && (l.length ≤ 1 || l.head? != some 48)

theorem isDec_txl (n : Nat) : isDec (txl 10 n) = true := by
  have hall : (txl 10 n).all (fun c => 48 ≤ c && c ≤ 57) = true := by
    rw [List.all_eq_true]
    intro c hc
    rw [txl_hi] at hc
    obtain ⟨d, hd, rfl⟩ := List.mem_map.1 hc
    have := hi10_lt n d hd
    simp only [Bool.and_eq_true, decide_eq_true_eq, UInt8.le_iff_toNat_le, sg_toNat (show d < 16 by omega), if_pos this]
    simp; omega
  have hne : txl 10 n ≠ [] := fun h => by have := txl_length_pos (b := 10) (by omega) n; rw [h] at this; simp at this
  have hlead : (txl 10 n).length ≤ 1 ∨ (txl 10 n).head? ≠ some 48 := by
    have ht := trim_txl n
    cases hl : txl 10 n with
    | nil => left; simp
    | cons c r =>
      by_cases hr : r = []
      · left; subst hr; simp
      · right
        intro hc
        simp at hc
        subst hc
        rw [hl] at ht
        simp only [trim] at ht
        rw [if_pos ⟨trivial, hr⟩] at ht
        have := trim_length r
        have := congrArg List.length ht
        simp at this; omega
  unfold isDec
  simp only [bne_iff_ne, Bool.and_eq_true, Bool.or_eq_true, decide_eq_true_eq]
  exact ⟨⟨by simpa using hne, hall⟩, hlead⟩

/-- the number that decimals are -/
def valDec (l : List UInt8) : Nat := ofd 10 ((l.map fun c => c.toNat - 48).reverse)

theorem isDec_val {l : List UInt8} (h : isDec l = true) : l = txl 10 (valDec l) := by
  unfold isDec at h
  simp only [bne_iff_ne, Bool.and_eq_true, Bool.or_eq_true, decide_eq_true_eq] at h
  obtain ⟨⟨hne, hall⟩, hlead⟩ := h
  rw [List.all_eq_true] at hall
  have hc : ∀ c ∈ l, 48 ≤ c.toNat ∧ c.toNat ≤ 57 := by
    intro c hc; have := hall c hc
    simp only [Bool.and_eq_true, decide_eq_true_eq, UInt8.le_iff_toNat_le] at this
    simpa using this
  have hm : (l.map fun c => c.toNat - 48).map sg = l := by
    rw [List.map_map]
    have : ∀ c ∈ l, (sg ∘ fun c : UInt8 => c.toNat - 48) c = id c := by
      intro c hcl
      have := hc c hcl
      apply UInt8.toNat_inj.1
      simp only [Function.comp, id]
      rw [sg_toNat (by omega), if_pos (by omega)]; omega
    rw [List.map_congr_left this, List.map_id]
  have hd : ∀ d ∈ (l.map fun c => c.toNat - 48).reverse, d < 10 := by
    intro d hd
    rw [List.mem_reverse] at hd
    obtain ⟨c, hcl, rfl⟩ := List.mem_map.1 hd
    have := hc c hcl
    show c.toNat - 48 < 10
    omega
  have ht := trim_rev _ hd (by simpa using hne)
  rw [List.map_reverse, List.reverse_reverse, hm] at ht
  unfold valDec
  rw [← ht]
  symm
  apply trim_stop
  rcases hlead with h1 | h1
  · exact .inl h1
  · right
    cases l with
    | nil => exact absurd rfl hne
    | cons c r => exact ⟨c, r, rfl, fun h => h1 (by simp [h])⟩
end Go.Proofs.YtpbnmhnbkfnaeaaGreatDoor
