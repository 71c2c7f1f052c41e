/- A part of the proof, put together out of smaller texts: each piece says what it is for. -/
import Derived.Test.YtijgolgfcgkbiaaDoorRows
import Derived.Below
import Derived.WalkKit
import Derived.WalkSpells
import Derived.WalkLawsBesides
import Derived.Deep.QuietTactic
import Derived.BigQuiet
/- Plain arithmetic of digits: no program is named here. -/
namespace Go.Proofs.YtijgolgfcgkbiaaDoor.Nt

/-- the number that digits are, the lowest first -/
def ofd (b : Nat) : List Nat → Nat
  | [] => 0
  | d :: r => d + b * ofd b r

/-- the digits of a number, the lowest first, with fuel -/
def dgf (b : Nat) : Nat → Nat → List Nat
  | 0, _ => []
  | f + 1, n => if n = 0 then [] else n % b :: dgf b f (n / b)

def dg (b n : Nat) : List Nat := dgf b n n

theorem dgf_stable {b : Nat} (hb : 2 ≤ b) : ∀ (f g n : Nat), n ≤ f → n ≤ g → dgf b f n = dgf b g n := by
  intro f
  induction f with
  | zero => intro g n h1 h2; have : n = 0 := by omega
            subst this; cases g <;> simp [dgf]
  | succ f ih =>
    intro g n h1 h2
    cases g with
    | zero => have : n = 0 := by omega
              subst this; simp [dgf]
    | succ g =>
      simp only [dgf]
      by_cases h : n = 0
      · simp [h]
      · have hlt : n / b < n := Nat.div_lt_self (by omega) (by omega)
        simp only [h, if_false]
        rw [ih g (n / b) (by omega) (by omega)]

theorem dg_zero (b : Nat) : dg b 0 = [] := by simp [dg, dgf]

theorem dg_pos {b n : Nat} (hb : 2 ≤ b) (hn : 0 < n) : dg b n = n % b :: dg b (n / b) := by
  unfold dg
  cases n with
  | zero => omega
  | succ m =>
    have hlt : (m + 1) / b < m + 1 := Nat.div_lt_self (by omega) (by omega)
    simp only [dgf]
    rw [if_neg (by omega), dgf_stable hb m ((m + 1) / b) ((m + 1) / b) (by omega) (by omega)]

theorem ofd_dg {b : Nat} (hb : 2 ≤ b) : ∀ n, ofd b (dg b n) = n := by
  intro n
  induction n using Nat.strongRecOn with
  | _ n ih =>
    by_cases h : n = 0
    · subst h; simp [dg_zero, ofd]
    · rw [dg_pos hb (by omega), ofd, ih _ (Nat.div_lt_self (by omega) (by omega))]
      exact Nat.mod_add_div n b

theorem dg_lt {b : Nat} (hb : 2 ≤ b) : ∀ n, ∀ d ∈ dg b n, d < b := by
  intro n
  induction n using Nat.strongRecOn with
  | _ n ih =>
    by_cases h : n = 0
    · subst h; simp [dg_zero]
    · rw [dg_pos hb (by omega)]
      intro d hd
      rcases List.mem_cons.1 hd with rfl | hd
      · exact Nat.mod_lt _ (by omega)
      · exact ih _ (Nat.div_lt_self (by omega) (by omega)) d hd

/-- canonical digits: each below the base, the highest not nought -/
def can (b : Nat) (l : List Nat) : Prop := (∀ d ∈ l, d < b) ∧ (∀ d, l.getLast? = some d → d ≠ 0)

theorem can_nil (b : Nat) : can b [] := ⟨by simp, by simp⟩

theorem ofd_pos_of_can {b : Nat} (hb : 2 ≤ b) : ∀ l, can b l → l ≠ [] → 0 < ofd b l := by
  intro l
  induction l with
  | nil => intro _ h; exact absurd rfl h
  | cons d r ih =>
    intro hc _
    simp only [ofd]
    by_cases hr : r = []
    · subst hr
      have := hc.2 d (by simp)
      simp only [ofd]; omega
    · have hc' : can b r := ⟨fun x hx => hc.1 x (List.mem_cons_of_mem _ hx), fun x hx => hc.2 x (by rw [List.getLast?_cons]; rw [hx]; rfl)⟩
      have h1 := ih hc' hr
      have h2 := Nat.mul_pos (show 0 < b by omega) h1
      omega

theorem can_tail {b d : Nat} {r : List Nat} (h : can b (d :: r)) : can b r :=
  ⟨fun x hx => h.1 x (List.mem_cons_of_mem _ hx), fun x hx => h.2 x (by rw [List.getLast?_cons]; rw [hx]; rfl)⟩

theorem dg_ofd {b : Nat} (hb : 2 ≤ b) : ∀ l, can b l → dg b (ofd b l) = l := by
  intro l
  induction l with
  | nil => intro _; simp [ofd, dg_zero]
  | cons d r ih =>
    intro hc
    have hp := ofd_pos_of_can hb (d :: r) hc (by simp)
    have hd : d < b := hc.1 d (by simp)
    rw [dg_pos hb hp]
    simp only [ofd]
    rw [Nat.add_mul_mod_self_left, Nat.mod_eq_of_lt hd, Nat.add_mul_div_left _ _ (by omega), Nat.div_eq_of_lt hd, Nat.zero_add, ih (can_tail hc)]

theorem dg_can {b : Nat} (hb : 2 ≤ b) : ∀ n, can b (dg b n) := by
  intro n
  refine ⟨dg_lt hb n, ?_⟩
  induction n using Nat.strongRecOn with
  | _ n ih =>
    by_cases h : n = 0
    · subst h; simp [dg_zero]
    · rw [dg_pos hb (by omega)]
      intro d hd
      have hlt : n / b < n := Nat.div_lt_self (by omega) (by omega)
      by_cases hr : dg b (n / b) = []
      · rw [hr] at hd
        simp at hd
        have hz : n / b = 0 := by rw [← ofd_dg hb (n / b), hr]; rfl
        rcases (Nat.div_eq_zero_iff).1 hz with h0 | h0
        · omega
        · rw [← hd, Nat.mod_eq_of_lt h0]; omega
      · rw [List.getLast?_cons] at hd
        have : (dg b (n / b)).getLast? = some d := by
          cases hg : (dg b (n / b)).getLast? with
          | none => exact absurd (List.getLast?_eq_none_iff.1 hg) hr
          | some y => rw [hg] at hd; simpa using hd
        exact ih _ hlt d this

theorem ofd_append (b : Nat) (l m : List Nat) : ofd b (l ++ m) = ofd b l + b ^ l.length * ofd b m := by
  induction l with
  | nil => simp [ofd]
  | cons d r ih => simp only [List.cons_append, ofd, ih, List.length_cons, Nat.pow_succ]; rw [Nat.mul_add, ← Nat.add_assoc, Nat.mul_comm (b ^ r.length) b, Nat.mul_assoc]

theorem ofd_lt {b : Nat} (l : List Nat) (h : ∀ d ∈ l, d < b) : ofd b l < b ^ l.length := by
  induction l with
  | nil => simp [ofd]
  | cons d r ih =>
    have h1 := ih (fun x hx => h x (List.mem_cons_of_mem _ hx))
    have h2 := h d (by simp)
    simp only [ofd, List.length_cons, Nat.pow_succ]
    have h3 : b * (ofd b r + 1) ≤ b * b ^ r.length := Nat.mul_le_mul_left _ h1
    rw [Nat.mul_add] at h3
    rw [Nat.mul_comm (b ^ r.length) b]
    omega

theorem ofd_replicate_zero (b k : Nat) : ofd b (List.replicate k 0) = 0 := by
  induction k with
  | zero => rfl
  | succ k ih => simp [List.replicate_succ, ofd, ih]

/-- noughts at the upper end are struck -/
def strip : List Nat → List Nat
  | [] => []
  | d :: r => match strip r with
    | [] => if d = 0 then [] else [d]
    | x :: y => d :: x :: y

theorem ofd_strip (b : Nat) (l : List Nat) : ofd b (strip l) = ofd b l := by
  induction l with
  | nil => rfl
  | cons d r ih =>
    simp only [strip, ofd]
    rw [← ih]
    cases h : strip r with
    | nil => by_cases hd : d = 0 <;> simp [hd, ofd]
    | cons x y => simp [ofd]

theorem strip_mem {l : List Nat} {d : Nat} (h : d ∈ strip l) : d ∈ l := by
  induction l with
  | nil => simp [strip] at h
  | cons x r ih =>
    simp only [strip] at h
    cases hs : strip r with
    | nil =>
      rw [hs] at h
      by_cases hx : x = 0
      · simp [hx] at h
      · simp [hx] at h; simp [h]
    | cons y z =>
      rw [hs] at h ih
      rcases List.mem_cons.1 h with h | h
      · simp [h]
      · exact List.mem_cons_of_mem _ (ih h)

theorem strip_last {l : List Nat} {d : Nat} (h : (strip l).getLast? = some d) : d ≠ 0 := by
  induction l with
  | nil => simp [strip] at h
  | cons x r ih =>
    simp only [strip] at h
    cases hs : strip r with
    | nil =>
      rw [hs] at h
      by_cases hx : x = 0
      · simp [hx] at h
      · simp [hx] at h; omega
    | cons y z =>
      rw [hs] at h ih
      exact ih (by simpa [List.getLast?_cons] using h)

theorem strip_can {b : Nat} {l : List Nat} (h : ∀ d ∈ l, d < b) : can b (strip l) :=
  ⟨fun d hd => h d (strip_mem hd), fun _ hd => strip_last hd⟩

theorem strip_eq_dg {b : Nat} (hb : 2 ≤ b) {l : List Nat} (h : ∀ d ∈ l, d < b) : strip l = dg b (ofd b l) := by
  rw [← ofd_strip, dg_ofd hb _ (strip_can h)]

theorem strip_snoc_zero (l : List Nat) : strip (l ++ [0]) = strip l := by
  induction l with
  | nil => simp [strip]
  | cons d r ih => simp only [List.cons_append, strip, ih]

theorem strip_snoc_pos (l : List Nat) (d : Nat) (hd : d ≠ 0) : strip (l ++ [d]) = l ++ [d] := by
  induction l with
  | nil => simp [strip, hd]
  | cons x r ih =>
    simp only [List.cons_append, strip, ih]
    cases h : r ++ [d] with
    | nil => simp at h
    | cons _ _ => rfl

theorem dg_inj {b : Nat} (hb : 2 ≤ b) {m n : Nat} (h : dg b m = dg b n) : m = n := by
  rw [← ofd_dg hb m, h, ofd_dg hb]

theorem dg_eq_nil {b : Nat} (hb : 2 ≤ b) {n : Nat} : dg b n = [] ↔ n = 0 := by
  constructor
  · intro h; rw [← ofd_dg hb n, h]; rfl
  · intro h; subst h; exact dg_zero b

theorem lt_pow_dg {b : Nat} (hb : 2 ≤ b) (n : Nat) : n < b ^ (dg b n).length := by
  have := ofd_lt _ (dg_lt hb n)
  rwa [ofd_dg hb] at this

theorem dg_len_le {b : Nat} (hb : 2 ≤ b) {k : Nat} : ∀ {n : Nat}, n < b ^ k → (dg b n).length ≤ k := by
  induction k with
  | zero => intro n h; have : n = 0 := by simpa using h
            subst this; simp [dg_zero]
  | succ k ih =>
    intro n h
    by_cases h0 : n = 0
    · subst h0; simp [dg_zero]
    · rw [dg_pos hb (by omega), List.length_cons]
      have : n / b < b ^ k := by
        rw [Nat.div_lt_iff_lt_mul (by omega)]; rwa [Nat.pow_succ] at h
      have := ih this
      omega

theorem dg_get {b : Nat} (hb : 2 ≤ b) : ∀ (k n : Nat), (dg b n).getD k 0 = n / b ^ k % b := by
  intro k
  induction k with
  | zero =>
    intro n
    by_cases h0 : n = 0
    · subst h0; simp [dg_zero]
    · rw [dg_pos hb (by omega)]; simp
  | succ k ih =>
    intro n
    by_cases h0 : n = 0
    · subst h0; simp [dg_zero]
    · rw [dg_pos hb (by omega)]
      have := ih (n / b)
      rw [List.getD_cons_succ, this, Nat.div_div_eq_div_mul, Nat.pow_succ, Nat.mul_comm (b ^ k) b]

theorem mod_pow_succ' (b n k : Nat) : n % b ^ (k + 1) = n % b ^ k + b ^ k * (n / b ^ k % b) := by
  rw [Nat.pow_succ, Nat.mod_mul]

theorem sub_step {a b k X l ak bk d l' : Nat} (h : X + b % 10 ^ k = a % 10 ^ k + l * 10 ^ k) (ha : a / 10 ^ k % 10 = ak) (hb : b / 10 ^ k % 10 = bk) (hd : d + bk + l = ak + 10 * l') :
    X + 10 ^ k * d + b % 10 ^ (k + 1) = a % 10 ^ (k + 1) + l' * 10 ^ (k + 1) := by
  rw [mod_pow_succ', mod_pow_succ', ha, hb, Nat.pow_succ]
  generalize 10 ^ k = p at *
  have e : p * d + p * bk + l * p = p * ak + l' * (p * 10) := by
    have := congrArg (p * ·) hd
    simp only [Nat.mul_add] at this
    rw [Nat.mul_comm l p, this, Nat.mul_comm l' (p * 10), Nat.mul_assoc]
  omega

theorem add_step {a b k X c ak bk d c' : Nat} (h : X + c * 10 ^ k = a % 10 ^ k + b % 10 ^ k) (ha : a / 10 ^ k % 10 = ak) (hb : b / 10 ^ k % 10 = bk) (hd : d + 10 * c' = ak + bk + c) :
    X + 10 ^ k * d + c' * 10 ^ (k + 1) = a % 10 ^ (k + 1) + b % 10 ^ (k + 1) := by
  rw [mod_pow_succ', mod_pow_succ', ha, hb, Nat.pow_succ]
  generalize 10 ^ k = p at *
  have e : p * d + c' * (p * 10) = p * ak + p * bk + c * p := by
    have := congrArg (p * ·) hd
    simp only [Nat.mul_add] at this
    rw [Nat.mul_comm c p, ← this, Nat.mul_comm c' (p * 10), Nat.mul_assoc]
  omega

theorem ofd_set (b : Nat) (l : List Nat) (j v : Nat) (h : j < l.length) : ofd b (l.set j v) + b ^ j * l[j] = ofd b l + b ^ j * v := by
  induction l generalizing j with
  | nil => simp at h
  | cons d r ih =>
    cases j with
    | zero => simp [ofd]; omega
    | succ j =>
      have := ih j (by simpa using h)
      simp only [List.set_cons_succ, ofd, List.getElem_cons_succ]
      have h2 := congrArg (b * ·) this
      simp only [Nat.mul_add] at h2
      rw [Nat.pow_succ, Nat.mul_comm (b ^ j) b, Nat.mul_assoc, Nat.mul_assoc]
      omega

theorem ofd_ge (b : Nat) (l : List Nat) (j : Nat) (h : j < l.length) : b ^ j * l[j] ≤ ofd b l := by
  have := ofd_set b l j 0 h
  omega

/-- one more product is laid -/
theorem mul_step {a b i k X ai bk x : Nat} (ha : a / 10 ^ i % 10 = ai) (hb : b / 10 ^ k % 10 = bk) (h : X = a % 10 ^ i * b + 10 ^ i * (ai * (b % 10 ^ k))) {Y : Nat} (hY : Y + 10 ^ (i + k) * x = X + 10 ^ (i + k) * (x + ai * bk)) :
    Y = a % 10 ^ i * b + 10 ^ i * (ai * (b % 10 ^ (k + 1))) := by
  rw [mod_pow_succ', hb]
  have e : 10 ^ i * (ai * (b % 10 ^ k + 10 ^ k * bk)) = 10 ^ i * (ai * (b % 10 ^ k)) + 10 ^ (i + k) * (ai * bk) := by
    rw [Nat.mul_add, Nat.mul_add, Nat.pow_add]
    congr 1
    simp only [Nat.mul_assoc, Nat.mul_comm, Nat.mul_left_comm]
  rw [Nat.mul_add] at hY
  subst ha
  omega

theorem mul_row {a b i ai : Nat} (ha : a / 10 ^ i % 10 = ai) : a % 10 ^ i * b + 10 ^ i * (ai * b) = a % 10 ^ (i + 1) * b := by
  rw [mod_pow_succ', ha, Nat.add_mul, Nat.mul_assoc]

/-- one carry -/
theorem carry_step {X x y j Y Z : Nat} (hY : Y + 10 ^ (j + 1) * y = X + 10 ^ (j + 1) * (y + x / 10)) (hZ : Z + 10 ^ j * x = Y + 10 ^ j * (x % 10)) : Z = X := by
  have e : 10 ^ j * x = 10 ^ j * (x % 10) + 10 ^ (j + 1) * (x / 10) := by
    rw [Nat.pow_succ, Nat.mul_assoc, ← Nat.mul_add]; congr 1; omega
  rw [Nat.mul_add] at hY
  omega

theorem ofd_snoc (b : Nat) (l : List Nat) (d : Nat) : ofd b (l ++ [d]) = ofd b l + b ^ l.length * d := by
  rw [ofd_append]; simp [ofd]

end Go.Proofs.YtijgolgfcgkbiaaDoor.Nt
/- Texts of numbers: no program is named here. -/
namespace Go.Proofs.YtijgolgfcgkbiaaDoor
open Go Nt

open Go.RowKit in
theorem hide {p : Prop} (h : p) : Hid p := h
open Go.RowKit in
theorem unhide {p : Prop} (h : Hid p) : p := h

/-- a text of bytes -/
def B (l : List UInt8) : ByteArray := ⟨l.toArray⟩

theorem B_toList (s : ByteArray) : B s.data.toList = s := by cases s; rfl
theorem B_size (l : List UInt8) : (B l).size = l.length := by simp [B, ByteArray.size]
theorem B_data (l : List UInt8) : (B l).data.toList = l := by simp [B]
theorem B_get (l : List UInt8) (k : Nat) (h : k < (B l).size) : (B l)[k] = l[k]'(by rw [B_size] at h; exact h) := by
  simp [B, ByteArray.getElem_eq_getElem_data]
theorem B_extract (l : List UInt8) (i j : Nat) : (B l).extract i j = B ((l.take j).drop i) := by
  apply ByteArray.ext
  simp [B, ByteArray.data_extract, List.extract_toArray]
  simp [List.drop_take]
theorem B_append (l m : List UInt8) : B l ++ B m = B (l ++ m) := by
  apply ByteArray.ext
  simp [B, ByteArray.data_append]
theorem B_inj {l m : List UInt8} : B l = B m ↔ l = m := by
  constructor
  · intro h; have := congrArg (fun s => s.data.toList) h; simpa [B] using this
  · intro h; rw [h]

/-- a digit's sign -/
def sg (d : Nat) : UInt8 := if d < 10 then UInt8.ofNat (48 + d) else UInt8.ofNat (87 + d)

theorem sg_toNat {d : Nat} (h : d < 16) : (sg d).toNat = if d < 10 then 48 + d else 87 + d := by
  unfold sg; split
  · simp [UInt8.toNat_ofNat']; omega
  · simp [UInt8.toNat_ofNat']; omega

theorem sg_inj {c d : Nat} (hc : c < 16) (hd : d < 16) (h : sg c = sg d) : c = d := by
  have := congrArg UInt8.toNat h
  rw [sg_toNat hc, sg_toNat hd] at this
  split at this <;> split at this <;> omega

/-- the signs of a number's digits in a radix, the highest first -/
def txl (b n : Nat) : List UInt8 := if n = 0 then [48] else ((dg b n).map sg).reverse
def txt (b n : Nat) : ByteArray := B (txl b n)
def dec (n : Nat) : ByteArray := txt 10 n

theorem txl_zero (b : Nat) : txl b 0 = [48] := by simp [txl]
theorem txl_pos {b n : Nat} (h : n ≠ 0) : txl b n = ((dg b n).map sg).reverse := by simp [txl, h]
theorem txl_length_pos {b : Nat} (hb : 2 ≤ b) (n : Nat) : 0 < (txl b n).length := by
  by_cases h : n = 0
  · subst h; simp [txl_zero]
  · rw [txl_pos h]; simp only [List.length_reverse, List.length_map]
    rw [dg_pos hb (by omega)]; simp

theorem lt_pow_txl {b : Nat} (hb : 2 ≤ b) (n : Nat) : n < b ^ (txl b n).length := by
  by_cases h : n = 0
  · subst h; simp only [txl_zero, List.length_singleton, Nat.pow_one]; omega
  · rw [txl_pos h]; simp only [List.length_reverse, List.length_map]; exact lt_pow_dg hb n

theorem txl_len_le {b : Nat} (hb : 2 ≤ b) {k n : Nat} (hk : 0 < k) (h : n < b ^ k) : (txl b n).length ≤ k := by
  by_cases h0 : n = 0
  · subst h0; simp only [txl_zero, List.length_singleton]; omega
  · rw [txl_pos h0]; simp only [List.length_reverse, List.length_map]; exact dg_len_le hb h

theorem txl_inj {b : Nat} (hb : 2 ≤ b) (hb16 : b ≤ 16) {m n : Nat} (h : txl b m = txl b n) : m = n := by
  have key : ∀ m, ofd b (((txl b m).reverse).map fun c => if c.toNat < 58 then c.toNat - 48 else c.toNat - 87) = m := by
    intro m
    by_cases h0 : m = 0
    · subst h0; simp [txl_zero, ofd]
    · rw [txl_pos h0, List.reverse_reverse, List.map_map]
      have : (dg b m).map ((fun c : UInt8 => if c.toNat < 58 then c.toNat - 48 else c.toNat - 87) ∘ sg) = (dg b m).map id := by
        apply List.map_congr_left
        intro d hd
        have hd' := dg_lt hb m d hd
        simp only [Function.comp]
        rw [sg_toNat (by omega)]
        split <;> simp <;> omega
      rw [this, List.map_id, ofd_dg hb]
  rw [← key m, h, key]

theorem dec_size_pos (n : Nat) : 0 < (dec n).size := by
  unfold dec txt; rw [B_size]; exact txl_length_pos (by omega) n
theorem dec_inj {m n : Nat} : dec m = dec n ↔ m = n := by
  constructor
  · intro h; exact txl_inj (by omega) (by omega) (B_inj.1 h)
  · intro h; rw [h]

/-- the k-th digit from the right stands there -/
theorem dec_at (n k : Nat) (h : k < (txl 10 n).length) : ((txl 10 n).reverse)[k]'(by simpa using h) = sg (n / 10 ^ k % 10) := by
  by_cases h0 : n = 0
  · subst h0
    have : k = 0 := by simp [txl_zero] at h; omega
    subst this
    simp [txl_zero, sg]
  · have hl : k < (dg 10 n).length := by rw [txl_pos h0] at h; simpa using h
    have e : (txl 10 n).reverse = (dg 10 n).map sg := by rw [txl_pos h0, List.reverse_reverse]
    have g := dg_get (b := 10) (by omega) k n
    rw [List.getD_eq_getElem?_getD, List.getElem?_eq_getElem hl] at g
    simp only [e, List.getElem_map]
    rw [← g]; rfl

theorem dec_above (n k : Nat) (h : (txl 10 n).length ≤ k) : n / 10 ^ k = 0 := by
  apply Nat.div_eq_of_lt
  exact Nat.lt_of_lt_of_le (lt_pow_txl (by omega) n) (Nat.pow_le_pow_right (by omega) h)

/-- noughts ahead are struck, but for a last one -/
def trim : List UInt8 → List UInt8
  | [] => []
  | c :: r => if c = 48 ∧ r ≠ [] then trim r else c :: r

theorem trim_rev (l : List Nat) (h : ∀ d ∈ l, d < 10) (hl : l ≠ []) : trim ((l.map sg).reverse) = txl 10 (ofd 10 l) := by
  -- by induction from the upper end
  have key : ∀ (n : Nat) (l : List Nat), l.length = n → (∀ d ∈ l, d < 10) → l ≠ [] → trim ((l.map sg).reverse) = txl 10 (ofd 10 l) := by
    intro n
    induction n with
    | zero => intro l hn _ hl; exact absurd (List.eq_nil_of_length_eq_zero hn) hl
    | succ n ih =>
      intro l hn hd hl
      have hdec := List.dropLast_concat_getLast hl
      generalize hm : l.dropLast = m at hdec
      generalize hx : l.getLast hl = x at hdec
      have hxl : x < 10 := hd x (by rw [← hdec]; simp)
      have hml : m.length = n := by rw [← hdec] at hn; simpa using hn
      have hmd : ∀ d ∈ m, d < 10 := fun d h => hd d (by rw [← hdec]; simp [h])
      rw [← hdec, List.map_append, List.reverse_append]
      simp only [List.map_cons, List.map_nil, List.reverse_cons, List.reverse_nil, List.nil_append, List.cons_append, trim]
      by_cases hx0 : x = 0
      · subst hx0
        rw [ofd_append]
        simp only [ofd, Nat.mul_zero, Nat.add_zero]
        by_cases hmn : m = []
        · subst hmn; simp [ofd, txl_zero, sg]
        · rw [if_pos ⟨by simp [sg], by simpa using hmn⟩]
          exact ih m hml hmd hmn
      · have hs : sg x ≠ 48 := by
          intro hc
          have := congrArg UInt8.toNat hc
          rw [sg_toNat (by omega), if_pos hxl] at this
          simp at this; omega
        rw [if_neg (fun hh => hs hh.1)]
        have hcan : can 10 (m ++ [x]) := ⟨fun d h => hd d (by rw [← hdec]; exact h), fun d h => by simp at h; omega⟩
        have hpos := ofd_pos_of_can (by omega) _ hcan (by simp)
        rw [txl_pos (by omega), dg_ofd (by omega) _ hcan]
        simp
  exact key l.length l rfl h hl

theorem trim_txl (n : Nat) : trim (txl 10 n) = txl 10 n := by
  by_cases h0 : n = 0
  · subst h0; simp [txl_zero, trim]
  · have := trim_rev (dg 10 n) (dg_lt (by omega) n) (fun h => h0 ((dg_eq_nil (by omega)).1 h))
    rw [ofd_dg (by omega)] at this
    rwa [txl_pos h0] at this ⊢

theorem trim_length (l : List UInt8) : (trim l).length ≤ l.length := by
  induction l with
  | nil => simp [trim]
  | cons c r ih => simp only [trim]; split <;> simp <;> omega

theorem trim_drop (l : List UInt8) (k : Nat) (h : k + 1 < l.length) (hz : l[k]'(by omega) = 48) : trim (l.drop k) = trim (l.drop (k + 1)) := by
  rw [List.drop_eq_getElem_cons (by omega), hz]
  simp only [trim]
  rw [if_pos ⟨by trivial, by simp; omega⟩]

theorem trim_stop (l : List UInt8) (h : l.length ≤ 1 ∨ ∃ c r, l = c :: r ∧ c ≠ 48) : trim l = l := by
  rcases h with h | ⟨c, r, rfl, hc⟩
  · match l, h with
    | [], _ => rfl
    | [c], _ => simp [trim]
  · simp [trim, hc]
end Go.Proofs.YtijgolgfcgkbiaaDoor
/- Small laws on memory that every walk of this seat uses: no program is named here. -/
namespace Go.Proofs.YtijgolgfcgkbiaaDoor
open Go.RowKit Nt

theorem ret_str {a b : ByteArray} (h : a = b) : Ending.returned (.string a) = .returned (.string b) := by rw [h]
theorem ret_int {k : IntKind} {a b : Int} (h : a = b) : Ending.returned (.int k a) = .returned (.int k b) := by rw [h]
theorem ret_bool {a b : Bool} (h : a = b) : Ending.returned (.bool a) = .returned (.bool b) := by rw [h]

def u8v (c : UInt8) : Value := .int .u8 c.toNat
def ints (l : List Nat) : List Value := l.map fun (d : Nat) => Value.int .i64 (d : Int)

theorem wi64 (x : Int) (h0 : -9223372036854775808 ≤ x) (h1 : x ≤ 9223372036854775807) : IntKind.i64.wrap x = x := by rw [IntKind.wrap_i64]; omega
theorem wu8 (x : Int) (h0 : 0 ≤ x) (h1 : x ≤ 255) : IntKind.u8.wrap x = x := by rw [IntKind.wrap_u8]; omega
theorem wu64 (x : Int) (h0 : 0 ≤ x) (h1 : x ≤ 18446744073709551615) : IntKind.u64.wrap x = x := by rw [IntKind.wrap_u64]; omega

theorem below_of_drew {n : Nat} {a w : World} (h : Below n a.drew w) : Below n a w := ⟨h.os, h.tape, h.output, h.size, h.block⟩

theorem own_below {w w' : World} {base : Nat} {e : TypeId} {size : Nat} {v : Value} {n : Nat} {xs : List Value} (h : w.ownsRow base e size v n xs) (hb : Below w.heap.size w w') :
    w'.ownsRow base e size v n xs := by
  refine ⟨h.1, ?_⟩
  rcases h.2 with hn | ⟨g, cap, cur, rfl, hbg, hgg, rest⟩
  · exact .inl hn
  · exact .inr ⟨g, cap, cur, rfl, hbg, by rw [hb.block g (Array.getElem?_eq_some_iff.1 hgg).1]; exact hgg, rest⟩

theorem own_base {w : World} {base base' : Nat} {e : TypeId} {size : Nat} {v : Value} {n : Nat} {xs : List Value} (h : w.ownsRow base e size v n xs) (hb : base' ≤ base) :
    w.ownsRow base' e size v n xs := by
  refine ⟨h.1, ?_⟩
  rcases h.2 with hn | ⟨g, cap, cur, rfl, hbg, rest⟩
  · exact .inl hn
  · exact .inr ⟨g, cap, cur, rfl, by omega, rest⟩

theorem below_grown {B : Nat} {w w' : World} {v : Value} {e : TypeId} {size n : Nat} {xs : List Value} {a : World} (h : Below B a w) (own : w.ownsRow B e size v n xs) (hg : w.grownBy w' v.ownBlock) (hB : B ≤ w.heap.size) : Below B a w' :=
  h.grown hg hB (fun k hk => (own.lt k hk).1)

theorem dig_snoc {b d : Nat} {xs : List Nat} (h : Hid (∀ x ∈ xs, x < b)) (hd : d < b) : Hid (∀ x ∈ xs ++ [d], x < b) := by
  intro x hx
  rcases List.mem_append.1 hx with h1 | h1
  · exact unhide h x h1
  · simp at h1; omega

theorem run_conv_bytes {P : Program} {w : World} {src dst e : TypeId} {base sz : Nat} {v : Value} {n : Nat} {l : List UInt8}
    (hs : P.underlying src = some (.slice e)) (he : P.underlying e = some (.int .u8)) (hd : P.underlying dst = some .string)
    (h : w.ownsRow base sz 1 v n (l.map u8v)) : (convert src dst v).run P w = .ok (.string (B l)) w := by
  have hl : l.length = n := by simpa using h.1
  have fold : ∀ (ns : List UInt8) (s : ByteArray), (ns.map (fun c => (c.toNat : Int))).foldl (fun r n => r.push (UInt8.ofNat n.toNat)) s = s ++ B ns := by
    intro ns
    induction ns with
    | nil => intro s; apply ByteArray.ext; simp [B, ByteArray.data_append]
    | cons c r ih =>
      intro s
      simp only [List.map_cons, List.foldl_cons, ih]
      apply ByteArray.ext
      simp [B, ByteArray.data_append, ByteArray.data_push]
  have fold0 : (l.map (fun c => (c.toNat : Int))).foldl (fun r n => r.push (UInt8.ofNat n.toNat)) ByteArray.empty = B l := by
    rw [fold]; apply ByteArray.ext; simp
  rcases h.2 with ⟨rfl, hn⟩ | ⟨g, cap, cur, rfl, _, hg, hnc, _, hcs, htake⟩
  · have : l = [] := List.eq_nil_of_length_eq_zero (by omega)
    subst this
    rw [run_convert_bytes_string w src dst e none 0 0 hs he hd]
    rfl
  · rw [run_convert_bytes_string w src dst e _ _ _ hs he hd]
    have hc := h.cells (g := g) rfl
    have hload := run_loadCells_list (P := P) (w := w) ⟨g, 0, none⟩ (l.map u8v) hc
    have e1 : (l.map u8v) = (l.map (fun c => (c.toNat : Int))).map (Value.int .u8) := by simp [u8v, Function.comp]
    rw [List.length_map, hl] at hload
    rw [e1] at hload
    have := run_bytesToString (P := P) w ⟨g, 0, none⟩ n cap (l.map (fun c => (c.toNat : Int))) hload
    rw [this, fold0]

theorem own_cell_some {w : World} {base : Nat} {e : TypeId} {g n cap : Nat} {xs : List Value} (h : w.ownsRow base e 1 (.slice (some ⟨g, 0, none⟩) n cap) n xs) (j : Nat) (hj : j < n) :
    ∃ v, w.cell? ⟨g, j, none⟩ = some v := by
  have hx : xs.length = n := by simpa using h.1
  exact ⟨xs[j], by rw [h.cellAt j (by omega)]; exact List.getElem?_eq_getElem (by omega)⟩

theorem u8v_sg {d : Nat} (h : d < 10) : u8v (sg d) = .int .u8 (48 + (d : Int)) := by
  unfold u8v; rw [sg_toNat (by omega), if_pos h]; simp

theorem ints_snoc (l : List Nat) (d : Nat) : ints l ++ [.int .i64 (d : Int)] = ints (l ++ [d]) := by simp [ints]
end Go.Proofs.YtijgolgfcgkbiaaDoor
/- More small laws on memory: no program is named here. -/
namespace Go.Proofs.YtijgolgfcgkbiaaDoor
open Go.RowKit Nt

theorem newcell {w w3 : World} {cs : Array Value} {T : TypeId} (h : Below (w.heap.size + 1) (w.alloc (.cells cs T)) w3) (j : Nat) : w3.cell? ⟨w.heap.size, j, none⟩ = cs[j]? := by
  rw [h.cell (p := ⟨w.heap.size, j, none⟩) (Nat.lt_succ_self _)]
  exact World.cell?_alloc_at cs T _ j rfl
theorem newfree {w w3 : World} {cs : Array Value} {T : TypeId} (h : Below (w.heap.size + 1) (w.alloc (.cells cs T)) w3) (j : Nat) : w3.frozen? ⟨w.heap.size, j, none⟩ = false := by
  rw [h.frozen (p := ⟨w.heap.size, j, none⟩) (Nat.lt_succ_self _)]
  exact World.frozen?_alloc_at cs T _ j rfl
theorem below_new {w w3 : World} {o : Obj} (h : Below (w.heap.size + 1) (w.alloc o) w3) : Below w.heap.size w w3 :=
  ((Below.refl _ _).alloc (Nat.le_refl _) _).trans (h.mono (by omega))
theorem below_alloc_size {w w1 : World} {o : Obj} (h : Below (w.alloc o).heap.size (w.alloc o) w1) : Below (w.heap.size + 1) (w.alloc o) w1 := by simpa using h
/-- a chain of calls -/
theorem below_next {B : Nat} {a b c : World} (h : Below B a b) (hB : B ≤ b.heap.size) (k : Below b.heap.size b c) : Below B a c ∧ B ≤ c.heap.size :=
  ⟨h.trans (k.mono hB), Nat.le_trans hB k.size⟩
theorem below_same {B : Nat} {a b : World} (h : Below B a b) : Below B a b := h

def u64s (l : List Nat) : List Value := l.map fun (d : Nat) => Value.int .u64 (d : Int)
theorem u64s_length (l : List Nat) : (u64s l).length = l.length := by simp [u64s]
theorem u64s_get (l : List Nat) (j : Nat) (h : j < l.length) : (u64s l)[j]? = some (.int .u64 (l[j] : Nat)) := by simp [u64s, h]
theorem u64s_set (l : List Nat) (j d : Nat) (v : Int) (h : v = (d : Int)) : (u64s l).set j (.int .u64 v) = u64s (l.set j d) := by rw [h]; simp [u64s, List.map_set]
theorem u64s_zero (n : Nat) : List.replicate n (Value.int .u64 0) = u64s (List.replicate n 0) := by simp [u64s]
theorem u64s_snoc (l : List Nat) (d : Nat) : u64s l ++ [.int .u64 (d : Int)] = u64s (l ++ [d]) := by simp [u64s]

theorem own_take {w : World} {base : Nat} {e : TypeId} {g n cap : Nat} {xs : List Value} (h : w.ownsRow base e 1 (.slice (some ⟨g, 0, none⟩) n cap) n xs) (k : Nat) (hk : k ≤ n) :
    w.ownsRow base e 1 (.slice (some ⟨g, 0, none⟩) k cap) k (xs.take k) := by
  have hx : xs.length = n := by simpa using h.1
  refine ⟨by simp; omega, ?_⟩
  rcases h.2 with ⟨h', _⟩ | ⟨g', cap', cur, h', hb, hg, hnc, hcm, hcs, htake⟩
  · simp at h'
  · simp only [Value.slice.injEq, Option.some.injEq, Addr.mk.injEq, and_true, true_and] at h'
    obtain ⟨rfl, rfl⟩ := h'
    refine .inr ⟨g, cap, cur, rfl, hb, hg, by omega, hcm, hcs, ?_⟩
    rw [← htake, List.take_take]; simp; omega

/-- a slice that is owned: nil, or from a row's head on -/
theorem own_shape {w : World} {base : Nat} {e : TypeId} {v : Value} {n : Nat} {xs : List Value} (h : w.ownsRow base e 1 v n xs) :
    (v = .slice none 0 0 ∧ n = 0 ∧ xs = []) ∨ ∃ g cap, v = .slice (some ⟨g, 0, none⟩) n cap ∧ n ≤ cap ∧ base ≤ g ∧ g < w.heap.size := by
  rcases h.2 with ⟨rfl, hn⟩ | ⟨g, cap, cur, rfl, hb, hg, hnc, _⟩
  · left
    exact ⟨rfl, hn, List.eq_nil_of_length_eq_zero (by have := h.1; omega)⟩
  · right
    exact ⟨g, cap, rfl, hnc, hb, (Array.getElem?_eq_some_iff.1 hg).1⟩

theorem own_slice {w : World} {base : Nat} {e : TypeId} {v : Value} {n : Nat} {xs : List Value} (h : w.ownsRow base e 1 v n xs) : ∃ p cap, v = .slice p n cap := by
  rcases own_shape h with ⟨rfl, rfl, _⟩ | ⟨g, cap, rfl, _⟩
  · exact ⟨_, _, rfl⟩
  · exact ⟨_, _, rfl⟩
/-- .. and where it has an element it stands at a row's head -/
theorem own_some {w : World} {base : Nat} {e : TypeId} {v : Value} {n : Nat} {xs : List Value} (h : w.ownsRow base e 1 v n xs) (hn : 0 < n) :
    ∃ g cap, v = .slice (some ⟨g, 0, none⟩) n cap ∧ n ≤ cap ∧ base ≤ g ∧ g < w.heap.size := by
  rcases own_shape h with ⟨_, rfl, _⟩ | hh
  · omega
  · exact hh

theorem set_all {p : Nat → Prop} {l : List Nat} {j v : Nat} (h : ∀ d ∈ l, p d) (hv : p v) : ∀ d ∈ l.set j v, p d := by
  intro d hd
  rcases List.mem_or_eq_of_mem_set hd with h1 | h1
  · exact h d h1
  · rw [h1]; exact hv

theorem own_block_full {w : World} {base e g n : Nat} {xs : List Value} (h : w.ownsRow base e 1 (.slice (some ⟨g, 0, none⟩) n n) n xs) : w.heap[g]? = some (.cells xs.toArray e (0, 0)) := by
  rcases h.2 with ⟨h', _⟩ | ⟨g', cap', cur, h', hb, hg, hnc, hcm, hcs, htake⟩
  · simp at h'
  · simp only [Value.slice.injEq, Option.some.injEq, Addr.mk.injEq, and_true, true_and] at h'
    obtain ⟨rfl, rfl⟩ := h'
    rw [hg]
    have : cur.toList = xs := by
      rw [← htake, List.take_of_length_le]
      rw [Array.length_toList, hcs]; exact Nat.le_refl _
    rw [← this]
theorem own_of_block_full {w : World} {base e g n : Nat} {xs : List Value} (h : w.heap[g]? = some (.cells xs.toArray e (0, 0))) (hl : xs.length = n) (hn : n ≤ maxLen) (hb : base ≤ g) :
    w.ownsRow base e 1 (.slice (some ⟨g, 0, none⟩) n n) n xs := by
  refine ⟨by omega, .inr ⟨g, n, xs.toArray, rfl, hb, h, Nat.le_refl _, hn, by simp; omega, ?_⟩⟩
  rw [List.take_of_length_le (by simp; omega)]
theorem u64s_one (l : List Nat) : ∀ u ∈ u64s l, u.oneCell' = true := by
  intro u hu
  obtain ⟨d, _, rfl⟩ := List.mem_map.1 hu
  rfl
theorem u64s_append (l m : List Nat) : u64s (l ++ m) = u64s l ++ u64s m := by simp [u64s]
theorem u64s_drop (l : List Nat) (k : Nat) : u64s (l.drop k) = (u64s l).drop k := by simp [u64s, List.map_drop]

theorem wi32 (x : Int) (h0 : -2147483648 ≤ x) (h1 : x ≤ 2147483647) : IntKind.i32.wrap x = x := by rw [IntKind.wrap_i32]; omega
end Go.Proofs.YtijgolgfcgkbiaaDoor
/- The reader that the draws share: what it holds, and what a draw leaves. -/
namespace Go.Proofs.YtijgolgfcgkbiaaDoor
open Go.RowKit Nt

/-- all blocks that were there, but one, are as they were -/
structure Keeps (g : Nat) (w w' : World) : Prop where
  os : w'.os = w.os
  tape : w'.tape = w.tape
  output : w'.output = w.output
  size : w.heap.size ≤ w'.heap.size
  block : ∀ k, k < w.heap.size → k ≠ g → w'.heap[k]? = w.heap[k]?

theorem Keeps.refl (g : Nat) (w : World) : Keeps g w w := ⟨rfl, rfl, rfl, Nat.le_refl _, fun _ _ _ => rfl⟩
theorem Keeps.trans {g : Nat} {a b c : World} (h : Keeps g a b) (k : Keeps g b c) : Keeps g a c :=
  ⟨k.os.trans h.os, k.tape.trans h.tape, k.output.trans h.output, Nat.le_trans h.size k.size, fun i hi hg => (k.block i (Nat.lt_of_lt_of_le hi h.size) hg).trans (h.block i hi hg)⟩
theorem Keeps.of_below {g : Nat} {w w' : World} (h : Below w.heap.size w w') : Keeps g w w' := ⟨h.os, h.tape, h.output, h.size, fun k hk _ => h.block k hk⟩
theorem Keeps.below {g B : Nat} {w w' : World} (h : Keeps g w w') (hg : B ≤ g) (hB : B ≤ w.heap.size) : Below B w w' := ⟨h.os, h.tape, h.output, h.size, fun k hk => h.block k (by omega) (by omega)⟩
theorem Keeps.drew {g : Nat} {a w : World} (h : Keeps g a w) : Keeps g a w.drew := ⟨h.os, h.tape, h.output, h.size, h.block⟩
theorem Keeps.drewN {g : Nat} {a w : World} (h : Keeps g a w) (n : Nat) : Keeps g a (w.drewN n) := ⟨h.os, h.tape, h.output, h.size, h.block⟩
theorem Keeps.alloc {g : Nat} {a w : World} (h : Keeps g a w) (o : Obj) : Keeps g a (w.alloc o) := h.trans (Keeps.of_below ((Below.refl _ _).alloc (Nat.le_refl _) o))
theorem Keeps.setOwn {g : Nat} {a w : World} (h : Keeps g a w) {p : Addr} (hp : p.block = g) (u : Value) : Keeps g a (w.setCell p u) :=
  h.trans ⟨rfl, rfl, rfl, by simp [World.setCell], fun k _ hg => Below.heap_setCell _ _ _ _ (by omega)⟩
theorem Keeps.setNew {g : Nat} {a w : World} (h : Keeps g a w) {p : Addr} (hp : a.heap.size ≤ p.block) (u : Value) : Keeps g a (w.setCell p u) :=
  ⟨h.os, h.tape, h.output, Nat.le_trans h.size (by simp [World.setCell]), fun k hk hg => (Below.heap_setCell _ _ _ _ (by omega)).trans (h.block k hk hg)⟩
theorem Keeps.cell {g : Nat} {w w' : World} (h : Keeps g w w') {p : Addr} (hp : p.block < w.heap.size) (hg : p.block ≠ g) : w'.cell? p = w.cell? p := World.cell?_of_block (w := w) (h.block p.block hp hg)
theorem Keeps.frozen {g : Nat} {w w' : World} (h : Keeps g w w') {p : Addr} (hp : p.block < w.heap.size) (hg : p.block ≠ g) : w'.frozen? p = w.frozen? p := World.frozen?_of_block (w := w) (h.block p.block hp hg)

/-- bytes that can be read -/
def Byts (w : World) (g : Nat) (a : Option Addr) (n : Nat) : Prop :=
  0 < n → ∃ q o, a = some ⟨q, o, none⟩ ∧ q < g ∧ q < w.heap.size ∧ ∀ j, j < n → ∃ x : Nat, x ≤ 255 ∧ w.cell? ⟨q, o + j, none⟩ = some (.int .u8 (x : Int))
theorem Byts.keeps {w w' : World} {g : Nat} {a : Option Addr} {n : Nat} (h : Byts w g a n) (k : Keeps g w w') : Byts w' g a n := by
  intro hn
  obtain ⟨q, o, rfl, hqg, hq, hc⟩ := h hn
  refine ⟨q, o, rfl, hqg, Nat.lt_of_lt_of_le hq k.size, fun j hj => ?_⟩
  obtain ⟨x, hx, hcj⟩ := hc j hj
  exact ⟨x, hx, by rw [k.cell hq (Nat.ne_of_lt hqg)]; exact hcj⟩

/-- the reader stands at a place of its bytes -/
structure Rd (w : World) (g p : Nat) (a : Option Addr) (n cap : Nat) : Prop where
  heap : w.heap[g]? = some (.cells #[.slice a n cap, .int .i64 (p : Int)] 78 (0, 0))
  byts : Byts w g a n
  len : n ≤ 2000

theorem Rd.keep {w w' : World} {g p : Nat} {a : Option Addr} {n cap : Nat} (h : Rd w g p a n cap) (hb : Below w.heap.size w w') : Rd w' g p a n cap :=
  ⟨by rw [hb.block g (Array.getElem?_eq_some_iff.1 h.heap).1]; exact h.heap, h.byts.keeps (Keeps.of_below hb), h.len⟩
theorem Rd.drewN {w : World} {g p : Nat} {a : Option Addr} {n cap : Nat} (h : Rd w g p a n cap) (k : Nat) : Rd (w.drewN k) g p a n cap := ⟨h.heap, h.byts, h.len⟩
theorem Rd.drew {w : World} {g p : Nat} {a : Option Addr} {n cap : Nat} (h : Rd w g p a n cap) : Rd w.drew g p a n cap := ⟨h.heap, h.byts, h.len⟩
theorem Rd.lt {w : World} {g p : Nat} {a : Option Addr} {n cap : Nat} (h : Rd w g p a n cap) : g < w.heap.size := (Array.getElem?_eq_some_iff.1 h.heap).1
theorem Rd.c0 {w : World} {g p : Nat} {a : Option Addr} {n cap : Nat} (h : Rd w g p a n cap) : w.cell? ⟨g, 0, none⟩ = some (.slice a n cap) := by simp [World.cell?, h.heap]
theorem Rd.c1 {w : World} {g p : Nat} {a : Option Addr} {n cap : Nat} (h : Rd w g p a n cap) : w.cell? ⟨g, 1, none⟩ = some (.int .i64 (p : Int)) := by simp [World.cell?, h.heap]
theorem Rd.f1 {w : World} {g p : Nat} {a : Option Addr} {n cap : Nat} (h : Rd w g p a n cap) : w.frozen? ⟨g, 1, none⟩ = false := by simp [World.frozen?, h.heap]
theorem Rd.next {w : World} {g p : Nat} {a : Option Addr} {n cap : Nat} (h : Rd w g p a n cap) (v : Int) (hv : v = ((p + 1 : Nat) : Int)) : Rd (w.setCell ⟨g, 1, none⟩ (.int .i64 v)) g (p + 1) a n cap := by
  refine ⟨?_, h.byts.keeps ((Keeps.refl g w).setOwn (p := ⟨g, 1, none⟩) rfl _), h.len⟩
  subst hv
  rw [show (w.setCell ⟨g, 1, none⟩ (.int .i64 ((p + 1 : Nat) : Int))).heap[g]? = _ from Array.getElem?_modify, if_pos rfl, h.heap]
  simp

theorem Rd.below {w w' : World} {g p : Nat} {a : Option Addr} {n cap : Nat} (h : Rd w g p a n cap) (hb : Below (g + 1) w w') : Rd w' g p a n cap := by
  refine ⟨by rw [hb.block g (by omega)]; exact h.heap, ?_, h.len⟩
  intro hn
  obtain ⟨q, o, rfl, hqg, hq, hc⟩ := h.byts hn
  refine ⟨q, o, rfl, hqg, Nat.lt_of_lt_of_le hq hb.size, fun j hj => ?_⟩
  obtain ⟨x, hx, hcj⟩ := hc j hj
  exact ⟨x, hx, by rw [hb.cell (p := ⟨q, o + j, none⟩) (by show q < g + 1; omega)]; exact hcj⟩

/-- what a draw leaves: the reader stands further on, all else is kept -/
def Drawn (w : World) (g p n cap : Nat) (a : Option Addr) (k : Nat) (w' : World) : Prop := (∃ p', p' ≤ p + k ∧ Rd w' g p' a n cap) ∧ Keeps g w w'
theorem Drawn.zero {w : World} {g p n cap : Nat} {a : Option Addr} (h : Rd w g p a n cap) : Drawn w g p n cap a 0 w := ⟨⟨p, by omega, h⟩, Keeps.refl _ _⟩
theorem Drawn.more {w w1 w2 : World} {g p n cap k : Nat} {a : Option Addr} (h : Drawn w g p n cap a k w1) (hg : g < w.heap.size) (hb : Below w.heap.size w1 w2) : Drawn w g p n cap a k w2 := by
  obtain ⟨⟨p', hp, hr⟩, hk⟩ := h
  exact ⟨⟨p', hp, hr.below (hb.mono (by omega))⟩, ⟨hb.os.trans hk.os, hb.tape.trans hk.tape, hb.output.trans hk.output, Nat.le_trans hk.size hb.size, fun i hi hig => (hb.block i hi).trans (hk.block i hi hig)⟩⟩
theorem Drawn.step {w w1 w2 : World} {g p p' n cap k j : Nat} {a : Option Addr} (hk : Keeps g w w1) (hp : p' ≤ p + k) (h : Drawn w1 g p' n cap a j w2) : Drawn w g p n cap a (k + j) w2 := by
  obtain ⟨⟨q, hq, hr⟩, hk2⟩ := h
  exact ⟨⟨q, by omega, hr⟩, hk.trans hk2⟩
theorem Drawn.wide {w w1 : World} {g p n cap k j : Nat} {a : Option Addr} (h : Drawn w g p n cap a k w1) (hj : k ≤ j) : Drawn w g p n cap a j w1 := by
  obtain ⟨⟨q, hq, hr⟩, hk⟩ := h
  exact ⟨⟨q, by omega, hr⟩, hk⟩
theorem Drawn.made {w w1 : World} {g p n cap k : Nat} {a : Option Addr} {o : Obj} (h : Drawn (w.alloc o) g p n cap a k w1) : Drawn w g p n cap a k w1 := ⟨h.1, ((Keeps.refl g w).alloc o).trans h.2⟩
theorem Rd.alloc {w : World} {g p : Nat} {a : Option Addr} {n cap : Nat} (h : Rd w g p a n cap) (o : Obj) : Rd (w.alloc o) g p a n cap := h.keep ((Below.refl _ _).alloc (Nat.le_refl _) _)

/-- a number's three cells -/
def At3 (w : World) (b : Nat) (x y z : Value) : Prop := w.heap[b]? = some (.cells #[x, y, z] 26 (0, 0))
theorem At3.lt {w : World} {b : Nat} {x y z : Value} (h : At3 w b x y z) : b < w.heap.size := (Array.getElem?_eq_some_iff.1 h).1
theorem At3.new (w : World) (x y z : Value) : At3 (w.alloc (.cells #[x, y, z] 26)) w.heap.size x y z := by
  show (w.heap.push _)[w.heap.size]? = _; rw [Array.getElem?_push, if_pos rfl]
theorem At3.keeps {w w' : World} {b g : Nat} {x y z : Value} (h : At3 w b x y z) (k : Keeps g w w') (hg : b ≠ g) : At3 w' b x y z := (k.block b h.lt hg).trans h
theorem At3.below {w w' : World} {b : Nat} {x y z : Value} (h : At3 w b x y z) (k : Below w.heap.size w w') : At3 w' b x y z := (k.block b h.lt).trans h
theorem At3.alloc {w : World} {b : Nat} {x y z : Value} (h : At3 w b x y z) (o : Obj) : At3 (w.alloc o) b x y z := h.below ((Below.refl _ _).alloc (Nat.le_refl _) _)
theorem At3.drew {w : World} {b : Nat} {x y z : Value} (h : At3 w b x y z) : At3 w.drew b x y z := h
theorem At3.set1 {w : World} {b : Nat} {x y z : Value} (h : At3 w b x y z) (u : Value) : At3 (w.setCell ⟨b, 1, none⟩ u) b x u z := by
  show (w.heap.modify b _)[b]? = _
  rw [Array.getElem?_modify, if_pos rfl, show w.heap[b]? = _ from h]
  rfl
theorem At3.set {w : World} {b : Nat} {x y z : Value} (h : At3 w b x y z) {p : Addr} (hp : b ≠ p.block) (u : Value) : At3 (w.setCell p u) b x y z := by
  unfold At3; rw [Below.heap_setCell _ _ _ _ hp]; exact h
theorem At3.c0 {w : World} {b : Nat} {x y z : Value} (h : At3 w b x y z) : w.cell? ⟨b, 0, none⟩ = some x := by unfold At3 at h; simp [World.cell?, h]
theorem At3.c1 {w : World} {b : Nat} {x y z : Value} (h : At3 w b x y z) : w.cell? ⟨b, 1, none⟩ = some y := by unfold At3 at h; simp [World.cell?, h]
theorem At3.c2 {w : World} {b : Nat} {x y z : Value} (h : At3 w b x y z) : w.cell? ⟨b, 2, none⟩ = some z := by unfold At3 at h; simp [World.cell?, h]
theorem At3.f {w : World} {b : Nat} {x y z : Value} (h : At3 w b x y z) (j : Nat) : w.frozen? ⟨b, j, none⟩ = false := by unfold At3 at h; simp [World.frozen?, h]

theorem xor_small {x y : Int} (hx0 : 0 ≤ x) (hx : x < 4611686018427387904) (hy0 : 0 ≤ y) (hy : y < 4611686018427387904) : 0 ≤ bits .xor .i64 x y ∧ bits .xor .i64 x y < 4611686018427387904 := by
  obtain ⟨a, rfl⟩ := Int.eq_ofNat_of_zero_le hx0
  obtain ⟨b, rfl⟩ := Int.eq_ofNat_of_zero_le hy0
  have e : (BitVec.ofInt 64 (a : Int) ^^^ BitVec.ofInt 64 (b : Int)).toNat = a ^^^ b := by
    rw [BitVec.toNat_xor, BitVec.ofInt_natCast, BitVec.ofInt_natCast, BitVec.toNat_ofNat, BitVec.toNat_ofNat, Nat.mod_eq_of_lt (by omega), Nat.mod_eq_of_lt (by omega)]
  have hlt : a ^^^ b < 2 ^ 62 := Nat.xor_lt_two_pow (by omega) (by omega)
  have hw : bits .xor .i64 (a : Int) (b : Int) = ((a ^^^ b : Nat) : Int) := by
    show IntKind.i64.wrap ((BitVec.ofInt 64 (a : Int) ^^^ BitVec.ofInt 64 (b : Int)).toNat : Int) = _
    rw [e, wi64 _ (by omega) (by omega)]
  rw [hw]; omega

end Go.Proofs.YtijgolgfcgkbiaaDoor
namespace Go.Proofs.YtijgolgfcgkbiaaDoor
open Go.RowKit Nt

/-- a number from 0 to below m, or 0 -/
def inPick (m : Int) (i : Nat) : Prop := (i : Int) < m ∨ i = 0

/-- a number that fits, by a name of its own -/
theorem nameI (z : Int) (M : Int) (h0 : 0 ≤ z) (h1 : z ≤ M) (hM : M ≤ 9223372036854775807) : ∃ u : Nat, Hid (z = (u : Int)) ∧ IntKind.i64.wrap z = (u : Int) ∧ (u : Int) ≤ M :=
  ⟨z.toNat, by show z = _; omega, by rw [wi64 z (by omega) (by omega)]; omega, by omega⟩

set_option maxRecDepth 100000 in
set_option maxHeartbeats 1000000 in
theorem pick_c (g p n cap : Nat) (a : Option Addr) (m : Int) (w : World) (h : Rd w g p a n cap) (hp : p ≤ 1000000000) (hm : m ≤ 4611686018427387904) :
    Calls Tryd.prog 25 #[.pointer (some ⟨g, 0, none⟩), .int .i64 m] w fun e w' => (∃ i : Nat, e = .returned (.int .i64 (i : Int)) ∧ inPick m i) ∧ Rd w' g (p + 1) a n cap ∧ Keeps g w w' := by
  have c0 := h.c0
  have c1 := h.c1
  have f1 := h.f1
  have hlt := h.lt
  have hN := h.next ((p : Int) + 1) (by omega)
  have hK := (Keeps.refl g w).setOwn (p := ⟨g, 1, none⟩) rfl (.int .i64 ((p : Int) + 1))
  have d0 := hN.c0
  have d1 := hN.c1
  have hB := hN.byts
  have hlen := h.len
  have HN := hide hN
  have HK := hide hK
  clear hN hK h
  by_cases hm1 : m < 1
  · go_enter Tryd.func25, Tryd.ntmps25
    go_wp2
    go_ret
    exact ⟨⟨0, rfl, .inr rfl⟩, unhide HN, unhide HK⟩
  · by_cases hn0 : n = 0
    · have hz : ((n : Int) == 0) = true := by simp [hn0]
      have hl : decide (m < 1) = false := decide_eq_false hm1
      go_enter Tryd.func25, Tryd.ntmps25
      go_wp2
      go_ret
      subst hn0
      exact ⟨⟨0, rfl, .inr rfl⟩, unhide HN, unhide HK⟩
    · obtain ⟨q, o, rfl, hqg, hq, hcells⟩ := hB (by omega)
      have hz : ((n : Int) == 0) = false := by simp; omega
      have hl : decide (m < 1) = false := decide_eq_false hm1
      have Hc := hide hcells
      clear hcells hB
      by_cases hpn : p < n
      · obtain ⟨x, hx, hcx⟩ := unhide Hc p hpn
        go_enter Tryd.func25, Tryd.ntmps25
        go_wp2
        go_ret
        refine ⟨⟨((x : Int) % m).toNat, ret_int ?_, .inl ?_⟩, unhide HN, unhide HK⟩
        · rw [Int.toNat_of_nonneg (Int.emod_nonneg _ (by omega))]
        · rw [Int.toNat_of_nonneg (Int.emod_nonneg _ (by omega))]; exact Int.emod_lt_of_pos _ (by omega)
      · obtain ⟨i1, hi1, e1⟩ : ∃ i : Nat, i < n ∧ (p : Int).tmod n = (i : Int) := ⟨p % n, Nat.mod_lt _ (by omega), by rw [Int.tmod_eq_emod_of_nonneg (by omega)]; rfl⟩
        obtain ⟨k7, _, e3, hk7⟩ := nameI ((p : Int) * 7) 7000000000 (by omega) (by omega) (by omega)
        obtain ⟨k73, _, e4, hk73⟩ := nameI ((k7 : Int) + 3) 7000000003 (by omega) (by omega) (by omega)
        obtain ⟨i2, hi2, e5⟩ : ∃ i : Nat, i < n ∧ (k73 : Int).tmod n = (i : Int) := ⟨k73 % n, Nat.mod_lt _ (by omega), by rw [Int.tmod_eq_emod_of_nonneg (by omega)]; rfl⟩
        obtain ⟨x, hx, hcx⟩ := unhide Hc i1 hi1
        obtain ⟨y, hy, hcy⟩ := unhide Hc i2 hi2
        obtain ⟨u1, _, e6, hu1⟩ := nameI ((x : Int) * 131) 100000 (by omega) (by omega) (by omega)
        obtain ⟨u2, _, e7, hu2⟩ := nameI ((y : Int) * 1117) 1000000 (by omega) (by omega) (by omega)
        obtain ⟨u3, _, e8, hu3⟩ := nameI ((u1 : Int) + u2) 1100000 (by omega) (by omega) (by omega)
        obtain ⟨u4, _, e9, hu4⟩ := nameI ((p : Int) * 29) 29000000000 (by omega) (by omega) (by omega)
        obtain ⟨u5, _, e10, hu5⟩ := nameI ((u3 : Int) + u4) 30000000000 (by omega) (by omega) (by omega)
        obtain ⟨u6, hu6, e11⟩ : ∃ u : Nat, (u : Int) ≤ 1000000000 ∧ (p : Int).tdiv n = (u : Int) := ⟨p / n, by have := Nat.div_le_self p n; omega, by rw [Int.tdiv_eq_ediv_of_nonneg (by omega)]; rfl⟩
        have e11' := wi64 (u6 : Int) (by omega) (by omega)
        obtain ⟨u7, _, e12, hu7⟩ := nameI ((u6 : Int) * 53) 53000000000 (by omega) (by omega) (by omega)
        obtain ⟨u8, _, e13, hu8⟩ := nameI ((u5 : Int) + u7) 100000000000 (by omega) (by omega) (by omega)
        have hi1' : (i1 : Int) < n := by omega
        have hi2' : (i2 : Int) < n := by omega
        have hx256 : (x : Int) ≤ 255 := by omega
        have hy256 : (y : Int) ≤ 255 := by omega
        have hX := xor_small (x := (u8 : Int)) (y := (u8 : Int) / 64) (by omega) (by omega) (by omega) (by omega)
        obtain ⟨z, hz⟩ : ∃ z : Nat, bits .xor .i64 (u8 : Int) ((u8 : Int) / 64) = (z : Int) := ⟨(bits .xor .i64 (u8 : Int) ((u8 : Int) / 64)).toNat, by omega⟩
        have Hz := hide hz
        clear hz hX
        go_enter Tryd.func25, Tryd.ntmps25
        go_wp2
        go_quiet (fail)
        go_wp2
        go_ret
        rw [unhide Hz]
        refine ⟨⟨((z : Int) % m).toNat, ret_int ?_, .inl ?_⟩, (unhide HN).drewN nq, (unhide HK).drewN nq⟩
        · rw [Int.toNat_of_nonneg (Int.emod_nonneg _ (by omega)), Int.tmod_eq_emod_of_nonneg (by omega)]
        · rw [Int.toNat_of_nonneg (Int.emod_nonneg _ (by omega))]; exact Int.emod_lt_of_pos _ (by omega)

theorem pick_d (g p n cap : Nat) (a : Option Addr) (m : Int) (w : World) (h : Rd w g p a n cap) (hp : p ≤ 1000000000) (hm : m ≤ 4611686018427387904) :
    Calls Tryd.prog 25 #[.pointer (some ⟨g, 0, none⟩), .int .i64 m] w fun e w' => (∃ i : Nat, e = .returned (.int .i64 (i : Int)) ∧ inPick m i) ∧ Drawn w g p n cap a 1 w' :=
  (pick_c g p n cap a m w h hp hm).mono fun _ _ h => ⟨h.1, ⟨p + 1, Nat.le_refl _, h.2.1⟩, h.2.2⟩
end Go.Proofs.YtijgolgfcgkbiaaDoor
namespace Go.Proofs.YtijgolgfcgkbiaaDoor
open Go.RowKit Nt

/-- a slice of bytes that came in -/
def Bytes0 (w : World) (a : Option Addr) (n : Nat) : Prop :=
  0 < n → ∃ q o, a = some ⟨q, o, none⟩ ∧ q < w.heap.size ∧ ∀ j, j < n → ∃ x : Nat, x ≤ 255 ∧ w.cell? ⟨q, o + j, none⟩ = some (.int .u8 (x : Int))
theorem Bytes0.below {w w' : World} {a : Option Addr} {n : Nat} (h : Bytes0 w a n) (k : Below w.heap.size w w') : Bytes0 w' a n := by
  intro hn
  obtain ⟨q, o, rfl, hq, hc⟩ := h hn
  refine ⟨q, o, rfl, Nat.lt_of_lt_of_le hq k.size, fun j hj => ?_⟩
  obtain ⟨x, hx, hcj⟩ := hc j hj
  exact ⟨x, hx, by rw [k.cell hq]; exact hcj⟩
theorem Bytes0.byts {w : World} {a : Option Addr} {n m : Nat} (h : Bytes0 w a n) (hm : m ≤ n) (o : Obj) : Byts (w.alloc o) w.heap.size a m := by
  intro hn
  obtain ⟨q, o', rfl, hq, hc⟩ := h (by omega)
  refine ⟨q, o', rfl, hq, by simp; omega, fun j hj => ?_⟩
  obtain ⟨x, hx, hcj⟩ := hc j (by omega)
  exact ⟨x, hx, by rw [Below.cell ((Below.refl w.heap.size w).alloc (Nat.le_refl _) o) hq]; exact hcj⟩

theorem rd_new {w : World} {a : Option Addr} {n m cap : Nat} (h : Bytes0 w a n) (hm : m ≤ n) (h2 : m ≤ 2000) (v : Int) (hv : v = ((0 : Nat) : Int)) : Rd (w.alloc (.cells #[.slice a m cap, .int .i64 v] 78)) w.heap.size 0 a m cap := by
  subst hv
  exact ⟨by show (w.heap.push _)[w.heap.size]? = _; rw [Array.getElem?_push, if_pos rfl], h.byts hm _, h2⟩

set_option maxRecDepth 100000 in
set_option maxHeartbeats 400000 in
theorem l1Open_c (a : Option Addr) (n cap : Nat) (w : World) (h : Bytes0 w a n) (hcap : n ≤ cap) (hmax : cap ≤ maxLen) :
    Calls Tryd.prog 24 #[.slice a n cap] w fun e w' => e = .returned (.pointer (some ⟨w.heap.size, 0, none⟩)) ∧ (∃ m, m ≤ n ∧ Rd w' w.heap.size 0 a m cap) ∧ Below w.heap.size w w' := by
  unfold maxLen at hmax
  have H := hide h
  clear h
  by_cases hn : 2000 < n
  · have hc2 : (2000 : Int) ≤ cap := by omega
    go_enter Tryd.func24, Tryd.ntmps24
    go_wp2
    go_ret
    exact ⟨rfl, ⟨2000, by omega, rd_new (unhide H) (by omega) (by omega) _ rfl⟩, (Below.refl _ _).alloc (Nat.le_refl _) _⟩
  · go_enter Tryd.func24, Tryd.ntmps24
    go_wp2
    go_ret
    exact ⟨rfl, ⟨n, by omega, rd_new (unhide H) (by omega) (by omega) _ rfl⟩, (Below.refl _ _).alloc (Nat.le_refl _) _⟩

def isS (M : Nat) : Value → Bool | .string s => decide (s.size ≤ M) | _ => false
theorem isS_out {M : Nat} {v : Value} (h : isS M v = true) : ∃ s, v = .string s ∧ s.size ≤ M := by
  cases v <;> simp [isS] at h
  exact ⟨_, rfl, h⟩

set_option maxRecDepth 100000 in
set_option maxHeartbeats 400000 in
theorem of_c (g p n cap q : Nat) (a : Option Addr) (cs : Array Value) (L : Nat) (w : World) (h : Rd w g p a n cap) (hp : p ≤ 1000000000) (hL : L = cs.size) (hL0 : 0 < L) (hL9 : L ≤ 1000000)
    (hcs : w.heap[q]? = some (.cells cs 9 (0, 0))) (hqg : q ≠ g) :
    Calls Tryd.prog 27 #[.pointer (some ⟨g, 0, none⟩), .slice (some ⟨q, 0, none⟩) L L] w fun e w' => (∃ v, e = .returned v ∧ v ∈ cs.toList) ∧ Drawn w g p n cap a 1 w' := by
  have hq : q < w.heap.size := (Array.getElem?_eq_some_iff.1 hcs).1
  have H := hide h
  have Hcs := hide hcs
  have HL := hide hL
  clear h hcs hL
  go_enter Tryd.func27, Tryd.ntmps27
  go_wp2_with fail
  refine (pick_c g p n cap a L w (unhide H) hp (by omega)).mono ?_
  rintro e w1 ⟨⟨i, rfl, hi⟩, hr, hk⟩
  have hiL : i < L := by rcases hi with hi | hi <;> omega
  have hiL2 : (i : Int) < L := by omega
  have hlt : i < cs.toList.length := by rw [Array.length_toList, ← unhide HL]; exact hiL
  have hcell : w1.cell? ⟨q, i, none⟩ = some (cs.toList[i]'hlt) := by
    rw [hk.cell (p := ⟨q, i, none⟩) hq hqg]
    simp [World.cell?, unhide Hcs]
  have hmem : cs.toList[i]'hlt ∈ cs.toList := List.getElem_mem hlt
  generalize cs.toList[i]'hlt = v at *
  have Hm := hide hmem
  have HR := hide hr
  have HK := hide hk
  clear hr hk hmem hi
  go_wp2
  go_ret
  exact ⟨⟨v, rfl, unhide Hm⟩, ⟨p + 1, Nat.le_refl _, unhide HR⟩, unhide HK⟩

theorem many_odd {s n T o : Nat} (h : o + s * n ≤ T) (hn : n % 2 = 1) : o + s + (s + s) * (n / 2) ≤ T := by
  obtain ⟨k, hk⟩ : ∃ k, n / 2 = k := ⟨_, rfl⟩
  have e : n = 2 * k + 1 := by omega
  rw [hk]; subst e
  rw [Nat.mul_add, Nat.mul_one, ← Nat.mul_assoc, Nat.mul_comm s 2, Nat.two_mul] at h
  omega
theorem many_even {s n T o : Nat} (h : o + s * n ≤ T) (hn : n % 2 = 0) : o + (s + s) * (n / 2) ≤ T := by
  obtain ⟨k, hk⟩ : ∃ k, n / 2 = k := ⟨_, rfl⟩
  have e : n = 2 * k := by omega
  rw [hk]; subst e
  rw [← Nat.mul_assoc, Nat.mul_comm s 2, Nat.two_mul] at h
  omega

set_option maxRecDepth 100000 in
set_option maxHeartbeats 400000 in
theorem l1Many_c (s : ByteArray) (n : Int) (T : Nat) (w : World) (hT : s.size * n.toNat ≤ T) (hT9 : T ≤ 1000000000) (hn : n ≤ 1000000000) :
    Calls Tryd.prog 28 #[.string s, .int .i64 n] w fun e w' => (∃ r : ByteArray, e = .returned (.string r) ∧ r.size ≤ T) ∧ w' = w := by
  go_enter Tryd.func28, Tryd.ntmps28
  go_wp2
  go_loop [0, 1, 5] (fun vs vn vo => ∃ (s o : ByteArray) (n : Int), vs = .string s ∧ vn = .int .i64 n ∧ vo = .string o ∧ n ≤ 1000000000 ∧ Hid (o.size + s.size * n.toNat ≤ T)) (fun _ vn _ => (intOf vn).toNat)
  case atStart => exact ⟨s, ⟨#[]⟩, n, rfl, rfl, rfl, hn, by show 0 + _ ≤ T; omega⟩
  case round =>
    obtain ⟨s, o, n, rfl, rfl, rfl, hn, hS⟩ := hrel
    by_cases h0 : 0 < n
    · obtain ⟨k, rfl⟩ := Int.eq_ofNat_of_zero_le (show 0 ≤ n by omega)
      have hS' := unhide hS
      rw [Int.toNat_natCast] at hS'
      have hm : s.size * 1 ≤ s.size * k := Nat.mul_le_mul_left _ (by omega)
      have ho : o.size ≤ T := by omega
      have hs1 : s.size ≤ T := by omega
      have hosz : (o ++ s).size = o.size + s.size := ByteArray.size_append
      have hssz : (s ++ s).size = s.size + s.size := ByteArray.size_append
      by_cases hodd : k % 2 = 1
      · have h1 := many_odd hS' hodd
        have hr : ((k : Int) % 2 == 1) = true := by rw [beq_iff_eq]; omega
        have hfit : o.size + s.size ≤ T := by omega
        have H1 := hide h1
        have Hos := hide hosz
        have Hss := hide hssz
        clear h1 hosz hssz hS' hm hS hodd
        go_wp2
        go_round
        case rel => exact ⟨s ++ s, o ++ s, ((k / 2 : Nat) : Int), rfl, by go_num, rfl, by omega, by show _ ≤ T; rw [unhide Hos, unhide Hss, Int.toNat_natCast]; exact unhide H1⟩
        case measure => simp [intOf]; omega
      · have h1 := many_even hS' (by omega)
        have hr : ((k : Int) % 2 == 1) = false := by rw [beq_eq_false_iff_ne]; omega
        have H1 := hide h1
        have Hss := hide hssz
        clear h1 hosz hssz hS' hm hS hodd
        go_wp2
        go_round
        case rel => exact ⟨s ++ s, o, ((k / 2 : Nat) : Int), rfl, by go_num, rfl, by omega, by show _ ≤ T; rw [unhide Hss, Int.toNat_natCast]; exact unhide H1⟩
        case measure => simp [intOf]; omega
    · have hT' : o.size ≤ T := by
        have := unhide hS
        omega
      go_wp2
      go_ret
      exact ⟨⟨o, rfl, hT'⟩, rfl⟩
end Go.Proofs.YtijgolgfcgkbiaaDoor
namespace Go.Proofs.YtijgolgfcgkbiaaDoor
open Go.RowKit Nt

theorem trim_stop_at (l : List UInt8) (k : Nat) (hk : k < l.length) (h : k + 1 < l.length → l[k] ≠ 48) : trim (l.drop k) = l.drop k := by
  apply trim_stop
  by_cases hl : k + 1 < l.length
  · right
    exact ⟨l[k], l.drop (k + 1), List.drop_eq_getElem_cons (by omega), h hl⟩
  · left; simp; omega

set_option maxHeartbeats 400000 in
theorem l1Trim_c (l : List UInt8) (w : World) (hs : l.length ≤ 1000000000) :
    Calls Tryd.prog 59 #[.string (B l)] w fun e w' => e = .returned (.string (B (trim l))) ∧ w' = w := by
  have hsz : (B l).size ≤ 1000000000 := by rw [B_size]; exact hs
  go_enter Tryd.func59, Tryd.ntmps59
  go_wp2
  go_loop [3] (fun i => ∃ k : Nat, k ≤ l.length ∧ (k = 0 ∨ k < l.length) ∧ i = .int .i64 k ∧ Hid (trim l = trim (l.drop k))) (fun i => l.length - (intOf i).toNat)
  case atStart => exact ⟨0, Nat.zero_le _, .inl rfl, rfl, rfl⟩
  case round =>
    obtain ⟨k, hk, hk', rfl, ht⟩ := hrel
    have fin : (k + 1 < l.length → ∀ h, l[k]'h ≠ 48) → (B l).extract k (B l).size = B (trim l) := by
      intro h
      rw [B_extract, B_size, List.take_length, ht.out]
      by_cases h0 : k < l.length
      · rw [trim_stop_at l k h0 (fun hh => h hh h0)]
      · have : l = [] := by apply List.eq_nil_of_length_eq_zero; omega
        subst this; simp [trim]
    have Fin := hide fin
    clear fin
    by_cases hlt : k + 1 < l.length
    · have hlt2 : k + 1 < (B l).size := by rw [B_size]; exact hlt
      go_wp2
      · have hz : l[k] = 48 := by
          have h := ‹(((B l)[k].toNat : Int) == 48) = true›
          rw [B_get] at h
          apply UInt8.toNat_inj.1
          have := beq_iff_eq.1 h
          simp only [UInt8.toNat_ofNat]
          omega
        go_round
        case rel => exact ⟨k + 1, by omega, by omega, by go_num, by show trim l = _; rw [ht.out]; exact trim_drop l k (by omega) hz⟩
        case measure => simp [intOf]; omega
      · have hz : ∀ h : k < l.length, l[k] ≠ 48 := by
          have h := beq_eq_false_iff_ne.1 ‹(((B l)[k].toNat : Int) == 48) = false›
          rw [B_get] at h
          intro hh hc
          rw [hc] at h
          exact h rfl
        go_ret
        exact ⟨ret_str (unhide Fin (fun _ h => hz h)), rfl⟩
    · have hlt2 : ¬ k + 1 < (B l).size := by rw [B_size]; exact hlt
      have hkk : k ≤ (B l).size := by rw [B_size]; exact hk
      go_wp2
      go_ret
      exact ⟨ret_str (unhide Fin (fun h => absurd h hlt)), rfl⟩

set_option maxHeartbeats 400000 in
theorem l1At_c (n k : Nat) (w : World) (hs : (dec n).size ≤ 1000000000) (hk : k ≤ 1000000000) :
    Calls Tryd.prog 72 #[.string (dec n), .int .i64 k] w fun e w' => e = .returned (.int .i64 ((n / 10 ^ k % 10 : Nat) : Int)) ∧ w' = w := by
  by_cases h : k < (dec n).size
  · have hb : (n / 10 ^ k % 10) < 10 := Nat.mod_lt _ (by omega)
    have hd : (dec n)[(dec n).size - 1 - k]'(by omega) = sg (n / 10 ^ k % 10) := by
      have h1 : k < (txl 10 n).length := by simpa [dec, txt, B_size] using h
      have := dec_at n k h1
      rw [List.getElem_reverse] at this
      rw [← this]
      simp only [dec, txt, B_get, B_size]
    have hn : ((dec n)[(dec n).size - 1 - k]'(by omega)).toNat = 48 + n / 10 ^ k % 10 := by rw [hd, sg_toNat (by omega), if_pos hb]
    generalize hg : n / 10 ^ k % 10 = d at *
    have Hn := hide hn
    clear hn hd hg
    go_enter Tryd.func72, Tryd.ntmps72
    go_wp2
    go_ret
    exact ⟨ret_int (by rw [unhide Hn]; omega), rfl⟩
  · have hz : n / 10 ^ k % 10 = 0 := by
      rw [dec_above n k (by simpa [dec, txt, B_size] using h)]
    rw [hz]
    go_enter Tryd.func72, Tryd.ntmps72
    go_wp2
    go_ret
    exact ⟨rfl, rfl⟩

theorem l1At_d (n k d : Nat) (w : World) (hd : n / 10 ^ k % 10 = d) (hs : (dec n).size ≤ 1000000000) (hk : k ≤ 1000000000) :
    Calls Tryd.prog 72 #[.string (dec n), .int .i64 k] w fun e w' => e = .returned (.int .i64 (d : Int)) ∧ w' = w := by
  subst hd; exact l1At_c n k w hs hk
end Go.Proofs.YtijgolgfcgkbiaaDoor
namespace Go.Proofs.YtijgolgfcgkbiaaDoor
open Go.RowKit Nt

theorem Tryd.infoInt : (Tryd.prog.info? 3).map (fun i => (i.zero, i.size, i.bytes)) = some (some (.int .i64 0), 1, 8) := by kernel_rfl
theorem Tryd.infoByte : (Tryd.prog.info? 5).map (fun i => (i.zero, i.size, i.bytes)) = some (some (.int .u8 0), 1, 1) := by kernel_rfl

/-- what 'out' holds when k digits are laid -/
def textCells (xs : List Nat) (n k : Nat) : List UInt8 := List.replicate (n - k) 0 ++ ((xs.take k).map sg).reverse

theorem textCells_set (xs : List Nat) (k : Nat) (h : k < xs.length) :
    (textCells xs xs.length k).set (xs.length - 1 - k) (sg xs[k]) = textCells xs xs.length (k + 1) := by
  unfold textCells
  have e : xs.length - k = (xs.length - 1 - k) + 1 := by omega
  rw [e, List.replicate_succ', List.append_assoc, List.set_append_right _ _ (by simp)]
  have e2 : xs.length - (k + 1) = xs.length - 1 - k := by omega
  rw [e2, List.length_replicate, Nat.sub_self, List.take_succ_eq_append_getElem h, List.map_append, List.reverse_append]
  simp

theorem textCells_all (xs : List Nat) : textCells xs xs.length xs.length = (xs.map sg).reverse := by simp [textCells]

theorem textCells_zero (xs : List Nat) : textCells xs xs.length 0 = List.replicate xs.length 0 := by simp [textCells]

/-- what the text is when all is laid -/
theorem text_end (xs : List Nat) (hd : ∀ d ∈ xs, d < 10) (hx : xs ≠ []) : trim (textCells xs xs.length xs.length) = txl 10 (ofd 10 xs) := by
  rw [textCells_all]; exact trim_rev xs hd hx

set_option maxRecDepth 100000 in
set_option maxHeartbeats 400000 in
theorem l1Text_c (xs : List Nat) (v : Value) (w : World) (hd : ∀ d ∈ xs, d < 10) (hs : xs.length ≤ 1000000000) (h : w.ownsRow 0 3 1 v xs.length (ints xs)) :
    Calls Tryd.prog 73 #[v] w fun e w' => e = .returned (.string (dec (ofd 10 xs))) ∧ Below w.heap.size w w' := by
  obtain ⟨i0, hi, hz0, hz1, hz2⟩ := info_parts Tryd.infoByte
  rcases h.2 with ⟨rfl, hn⟩ | ⟨g, cap, cur, rfl, hbg, hgg, hnc, hcm, hcs, htake⟩
  · have hx : xs = [] := List.eq_nil_of_length_eq_zero hn
    subst hx
    clear h hs hd hn
    go_enter Tryd.func73, Tryd.ntmps73
    go_wp2_with (refine wpList_make_full _ rfl (.tmp 6) (.tmp 6) 22 rfl w.heap.size 5 i0 (.int .u8 0) 1 Tryd.underlying22 hi hz0 hz1 .i64 .i64 0 0 0 rfl rfl rfl rfl (by rw [hz2]; omega) (by decide) (Nat.le_refl _) ?_; intro w1 hown1 hg1)
    have hb := (Below.refl w.heap.size w).grown hg1 (Nat.le_refl _) (fun _ h => by cases h)
    clear hown1 hg1
    refine wp_loop_rounds 1 ?_; rw [rounds_succ]
    go_wp2
    go_ret
    exact ⟨rfl, hb⟩
  · clear htake hcs hcm hgg hbg
    have Hd := hide hd
    clear hd
    go_enter Tryd.func73, Tryd.ntmps73
    go_wp2_with (refine wpList_make_full _ rfl (.tmp 6) (.tmp 6) 22 rfl w.heap.size 5 i0 (.int .u8 0) 1 Tryd.underlying22 hi hz0 hz1 .i64 .i64 xs.length xs.length xs.length rfl rfl rfl rfl (by rw [hz2]; omega) (by unfold maxLen; omega) (Nat.le_refl _) ?_; intro w1 hown1 hg1)
    go_loopw [4] (fun i wr => ∃ k : Nat, k ≤ xs.length ∧ i = .int .i64 k ∧ wr.ownsRow w.heap.size 5 1 (.slice (some ⟨w.heap.size, 0, none⟩) xs.length xs.length) xs.length ((textCells xs xs.length k).map u8v) ∧ Below w.heap.size w wr)
      (fun i _ => xs.length - (intOf i).toNat)
    case atStart =>
      refine ⟨0, Nat.zero_le _, rfl, ?_, (Below.refl _ _).grown hg1 (Nat.le_refl _) (fun _ h => by cases h)⟩
      rw [textCells_zero]
      simpa [Value.cells, toList_madeCells_one, u8v] using hown1
    case round =>
      obtain ⟨k, hk, rfl, hown, hb⟩ := hrel
      by_cases hlt : k < xs.length
      · have hc1 : wr.cell? ⟨g, k, none⟩ = some (.int .i64 (xs[k] : Nat)) := by
          rw [(own_below h hb).cellAt k (by omega)]; simp [ints, hlt]
        have hf := hown.frozenAt (xs.length - 1 - k)
        obtain ⟨v0, hv0⟩ := own_cell_some hown (xs.length - 1 - k) (by omega)
        have hst := hown.stored (xs.length - 1 - k) (u8v (sg xs[k]))
        have hdk : xs[k] < 10 := unhide Hd _ (List.getElem_mem hlt)
        rw [← List.map_set, textCells_set xs k hlt, u8v_sg hdk] at hst
        have Hst := hide hst
        clear hst
        go_wp2
        go_roundw
        case rel => exact ⟨k + 1, by omega, by go_num, (unhide Hst).1, hb.setCell (by simp) _⟩
        case measure => simp [intOf]; omega
      · have hkn : k = xs.length := by omega
        subst hkn
        by_cases hx : xs = []
        · subst hx
          go_wp2
          go_ret
          exact ⟨rfl, hb⟩
        · have hx0 : ((xs.length : Int) == 0) = false := by
            have : xs.length ≠ 0 := fun h => hx (List.eq_nil_of_length_eq_zero h)
            rw [beq_eq_false_iff_ne]; omega
          have hconv := run_conv_bytes (dst := 9) Tryd.underlying22 Tryd.underlying5 Tryd.underlying9 hown
          have Fin := hide (text_end xs (unhide Hd) hx)
          go_wp2_with (go_at_call 59; refine (l1Trim_c _ _ (by simp [textCells]; omega)).mono ?_; rintro e w' ⟨rfl, rfl⟩)
          go_ret
          exact ⟨ret_str (by rw [unhide Fin]; rfl), hb⟩
end Go.Proofs.YtijgolgfcgkbiaaDoor
namespace Go.Proofs.YtijgolgfcgkbiaaDoor
open Go.RowKit Nt

/-- a text of a number is no longer than this -/
def big : Nat := 100000

theorem dec_len (n : Nat) : (dec n).size = (txl 10 n).length := by simp [dec, txt, B_size]
theorem dec_lt (n : Nat) : n < 10 ^ (dec n).size := by rw [dec_len]; exact lt_pow_txl (by omega) n

theorem sub_end {a b X l : Nat} (hba : b ≤ a) (hX : X < 10 ^ (dec a).size) (h : X + b % 10 ^ (dec a).size = a % 10 ^ (dec a).size + l * 10 ^ (dec a).size) : X = a - b := by
  have ha := dec_lt a
  rw [Nat.mod_eq_of_lt ha, Nat.mod_eq_of_lt (by omega)] at h
  generalize 10 ^ (dec a).size = p at *
  have : l = 0 := by
    rcases Nat.eq_zero_or_pos l with h0 | h0
    · exact h0
    · have := Nat.mul_le_mul_right p h0
      omega
  subst this; omega

set_option maxRecDepth 100000 in
set_option maxHeartbeats 400000 in
theorem l1Sub_c (a b : Nat) (w : World) (hba : b ≤ a) (hs : (dec a).size ≤ 100000) :
    Calls Tryd.prog 79 #[.string (dec a), .string (dec b)] w fun e w' => e = .returned (.string (dec (a - b))) ∧ Below w.heap.size w w' := by
  obtain ⟨i0, hi, hz0, hz1, hz2⟩ := info_parts Tryd.infoInt
  have hbs : (dec b).size ≤ 1000000000 := by
    have := txl_len_le (b := 10) (by omega) (dec_size_pos a) (Nat.lt_of_le_of_lt hba (dec_lt a))
    rw [dec_len b]; omega
  have Hba := hide hba
  clear hba
  go_enter Tryd.func79, Tryd.ntmps79
  go_wp2
  go_loopw [5, 6, 7] (fun v l i wr => ∃ (k c : Nat) (xs : List Nat), k ≤ (dec a).size ∧ i = .int .i64 k ∧ l = .int .i64 c ∧ c ≤ 1 ∧ xs.length = k ∧ wr.ownsRow w.heap.size 3 1 v k (ints xs) ∧ Below w.heap.size w wr ∧
      Hid (∀ d ∈ xs, d < 10) ∧ Hid (ofd 10 xs + b % 10 ^ k = a % 10 ^ k + c * 10 ^ k))
    (fun _ _ i _ => (dec a).size - (intOf i).toNat)
  case atStart =>
    exact ⟨0, 0, [], Nat.zero_le _, rfl, rfl, by omega, rfl, World.ownsRow_made w #[] 0 (Nat.le_refl _) (by decide) (by simp), (Below.refl _ _).alloc (Nat.le_refl _) _, hide (by simp), hide (by simp [ofd, Nat.mod_one])⟩
  case round =>
    obtain ⟨k, c, xs, hk, rfl, rfl, hc, hxk, hown, hb, hdg, hval⟩ := hrel
    by_cases hlt : k < (dec a).size
    · have hak : a / 10 ^ k % 10 < 10 := Nat.mod_lt _ (by omega)
      have hbk : b / 10 ^ k % 10 < 10 := Nat.mod_lt _ (by omega)
      generalize hga : a / 10 ^ k % 10 = ak at *
      generalize hgb : b / 10 ^ k % 10 = bk at *
      have Ha := hide hga
      have Hb := hide hgb
      clear hga hgb
      go_wp2_with fail
      refine (l1At_d a k ak _ (unhide Ha) (by omega) (by omega)).mono ?_
      rintro e w1 ⟨rfl, rfl⟩
      go_wp2_with fail
      refine (l1At_d b k bk _ (unhide Hb) (by omega) (by omega)).mono ?_
      rintro e w1 ⟨rfl, rfl⟩
      by_cases hneg : (ak : Int) - bk - c < 0
      · obtain ⟨d, hd⟩ : ∃ d : Nat, (ak : Int) - bk - c + 10 = d := ⟨((ak : Int) - bk - c + 10).toNat, by omega⟩
        have hdl : d < 10 := by omega
        have hw := hb.size
        go_wp2_with (at_builtin; refine wpList_append_own _ rfl (.tmp 29) (.tmp 31) 42 rfl w.heap.size 3 i0 (.int .i64 0) 1 8 Tryd.underlying42 hi hz0 hz1 hz2 rfl (by decide) _ _ _ rfl (hown.alloc _) ⟨w1.heap.size, 0, none⟩ 1 1 [.int .i64 d] rfl rfl (cell_one_new _ _ _) (by intro u hu; simp at hu; subst hu; rfl) (by unfold maxLen; omega) (by omega) (by simp; omega) ?_; intro v2 w2 hown2 hg2 _)
        have hbX := below_grown (hb.alloc hw _) (hown.alloc _) hg2 (by simp; omega)
        go_roundw
        case rel => exact ⟨k + 1, 1, xs ++ [d], by omega, by go_num, rfl, by omega, by simp [hxk], by rw [← ints_snoc]; exact hown2, hbX, dig_snoc hdg hdl, hide (by rw [ofd_snoc, hxk]; exact sub_step (unhide hval) (unhide Ha) (unhide Hb) (by omega))⟩
        case measure => simp [intOf]; omega
      · obtain ⟨d, hd⟩ : ∃ d : Nat, (ak : Int) - bk - c = d := ⟨((ak : Int) - bk - c).toNat, by omega⟩
        have hdl : d < 10 := by omega
        have hw := hb.size
        go_wp2_with (at_builtin; refine wpList_append_own _ rfl (.tmp 29) (.tmp 31) 42 rfl w.heap.size 3 i0 (.int .i64 0) 1 8 Tryd.underlying42 hi hz0 hz1 hz2 rfl (by decide) _ _ _ rfl (hown.alloc _) ⟨w1.heap.size, 0, none⟩ 1 1 [.int .i64 d] rfl rfl (cell_one_new _ _ _) (by intro u hu; simp at hu; subst hu; rfl) (by unfold maxLen; omega) (by omega) (by simp; omega) ?_; intro v2 w2 hown2 hg2 _)
        have hbX := below_grown (hb.alloc hw _) (hown.alloc _) hg2 (by simp; omega)
        go_roundw
        case rel => exact ⟨k + 1, 0, xs ++ [d], by omega, by go_num, rfl, by omega, by simp [hxk], by rw [← ints_snoc]; exact hown2, hbX, dig_snoc hdg hdl, hide (by rw [ofd_snoc, hxk]; exact sub_step (unhide hval) (unhide Ha) (unhide Hb) (by omega))⟩
        case measure => simp [intOf]; omega
    · go_wp2_with fail
      refine (l1Text_c xs _ _ (unhide hdg) (by omega) (own_base (hxk ▸ hown) (Nat.zero_le _))).mono ?_
      rintro e w1 ⟨rfl, hb1⟩
      go_wp2
      go_ret
      have hkn : k = (dec a).size := by omega
      subst hkn
      exact ⟨ret_str (by rw [sub_end (unhide Hba) (hxk ▸ ofd_lt xs (unhide hdg)) (unhide hval)]), hb.trans (hb1.mono hb.size)⟩
end Go.Proofs.YtijgolgfcgkbiaaDoor
