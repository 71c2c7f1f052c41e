/- A part of the proof, put together out of smaller texts: each piece says what it is for. -/
import Derived.Test.YtnenoaenjaghhaaDoorRows
import Derived.Below
import Derived.WalkKit
import Derived.WalkSpells
import Derived.WalkLawsBesides
import Derived.Lib.DecodeN
import Derived.Shelf.LaysM
import Derived.Shelf.Strconv.Clone
import Derived.Shelf.Unicode.DecodeSlow
import Derived.Shelf.Unicode.DecodeAny
import Derived.BigQuiet
import Derived.Deep.QuietTactic
import Derived.Deep.RegionWith
import Derived.Deep.RegionHeld3
import Derived.Laws.IdiomStrings
import Derived.Laws.Runes
/- Plain arithmetic of digits: no program is named here. -/
namespace Go.Proofs.YtnenoaenjaghhaaDoor.Nt

/-- the number that digits are, the lowest first -/
def ofd (b : Nat) : List Nat → Nat
  | [] => 0
  | d :: r => d + b * ofd b r

/-- the digits of a number, the lowest first, with fuel -/
def dgf (b : Nat) : Nat → Nat → List Nat
  | 0, _ => []
  | f + 1, n => if n = 0 then [] else n % b :: dgf b f (n / b)

def dg (b n : Nat) : List Nat := dgf b n n

theorem dgf_stable {b : Nat} (hb : 2 ≤ b) : ∀ (f g n : Nat), n ≤ f → n ≤ g → dgf b f n = dgf b g n := by
  intro f
  induction f with
  | zero => intro g n h1 h2; have : n = 0 := by omega
            subst this; cases g <;> simp [dgf]
  | succ f ih =>
    intro g n h1 h2
    cases g with
    | zero => have : n = 0 := by omega
              subst this; simp [dgf]
    | succ g =>
      simp only [dgf]
      by_cases h : n = 0
      · simp [h]
      · have hlt : n / b < n := Nat.div_lt_self (by omega) (by omega)
        simp only [h, if_false]
        rw [ih g (n / b) (by omega) (by omega)]

theorem dg_zero (b : Nat) : dg b 0 = [] := by simp [dg, dgf]

theorem dg_pos {b n : Nat} (hb : 2 ≤ b) (hn : 0 < n) : dg b n = n % b :: dg b (n / b) := by
  unfold dg
  cases n with
  | zero => omega
  | succ m =>
    have hlt : (m + 1) / b < m + 1 := Nat.div_lt_self (by omega) (by omega)
    simp only [dgf]
    rw [if_neg (by omega), dgf_stable hb m ((m + 1) / b) ((m + 1) / b) (by omega) (by omega)]

theorem ofd_dg {b : Nat} (hb : 2 ≤ b) : ∀ n, ofd b (dg b n) = n := by
  intro n
  induction n using Nat.strongRecOn with
  | _ n ih =>
    by_cases h : n = 0
    · subst h; simp [dg_zero, ofd]
    · rw [dg_pos hb (by omega), ofd, ih _ (Nat.div_lt_self (by omega) (by omega))]
      exact Nat.mod_add_div n b

theorem dg_lt {b : Nat} (hb : 2 ≤ b) : ∀ n, ∀ d ∈ dg b n, d < b := by
  intro n
  induction n using Nat.strongRecOn with
  | _ n ih =>
    by_cases h : n = 0
    · subst h; simp [dg_zero]
    · rw [dg_pos hb (by omega)]
      intro d hd
      rcases List.mem_cons.1 hd with rfl | hd
      · exact Nat.mod_lt _ (by omega)
      · exact ih _ (Nat.div_lt_self (by omega) (by omega)) d hd

/-- canonical digits: each below the base, the highest not nought -/
def can (b : Nat) (l : List Nat) : Prop := (∀ d ∈ l, d < b) ∧ (∀ d, l.getLast? = some d → d ≠ 0)

theorem can_nil (b : Nat) : can b [] := ⟨by simp, by simp⟩

theorem ofd_pos_of_can {b : Nat} (hb : 2 ≤ b) : ∀ l, can b l → l ≠ [] → 0 < ofd b l := by
  intro l
  induction l with
  | nil => intro _ h; exact absurd rfl h
  | cons d r ih =>
    intro hc _
    simp only [ofd]
    by_cases hr : r = []
    · subst hr
      have := hc.2 d (by simp)
      simp only [ofd]; omega
    · have hc' : can b r := ⟨fun x hx => hc.1 x (List.mem_cons_of_mem _ hx), fun x hx => hc.2 x (by rw [List.getLast?_cons]; rw [hx]; rfl)⟩
      have h1 := ih hc' hr
      have h2 := Nat.mul_pos (show 0 < b by omega) h1
      omega

theorem can_tail {b d : Nat} {r : List Nat} (h : can b (d :: r)) : can b r :=
  ⟨fun x hx => h.1 x (List.mem_cons_of_mem _ hx), fun x hx => h.2 x (by rw [List.getLast?_cons]; rw [hx]; rfl)⟩

theorem dg_ofd {b : Nat} (hb : 2 ≤ b) : ∀ l, can b l → dg b (ofd b l) = l := by
  intro l
  induction l with
  | nil => intro _; simp [ofd, dg_zero]
  | cons d r ih =>
    intro hc
    have hp := ofd_pos_of_can hb (d :: r) hc (by simp)
    have hd : d < b := hc.1 d (by simp)
    rw [dg_pos hb hp]
    simp only [ofd]
    rw [Nat.add_mul_mod_self_left, Nat.mod_eq_of_lt hd, Nat.add_mul_div_left _ _ (by omega), Nat.div_eq_of_lt hd, Nat.zero_add, ih (can_tail hc)]

theorem dg_can {b : Nat} (hb : 2 ≤ b) : ∀ n, can b (dg b n) := by
  intro n
  refine ⟨dg_lt hb n, ?_⟩
  induction n using Nat.strongRecOn with
  | _ n ih =>
    by_cases h : n = 0
    · subst h; simp [dg_zero]
    · rw [dg_pos hb (by omega)]
      intro d hd
      have hlt : n / b < n := Nat.div_lt_self (by omega) (by omega)
      by_cases hr : dg b (n / b) = []
      · rw [hr] at hd
        simp at hd
        have hz : n / b = 0 := by rw [← ofd_dg hb (n / b), hr]; rfl
        rcases (Nat.div_eq_zero_iff).1 hz with h0 | h0
        · omega
        · rw [← hd, Nat.mod_eq_of_lt h0]; omega
      · rw [List.getLast?_cons] at hd
        have : (dg b (n / b)).getLast? = some d := by
          cases hg : (dg b (n / b)).getLast? with
          | none => exact absurd (List.getLast?_eq_none_iff.1 hg) hr
          | some y => rw [hg] at hd; simpa using hd
        exact ih _ hlt d this

theorem ofd_append (b : Nat) (l m : List Nat) : ofd b (l ++ m) = ofd b l + b ^ l.length * ofd b m := by
  induction l with
  | nil => simp [ofd]
  | cons d r ih => simp only [List.cons_append, ofd, ih, List.length_cons, Nat.pow_succ]; rw [Nat.mul_add, ← Nat.add_assoc, Nat.mul_comm (b ^ r.length) b, Nat.mul_assoc]

theorem ofd_lt {b : Nat} (l : List Nat) (h : ∀ d ∈ l, d < b) : ofd b l < b ^ l.length := by
  induction l with
  | nil => simp [ofd]
  | cons d r ih =>
    have h1 := ih (fun x hx => h x (List.mem_cons_of_mem _ hx))
    have h2 := h d (by simp)
    simp only [ofd, List.length_cons, Nat.pow_succ]
    have h3 : b * (ofd b r + 1) ≤ b * b ^ r.length := Nat.mul_le_mul_left _ h1
    rw [Nat.mul_add] at h3
    rw [Nat.mul_comm (b ^ r.length) b]
    omega

theorem ofd_replicate_zero (b k : Nat) : ofd b (List.replicate k 0) = 0 := by
  induction k with
  | zero => rfl
  | succ k ih => simp [List.replicate_succ, ofd, ih]

/-- noughts at the upper end are struck -/
def strip : List Nat → List Nat
  | [] => []
  | d :: r => match strip r with
    | [] => if d = 0 then [] else [d]
    | x :: y => d :: x :: y

theorem ofd_strip (b : Nat) (l : List Nat) : ofd b (strip l) = ofd b l := by
  induction l with
  | nil => rfl
  | cons d r ih =>
    simp only [strip, ofd]
    rw [← ih]
    cases h : strip r with
    | nil => by_cases hd : d = 0 <;> simp [hd, ofd]
    | cons x y => simp [ofd]

theorem strip_mem {l : List Nat} {d : Nat} (h : d ∈ strip l) : d ∈ l := by
  induction l with
  | nil => simp [strip] at h
  | cons x r ih =>
    simp only [strip] at h
    cases hs : strip r with
    | nil =>
      rw [hs] at h
      by_cases hx : x = 0
      · simp [hx] at h
      · simp [hx] at h; simp [h]
    | cons y z =>
      rw [hs] at h ih
      rcases List.mem_cons.1 h with h | h
      · simp [h]
      · exact List.mem_cons_of_mem _ (ih h)

theorem strip_last {l : List Nat} {d : Nat} (h : (strip l).getLast? = some d) : d ≠ 0 := by
  induction l with
  | nil => simp [strip] at h
  | cons x r ih =>
    simp only [strip] at h
    cases hs : strip r with
    | nil =>
      rw [hs] at h
      by_cases hx : x = 0
      · simp [hx] at h
      · simp [hx] at h; omega
    | cons y z =>
      rw [hs] at h ih
      exact ih (by simpa [List.getLast?_cons] using h)

theorem strip_can {b : Nat} {l : List Nat} (h : ∀ d ∈ l, d < b) : can b (strip l) :=
  ⟨fun d hd => h d (strip_mem hd), fun _ hd => strip_last hd⟩

theorem strip_eq_dg {b : Nat} (hb : 2 ≤ b) {l : List Nat} (h : ∀ d ∈ l, d < b) : strip l = dg b (ofd b l) := by
  rw [← ofd_strip, dg_ofd hb _ (strip_can h)]

theorem strip_snoc_zero (l : List Nat) : strip (l ++ [0]) = strip l := by
  induction l with
  | nil => simp [strip]
  | cons d r ih => simp only [List.cons_append, strip, ih]

theorem strip_snoc_pos (l : List Nat) (d : Nat) (hd : d ≠ 0) : strip (l ++ [d]) = l ++ [d] := by
  induction l with
  | nil => simp [strip, hd]
  | cons x r ih =>
    simp only [List.cons_append, strip, ih]
    cases h : r ++ [d] with
    | nil => simp at h
    | cons _ _ => rfl

theorem dg_inj {b : Nat} (hb : 2 ≤ b) {m n : Nat} (h : dg b m = dg b n) : m = n := by
  rw [← ofd_dg hb m, h, ofd_dg hb]

theorem dg_eq_nil {b : Nat} (hb : 2 ≤ b) {n : Nat} : dg b n = [] ↔ n = 0 := by
  constructor
  · intro h; rw [← ofd_dg hb n, h]; rfl
  · intro h; subst h; exact dg_zero b

theorem lt_pow_dg {b : Nat} (hb : 2 ≤ b) (n : Nat) : n < b ^ (dg b n).length := by
  have := ofd_lt _ (dg_lt hb n)
  rwa [ofd_dg hb] at this

theorem dg_len_le {b : Nat} (hb : 2 ≤ b) {k : Nat} : ∀ {n : Nat}, n < b ^ k → (dg b n).length ≤ k := by
  induction k with
  | zero => intro n h; have : n = 0 := by simpa using h
            subst this; simp [dg_zero]
  | succ k ih =>
    intro n h
    by_cases h0 : n = 0
    · subst h0; simp [dg_zero]
    · rw [dg_pos hb (by omega), List.length_cons]
      have : n / b < b ^ k := by
        rw [Nat.div_lt_iff_lt_mul (by omega)]; rwa [Nat.pow_succ] at h
      have := ih this
      omega

theorem dg_get {b : Nat} (hb : 2 ≤ b) : ∀ (k n : Nat), (dg b n).getD k 0 = n / b ^ k % b := by
  intro k
  induction k with
  | zero =>
    intro n
    by_cases h0 : n = 0
    · subst h0; simp [dg_zero]
    · rw [dg_pos hb (by omega)]; simp
  | succ k ih =>
    intro n
    by_cases h0 : n = 0
    · subst h0; simp [dg_zero]
    · rw [dg_pos hb (by omega)]
      have := ih (n / b)
      rw [List.getD_cons_succ, this, Nat.div_div_eq_div_mul, Nat.pow_succ, Nat.mul_comm (b ^ k) b]

theorem mod_pow_succ' (b n k : Nat) : n % b ^ (k + 1) = n % b ^ k + b ^ k * (n / b ^ k % b) := by
  rw [Nat.pow_succ, Nat.mod_mul]

theorem sub_step {a b k X l ak bk d l' : Nat} (h : X + b % 10 ^ k = a % 10 ^ k + l * 10 ^ k) (ha : a / 10 ^ k % 10 = ak) (hb : b / 10 ^ k % 10 = bk) (hd : d + bk + l = ak + 10 * l') :
    X + 10 ^ k * d + b % 10 ^ (k + 1) = a % 10 ^ (k + 1) + l' * 10 ^ (k + 1) := by
  rw [mod_pow_succ', mod_pow_succ', ha, hb, Nat.pow_succ]
  generalize 10 ^ k = p at *
  have e : p * d + p * bk + l * p = p * ak + l' * (p * 10) := by
    have := congrArg (p * ·) hd
    simp only [Nat.mul_add] at this
    rw [Nat.mul_comm l p, this, Nat.mul_comm l' (p * 10), Nat.mul_assoc]
  omega

theorem add_step {a b k X c ak bk d c' : Nat} (h : X + c * 10 ^ k = a % 10 ^ k + b % 10 ^ k) (ha : a / 10 ^ k % 10 = ak) (hb : b / 10 ^ k % 10 = bk) (hd : d + 10 * c' = ak + bk + c) :
    X + 10 ^ k * d + c' * 10 ^ (k + 1) = a % 10 ^ (k + 1) + b % 10 ^ (k + 1) := by
  rw [mod_pow_succ', mod_pow_succ', ha, hb, Nat.pow_succ]
  generalize 10 ^ k = p at *
  have e : p * d + c' * (p * 10) = p * ak + p * bk + c * p := by
    have := congrArg (p * ·) hd
    simp only [Nat.mul_add] at this
    rw [Nat.mul_comm c p, ← this, Nat.mul_comm c' (p * 10), Nat.mul_assoc]
  omega

theorem ofd_set (b : Nat) (l : List Nat) (j v : Nat) (h : j < l.length) : ofd b (l.set j v) + b ^ j * l[j] = ofd b l + b ^ j * v := by
  induction l generalizing j with
  | nil => simp at h
  | cons d r ih =>
    cases j with
    | zero => simp [ofd]; omega
    | succ j =>
      have := ih j (by simpa using h)
      simp only [List.set_cons_succ, ofd, List.getElem_cons_succ]
      have h2 := congrArg (b * ·) this
      simp only [Nat.mul_add] at h2
      rw [Nat.pow_succ, Nat.mul_comm (b ^ j) b, Nat.mul_assoc, Nat.mul_assoc]
      omega

theorem ofd_ge (b : Nat) (l : List Nat) (j : Nat) (h : j < l.length) : b ^ j * l[j] ≤ ofd b l := by
  have := ofd_set b l j 0 h
  omega

/-- one more product is laid -/
theorem mul_step {a b i k X ai bk x : Nat} (ha : a / 10 ^ i % 10 = ai) (hb : b / 10 ^ k % 10 = bk) (h : X = a % 10 ^ i * b + 10 ^ i * (ai * (b % 10 ^ k))) {Y : Nat} (hY : Y + 10 ^ (i + k) * x = X + 10 ^ (i + k) * (x + ai * bk)) :
    Y = a % 10 ^ i * b + 10 ^ i * (ai * (b % 10 ^ (k + 1))) := by
  rw [mod_pow_succ', hb]
  have e : 10 ^ i * (ai * (b % 10 ^ k + 10 ^ k * bk)) = 10 ^ i * (ai * (b % 10 ^ k)) + 10 ^ (i + k) * (ai * bk) := by
    rw [Nat.mul_add, Nat.mul_add, Nat.pow_add]
    congr 1
    simp only [Nat.mul_assoc, Nat.mul_comm, Nat.mul_left_comm]
  rw [Nat.mul_add] at hY
  subst ha
  omega

theorem mul_row {a b i ai : Nat} (ha : a / 10 ^ i % 10 = ai) : a % 10 ^ i * b + 10 ^ i * (ai * b) = a % 10 ^ (i + 1) * b := by
  rw [mod_pow_succ', ha, Nat.add_mul, Nat.mul_assoc]

/-- one carry -/
theorem carry_step {X x y j Y Z : Nat} (hY : Y + 10 ^ (j + 1) * y = X + 10 ^ (j + 1) * (y + x / 10)) (hZ : Z + 10 ^ j * x = Y + 10 ^ j * (x % 10)) : Z = X := by
  have e : 10 ^ j * x = 10 ^ j * (x % 10) + 10 ^ (j + 1) * (x / 10) := by
    rw [Nat.pow_succ, Nat.mul_assoc, ← Nat.mul_add]; congr 1; omega
  rw [Nat.mul_add] at hY
  omega

theorem ofd_snoc (b : Nat) (l : List Nat) (d : Nat) : ofd b (l ++ [d]) = ofd b l + b ^ l.length * d := by
  rw [ofd_append]; simp [ofd]

end Go.Proofs.YtnenoaenjaghhaaDoor.Nt
/- Texts of numbers: no program is named here. -/
namespace Go.Proofs.YtnenoaenjaghhaaDoor
open Go Nt

open Go.RowKit in
theorem hide {p : Prop} (h : p) : Hid p := h
open Go.RowKit in
theorem unhide {p : Prop} (h : Hid p) : p := h

/-- a text of bytes -/
def B (l : List UInt8) : ByteArray := ⟨l.toArray⟩

theorem B_toList (s : ByteArray) : B s.data.toList = s := by cases s; rfl
theorem B_size (l : List UInt8) : (B l).size = l.length := by simp [B, ByteArray.size]
theorem B_data (l : List UInt8) : (B l).data.toList = l := by simp [B]
theorem B_get (l : List UInt8) (k : Nat) (h : k < (B l).size) : (B l)[k] = l[k]'(by rw [B_size] at h; exact h) := by
  simp [B, ByteArray.getElem_eq_getElem_data]
theorem B_extract (l : List UInt8) (i j : Nat) : (B l).extract i j = B ((l.take j).drop i) := by
  apply ByteArray.ext
  simp [B, ByteArray.data_extract, List.extract_toArray]
  simp [List.drop_take]
theorem B_append (l m : List UInt8) : B l ++ B m = B (l ++ m) := by
  apply ByteArray.ext
  simp [B, ByteArray.data_append]
theorem B_inj {l m : List UInt8} : B l = B m ↔ l = m := by
  constructor
  · intro h; have := congrArg (fun s => s.data.toList) h; simpa [B] using this
  · intro h; rw [h]

/-- a digit's sign -/
def sg (d : Nat) : UInt8 := if d < 10 then UInt8.ofNat (48 + d) else UInt8.ofNat (87 + d)

theorem sg_toNat {d : Nat} (h : d < 16) : (sg d).toNat = if d < 10 then 48 + d else 87 + d := by
  unfold sg; split
  · simp [UInt8.toNat_ofNat']; omega
  · simp [UInt8.toNat_ofNat']; omega

theorem sg_inj {c d : Nat} (hc : c < 16) (hd : d < 16) (h : sg c = sg d) : c = d := by
  have := congrArg UInt8.toNat h
  rw [sg_toNat hc, sg_toNat hd] at this
  split at this <;> split at this <;> omega

/-- the signs of a number's digits in a radix, the highest first -/
def txl (b n : Nat) : List UInt8 := if n = 0 then [48] else ((dg b n).map sg).reverse
def txt (b n : Nat) : ByteArray := B (txl b n)
def dec (n : Nat) : ByteArray := txt 10 n

theorem txl_zero (b : Nat) : txl b 0 = [48] := by simp [txl]
theorem txl_pos {b n : Nat} (h : n ≠ 0) : txl b n = ((dg b n).map sg).reverse := by simp [txl, h]
theorem txl_length_pos {b : Nat} (hb : 2 ≤ b) (n : Nat) : 0 < (txl b n).length := by
  by_cases h : n = 0
  · subst h; simp [txl_zero]
  · rw [txl_pos h]; simp only [List.length_reverse, List.length_map]
    rw [dg_pos hb (by omega)]; simp

theorem lt_pow_txl {b : Nat} (hb : 2 ≤ b) (n : Nat) : n < b ^ (txl b n).length := by
  by_cases h : n = 0
  · subst h; simp only [txl_zero, List.length_singleton, Nat.pow_one]; omega
  · rw [txl_pos h]; simp only [List.length_reverse, List.length_map]; exact lt_pow_dg hb n

theorem txl_len_le {b : Nat} (hb : 2 ≤ b) {k n : Nat} (hk : 0 < k) (h : n < b ^ k) : (txl b n).length ≤ k := by
  by_cases h0 : n = 0
  · subst h0; simp only [txl_zero, List.length_singleton]; omega
  · rw [txl_pos h0]; simp only [List.length_reverse, List.length_map]; exact dg_len_le hb h

theorem txl_inj {b : Nat} (hb : 2 ≤ b) (hb16 : b ≤ 16) {m n : Nat} (h : txl b m = txl b n) : m = n := by
  have key : ∀ m, ofd b (((txl b m).reverse).map fun c => if c.toNat < 58 then c.toNat - 48 else c.toNat - 87) = m := by
    intro m
    by_cases h0 : m = 0
    · subst h0; simp [txl_zero, ofd]
    · rw [txl_pos h0, List.reverse_reverse, List.map_map]
      have : (dg b m).map ((fun c : UInt8 => if c.toNat < 58 then c.toNat - 48 else c.toNat - 87) ∘ sg) = (dg b m).map id := by
        apply List.map_congr_left
        intro d hd
        have hd' := dg_lt hb m d hd
        simp only [Function.comp]
        rw [sg_toNat (by omega)]
        split <;> simp <;> omega
      rw [this, List.map_id, ofd_dg hb]
  rw [← key m, h, key]

theorem dec_size_pos (n : Nat) : 0 < (dec n).size := by
  unfold dec txt; rw [B_size]; exact txl_length_pos (by omega) n
theorem dec_inj {m n : Nat} : dec m = dec n ↔ m = n := by
  constructor
  · intro h; exact txl_inj (by omega) (by omega) (B_inj.1 h)
  · intro h; rw [h]

/-- the k-th digit from the right stands there -/
theorem dec_at (n k : Nat) (h : k < (txl 10 n).length) : ((txl 10 n).reverse)[k]'(by simpa using h) = sg (n / 10 ^ k % 10) := by
  by_cases h0 : n = 0
  · subst h0
    have : k = 0 := by simp [txl_zero] at h; omega
    subst this
    simp [txl_zero, sg]
  · have hl : k < (dg 10 n).length := by rw [txl_pos h0] at h; simpa using h
    have e : (txl 10 n).reverse = (dg 10 n).map sg := by rw [txl_pos h0, List.reverse_reverse]
    have g := dg_get (b := 10) (by omega) k n
    rw [List.getD_eq_getElem?_getD, List.getElem?_eq_getElem hl] at g
    simp only [e, List.getElem_map]
    rw [← g]; rfl

theorem dec_above (n k : Nat) (h : (txl 10 n).length ≤ k) : n / 10 ^ k = 0 := by
  apply Nat.div_eq_of_lt
  exact Nat.lt_of_lt_of_le (lt_pow_txl (by omega) n) (Nat.pow_le_pow_right (by omega) h)

/-- noughts ahead are struck, but for a last one -/
def trim : List UInt8 → List UInt8
  | [] => []
  | c :: r => if c = 48 ∧ r ≠ [] then trim r else c :: r

theorem trim_rev (l : List Nat) (h : ∀ d ∈ l, d < 10) (hl : l ≠ []) : trim ((l.map sg).reverse) = txl 10 (ofd 10 l) := by
  -- by induction from the upper end
  have key : ∀ (n : Nat) (l : List Nat), l.length = n → (∀ d ∈ l, d < 10) → l ≠ [] → trim ((l.map sg).reverse) = txl 10 (ofd 10 l) := by
    intro n
    induction n with
    | zero => intro l hn _ hl; exact absurd (List.eq_nil_of_length_eq_zero hn) hl
    | succ n ih =>
      intro l hn hd hl
      have hdec := List.dropLast_concat_getLast hl
      generalize hm : l.dropLast = m at hdec
      generalize hx : l.getLast hl = x at hdec
      have hxl : x < 10 := hd x (by rw [← hdec]; simp)
      have hml : m.length = n := by rw [← hdec] at hn; simpa using hn
      have hmd : ∀ d ∈ m, d < 10 := fun d h => hd d (by rw [← hdec]; simp [h])
      rw [← hdec, List.map_append, List.reverse_append]
      simp only [List.map_cons, List.map_nil, List.reverse_cons, List.reverse_nil, List.nil_append, List.cons_append, trim]
      by_cases hx0 : x = 0
      · subst hx0
        rw [ofd_append]
        simp only [ofd, Nat.mul_zero, Nat.add_zero]
        by_cases hmn : m = []
        · subst hmn; simp [ofd, txl_zero, sg]
        · rw [if_pos ⟨by simp [sg], by simpa using hmn⟩]
          exact ih m hml hmd hmn
      · have hs : sg x ≠ 48 := by
          intro hc
          have := congrArg UInt8.toNat hc
          rw [sg_toNat (by omega), if_pos hxl] at this
          simp at this; omega
        rw [if_neg (fun hh => hs hh.1)]
        have hcan : can 10 (m ++ [x]) := ⟨fun d h => hd d (by rw [← hdec]; exact h), fun d h => by simp at h; omega⟩
        have hpos := ofd_pos_of_can (by omega) _ hcan (by simp)
        rw [txl_pos (by omega), dg_ofd (by omega) _ hcan]
        simp
  exact key l.length l rfl h hl

theorem trim_txl (n : Nat) : trim (txl 10 n) = txl 10 n := by
  by_cases h0 : n = 0
  · subst h0; simp [txl_zero, trim]
  · have := trim_rev (dg 10 n) (dg_lt (by omega) n) (fun h => h0 ((dg_eq_nil (by omega)).1 h))
    rw [ofd_dg (by omega)] at this
    rwa [txl_pos h0] at this ⊢

theorem trim_length (l : List UInt8) : (trim l).length ≤ l.length := by
  induction l with
  | nil => simp [trim]
  | cons c r ih => simp only [trim]; split <;> simp <;> omega

theorem trim_drop (l : List UInt8) (k : Nat) (h : k + 1 < l.length) (hz : l[k]'(by omega) = 48) : trim (l.drop k) = trim (l.drop (k + 1)) := by
  rw [List.drop_eq_getElem_cons (by omega), hz]
  simp only [trim]
  rw [if_pos ⟨by trivial, by simp; omega⟩]

theorem trim_stop (l : List UInt8) (h : l.length ≤ 1 ∨ ∃ c r, l = c :: r ∧ c ≠ 48) : trim l = l := by
  rcases h with h | ⟨c, r, rfl, hc⟩
  · match l, h with
    | [], _ => rfl
    | [c], _ => simp [trim]
  · simp [trim, hc]
end Go.Proofs.YtnenoaenjaghhaaDoor
/- Small laws on memory that every walk of this seat uses: no program is named here. -/
namespace Go.Proofs.YtnenoaenjaghhaaDoor
open Go.RowKit Nt

theorem ret_str {a b : ByteArray} (h : a = b) : Ending.returned (.string a) = .returned (.string b) := by rw [h]
theorem ret_int {k : IntKind} {a b : Int} (h : a = b) : Ending.returned (.int k a) = .returned (.int k b) := by rw [h]
theorem ret_bool {a b : Bool} (h : a = b) : Ending.returned (.bool a) = .returned (.bool b) := by rw [h]

def u8v (c : UInt8) : Value := .int .u8 c.toNat
def ints (l : List Nat) : List Value := l.map fun (d : Nat) => Value.int .i64 (d : Int)

theorem wi64 (x : Int) (h0 : -9223372036854775808 ≤ x) (h1 : x ≤ 9223372036854775807) : IntKind.i64.wrap x = x := by rw [IntKind.wrap_i64]; omega
theorem wu8 (x : Int) (h0 : 0 ≤ x) (h1 : x ≤ 255) : IntKind.u8.wrap x = x := by rw [IntKind.wrap_u8]; omega
theorem wu64 (x : Int) (h0 : 0 ≤ x) (h1 : x ≤ 18446744073709551615) : IntKind.u64.wrap x = x := by rw [IntKind.wrap_u64]; omega

theorem below_of_drew {n : Nat} {a w : World} (h : Below n a.drew w) : Below n a w := ⟨h.os, h.tape, h.output, h.size, h.block⟩

theorem own_below {w w' : World} {base : Nat} {e : TypeId} {size : Nat} {v : Value} {n : Nat} {xs : List Value} (h : w.ownsRow base e size v n xs) (hb : Below w.heap.size w w') :
    w'.ownsRow base e size v n xs := by
  refine ⟨h.1, ?_⟩
  rcases h.2 with hn | ⟨g, cap, cur, rfl, hbg, hgg, rest⟩
  · exact .inl hn
  · exact .inr ⟨g, cap, cur, rfl, hbg, by rw [hb.block g (Array.getElem?_eq_some_iff.1 hgg).1]; exact hgg, rest⟩

theorem own_base {w : World} {base base' : Nat} {e : TypeId} {size : Nat} {v : Value} {n : Nat} {xs : List Value} (h : w.ownsRow base e size v n xs) (hb : base' ≤ base) :
    w.ownsRow base' e size v n xs := by
  refine ⟨h.1, ?_⟩
  rcases h.2 with hn | ⟨g, cap, cur, rfl, hbg, rest⟩
  · exact .inl hn
  · exact .inr ⟨g, cap, cur, rfl, by omega, rest⟩

theorem below_grown {B : Nat} {w w' : World} {v : Value} {e : TypeId} {size n : Nat} {xs : List Value} {a : World} (h : Below B a w) (own : w.ownsRow B e size v n xs) (hg : w.grownBy w' v.ownBlock) (hB : B ≤ w.heap.size) : Below B a w' :=
  h.grown hg hB (fun k hk => (own.lt k hk).1)

theorem dig_snoc {b d : Nat} {xs : List Nat} (h : Hid (∀ x ∈ xs, x < b)) (hd : d < b) : Hid (∀ x ∈ xs ++ [d], x < b) := by
  intro x hx
  rcases List.mem_append.1 hx with h1 | h1
  · exact unhide h x h1
  · simp at h1; omega

theorem run_conv_bytes {P : Program} {w : World} {src dst e : TypeId} {base sz : Nat} {v : Value} {n : Nat} {l : List UInt8}
    (hs : P.underlying src = some (.slice e)) (he : P.underlying e = some (.int .u8)) (hd : P.underlying dst = some .string)
    (h : w.ownsRow base sz 1 v n (l.map u8v)) : (convert src dst v).run P w = .ok (.string (B l)) w := by
  have hl : l.length = n := by simpa using h.1
  have fold : ∀ (ns : List UInt8) (s : ByteArray), (ns.map (fun c => (c.toNat : Int))).foldl (fun r n => r.push (UInt8.ofNat n.toNat)) s = s ++ B ns := by
    intro ns
    induction ns with
    | nil => intro s; apply ByteArray.ext; simp [B, ByteArray.data_append]
    | cons c r ih =>
      intro s
      simp only [List.map_cons, List.foldl_cons, ih]
      apply ByteArray.ext
      simp [B, ByteArray.data_append, ByteArray.data_push]
  have fold0 : (l.map (fun c => (c.toNat : Int))).foldl (fun r n => r.push (UInt8.ofNat n.toNat)) ByteArray.empty = B l := by
    rw [fold]; apply ByteArray.ext; simp
  rcases h.2 with ⟨rfl, hn⟩ | ⟨g, cap, cur, rfl, _, hg, hnc, _, hcs, htake⟩
  · have : l = [] := List.eq_nil_of_length_eq_zero (by omega)
    subst this
    rw [run_convert_bytes_string w src dst e none 0 0 hs he hd]
    rfl
  · rw [run_convert_bytes_string w src dst e _ _ _ hs he hd]
    have hc := h.cells (g := g) rfl
    have hload := run_loadCells_list (P := P) (w := w) ⟨g, 0, none⟩ (l.map u8v) hc
    have e1 : (l.map u8v) = (l.map (fun c => (c.toNat : Int))).map (Value.int .u8) := by simp [u8v, Function.comp]
    rw [List.length_map, hl] at hload
    rw [e1] at hload
    have := run_bytesToString (P := P) w ⟨g, 0, none⟩ n cap (l.map (fun c => (c.toNat : Int))) hload
    rw [this, fold0]

theorem own_cell_some {w : World} {base : Nat} {e : TypeId} {g n cap : Nat} {xs : List Value} (h : w.ownsRow base e 1 (.slice (some ⟨g, 0, none⟩) n cap) n xs) (j : Nat) (hj : j < n) :
    ∃ v, w.cell? ⟨g, j, none⟩ = some v := by
  have hx : xs.length = n := by simpa using h.1
  exact ⟨xs[j], by rw [h.cellAt j (by omega)]; exact List.getElem?_eq_getElem (by omega)⟩

theorem u8v_sg {d : Nat} (h : d < 10) : u8v (sg d) = .int .u8 (48 + (d : Int)) := by
  unfold u8v; rw [sg_toNat (by omega), if_pos h]; simp

theorem ints_snoc (l : List Nat) (d : Nat) : ints l ++ [.int .i64 (d : Int)] = ints (l ++ [d]) := by simp [ints]
end Go.Proofs.YtnenoaenjaghhaaDoor
/- More small laws on memory: no program is named here. -/
namespace Go.Proofs.YtnenoaenjaghhaaDoor
open Go.RowKit Nt

theorem newcell {w w3 : World} {cs : Array Value} {T : TypeId} (h : Below (w.heap.size + 1) (w.alloc (.cells cs T)) w3) (j : Nat) : w3.cell? ⟨w.heap.size, j, none⟩ = cs[j]? := by
  rw [h.cell (p := ⟨w.heap.size, j, none⟩) (Nat.lt_succ_self _)]
  exact World.cell?_alloc_at cs T _ j rfl
theorem newfree {w w3 : World} {cs : Array Value} {T : TypeId} (h : Below (w.heap.size + 1) (w.alloc (.cells cs T)) w3) (j : Nat) : w3.frozen? ⟨w.heap.size, j, none⟩ = false := by
  rw [h.frozen (p := ⟨w.heap.size, j, none⟩) (Nat.lt_succ_self _)]
  exact World.frozen?_alloc_at cs T _ j rfl
theorem below_new {w w3 : World} {o : Obj} (h : Below (w.heap.size + 1) (w.alloc o) w3) : Below w.heap.size w w3 :=
  ((Below.refl _ _).alloc (Nat.le_refl _) _).trans (h.mono (by omega))
theorem below_alloc_size {w w1 : World} {o : Obj} (h : Below (w.alloc o).heap.size (w.alloc o) w1) : Below (w.heap.size + 1) (w.alloc o) w1 := by simpa using h
/-- a chain of calls -/
theorem below_next {B : Nat} {a b c : World} (h : Below B a b) (hB : B ≤ b.heap.size) (k : Below b.heap.size b c) : Below B a c ∧ B ≤ c.heap.size :=
  ⟨h.trans (k.mono hB), Nat.le_trans hB k.size⟩
theorem below_same {B : Nat} {a b : World} (h : Below B a b) : Below B a b := h

def u64s (l : List Nat) : List Value := l.map fun (d : Nat) => Value.int .u64 (d : Int)
theorem u64s_length (l : List Nat) : (u64s l).length = l.length := by simp [u64s]
theorem u64s_get (l : List Nat) (j : Nat) (h : j < l.length) : (u64s l)[j]? = some (.int .u64 (l[j] : Nat)) := by simp [u64s, h]
theorem u64s_set (l : List Nat) (j d : Nat) (v : Int) (h : v = (d : Int)) : (u64s l).set j (.int .u64 v) = u64s (l.set j d) := by rw [h]; simp [u64s, List.map_set]
theorem u64s_zero (n : Nat) : List.replicate n (Value.int .u64 0) = u64s (List.replicate n 0) := by simp [u64s]
theorem u64s_snoc (l : List Nat) (d : Nat) : u64s l ++ [.int .u64 (d : Int)] = u64s (l ++ [d]) := by simp [u64s]

theorem own_take {w : World} {base : Nat} {e : TypeId} {g n cap : Nat} {xs : List Value} (h : w.ownsRow base e 1 (.slice (some ⟨g, 0, none⟩) n cap) n xs) (k : Nat) (hk : k ≤ n) :
    w.ownsRow base e 1 (.slice (some ⟨g, 0, none⟩) k cap) k (xs.take k) := by
  have hx : xs.length = n := by simpa using h.1
  refine ⟨by simp; omega, ?_⟩
  rcases h.2 with ⟨h', _⟩ | ⟨g', cap', cur, h', hb, hg, hnc, hcm, hcs, htake⟩
  · simp at h'
  · simp only [Value.slice.injEq, Option.some.injEq, Addr.mk.injEq, and_true, true_and] at h'
    obtain ⟨rfl, rfl⟩ := h'
    refine .inr ⟨g, cap, cur, rfl, hb, hg, by omega, hcm, hcs, ?_⟩
    rw [← htake, List.take_take]; simp; omega

/-- a slice that is owned: nil, or from a row's head on -/
theorem own_shape {w : World} {base : Nat} {e : TypeId} {v : Value} {n : Nat} {xs : List Value} (h : w.ownsRow base e 1 v n xs) :
    (v = .slice none 0 0 ∧ n = 0 ∧ xs = []) ∨ ∃ g cap, v = .slice (some ⟨g, 0, none⟩) n cap ∧ n ≤ cap ∧ base ≤ g ∧ g < w.heap.size := by
  rcases h.2 with ⟨rfl, hn⟩ | ⟨g, cap, cur, rfl, hb, hg, hnc, _⟩
  · left
    exact ⟨rfl, hn, List.eq_nil_of_length_eq_zero (by have := h.1; omega)⟩
  · right
    exact ⟨g, cap, rfl, hnc, hb, (Array.getElem?_eq_some_iff.1 hg).1⟩

theorem own_slice {w : World} {base : Nat} {e : TypeId} {v : Value} {n : Nat} {xs : List Value} (h : w.ownsRow base e 1 v n xs) : ∃ p cap, v = .slice p n cap := by
  rcases own_shape h with ⟨rfl, rfl, _⟩ | ⟨g, cap, rfl, _⟩
  · exact ⟨_, _, rfl⟩
  · exact ⟨_, _, rfl⟩
/-- .. and where it has an element it stands at a row's head -/
theorem own_some {w : World} {base : Nat} {e : TypeId} {v : Value} {n : Nat} {xs : List Value} (h : w.ownsRow base e 1 v n xs) (hn : 0 < n) :
    ∃ g cap, v = .slice (some ⟨g, 0, none⟩) n cap ∧ n ≤ cap ∧ base ≤ g ∧ g < w.heap.size := by
  rcases own_shape h with ⟨_, rfl, _⟩ | hh
  · omega
  · exact hh

theorem set_all {p : Nat → Prop} {l : List Nat} {j v : Nat} (h : ∀ d ∈ l, p d) (hv : p v) : ∀ d ∈ l.set j v, p d := by
  intro d hd
  rcases List.mem_or_eq_of_mem_set hd with h1 | h1
  · exact h d h1
  · rw [h1]; exact hv

theorem own_block_full {w : World} {base e g n : Nat} {xs : List Value} (h : w.ownsRow base e 1 (.slice (some ⟨g, 0, none⟩) n n) n xs) : w.heap[g]? = some (.cells xs.toArray e (0, 0)) := by
  rcases h.2 with ⟨h', _⟩ | ⟨g', cap', cur, h', hb, hg, hnc, hcm, hcs, htake⟩
  · simp at h'
  · simp only [Value.slice.injEq, Option.some.injEq, Addr.mk.injEq, and_true, true_and] at h'
    obtain ⟨rfl, rfl⟩ := h'
    rw [hg]
    have : cur.toList = xs := by
      rw [← htake, List.take_of_length_le]
      rw [Array.length_toList, hcs]; exact Nat.le_refl _
    rw [← this]
theorem own_of_block_full {w : World} {base e g n : Nat} {xs : List Value} (h : w.heap[g]? = some (.cells xs.toArray e (0, 0))) (hl : xs.length = n) (hn : n ≤ maxLen) (hb : base ≤ g) :
    w.ownsRow base e 1 (.slice (some ⟨g, 0, none⟩) n n) n xs := by
  refine ⟨by omega, .inr ⟨g, n, xs.toArray, rfl, hb, h, Nat.le_refl _, hn, by simp; omega, ?_⟩⟩
  rw [List.take_of_length_le (by simp; omega)]
theorem u64s_one (l : List Nat) : ∀ u ∈ u64s l, u.oneCell' = true := by
  intro u hu
  obtain ⟨d, _, rfl⟩ := List.mem_map.1 hu
  rfl
theorem u64s_append (l m : List Nat) : u64s (l ++ m) = u64s l ++ u64s m := by simp [u64s]
theorem u64s_drop (l : List Nat) (k : Nat) : u64s (l.drop k) = (u64s l).drop k := by simp [u64s, List.map_drop]

theorem wi32 (x : Int) (h0 : -2147483648 ≤ x) (h1 : x ≤ 2147483647) : IntKind.i32.wrap x = x := by rw [IntKind.wrap_i32]; omega
end Go.Proofs.YtnenoaenjaghhaaDoor
/- Characters and lines of a text, plain: what a character is to Go's reader and to the specification; where a line ends. -/
namespace Go.Proofs.YtnenoaenjaghhaaDoor
open Nt

theorem get!_lt (s : ByteArray) (k : Nat) (h : k < s.size) : s.get! k = s[k]'h := by
  cases s with
  | mk d => exact getElem!_pos d k h

/-- the first character -/
theorem dec_facts (s : ByteArray) (h : 0 < s.size) : 1 ≤ (Utf8.decode s 0).2 ∧ (Utf8.decode s 0).2 ≤ s.size ∧
    ((Utf8.decode s 0).1 = 10 → (Utf8.decode s 0).2 = 1 ∧ (s.get! 0).toNat = 10) ∧ ((Utf8.decode s 0).1 ≠ 10 → ∀ i, i < (Utf8.decode s 0).2 → (s.get! i).toNat ≠ 10) := by
  rw [Lib.decode_at]
  simp only [Nat.sub_zero, Nat.zero_add]
  have l0 := (s.get! 0).toNat_lt
  have l1 := (s.get! 1).toNat_lt
  have l2 := (s.get! 2).toNat_lt
  have l3 := (s.get! 3).toNat_lt
  have key : ∀ (n b0 b1 b2 b3 : Nat), 0 < n → b0 < 256 → b1 < 256 → b2 < 256 → b3 < 256 → ∀ d, d = Lib.decodeN n b0 b1 b2 b3 → 1 ≤ d.2 ∧ d.2 ≤ n ∧ d.2 ≤ 4 ∧ (d.1 = 10 → d.2 = 1 ∧ b0 = 10) ∧ (d.1 ≠ 10 → b0 ≠ 10 ∧ (1 < d.2 → b1 ≠ 10) ∧ (2 < d.2 → b2 ≠ 10) ∧ (3 < d.2 → b3 ≠ 10)) := by
    intro n b0 b1 b2 b3 hn h0 h1 h2 h3 d hd
    subst hd
    unfold Lib.decodeN
    repeat' split
    all_goals (refine ⟨?_, ?_, ?_, fun h => ?_, fun h => ⟨?_, fun _ => ?_, fun _ => ?_, fun _ => ?_⟩⟩ <;> dsimp only at * <;> first | omega | exact h)
  obtain ⟨a1, a2, a3, a4, a5⟩ := key _ _ _ _ _ h l0 l1 l2 l3 _ rfl
  refine ⟨a1, a2, a4, fun hne i hi => ?_⟩
  obtain ⟨c0, c1, c2, c3⟩ := a5 hne
  match i, hi with
  | 0, _ => exact c0
  | 1, hi => exact c1 hi
  | 2, hi => exact c2 hi
  | 3, hi => exact c3 hi
  | i + 4, hi => omega

/-- how many bytes the specification gives the first character, none being none -/
abbrev badC (s : ByteArray) : Prop := s.size < 3 ∨ s.extract 0 3 ≠ ⟨#[239, 191, 189]⟩
def sizeM (s : ByteArray) : Nat :=
  if s.size = 0 ∨ (Utf8.decode s 0).1 = 65533 ∧ badC s then 0 else (Utf8.encode ((Utf8.decode s 0).1 : Nat)).size

theorem encode_size (c : Nat) : (Utf8.encode (c : Int)).size = if c < 128 then 1 else if c < 2048 then 2 else if 65536 ≤ c ∧ c ≤ 1114111 then 4 else 3 := by
  unfold Utf8.encode Utf8.valid Utf8.runeError
  simp only [Bool.or_eq_true, Bool.and_eq_true, decide_eq_true_eq, Int.toNat_natCast]
  repeat' split
  all_goals first | rfl | (exfalso; omega)

theorem extract3 (s : ByteArray) (h : 3 ≤ s.size) : s.extract 0 3 = ⟨#[s.get! 0, s.get! 1, s.get! 2]⟩ := by
  apply ByteArray.ext_getElem
  · rw [ByteArray.size_extract]; show _ = 3; omega
  · intro i h1 h2
    have hi : i < 3 := h2
    rw [ByteArray.getElem_extract, ← get!_lt]
    match i, hi with
    | 0, _ => rfl
    | 1, _ => rfl
    | 2, _ => rfl

theorem sizeM_eq (s : ByteArray) (h : 0 < s.size) : (if sizeM s = 0 then 1 else sizeM s) = (Utf8.decode s 0).2 := by
  have he : ∀ a b c : UInt8, ((⟨#[a, b, c]⟩ : ByteArray) = ⟨#[239, 191, 189]⟩) ↔ a.toNat = 239 ∧ b.toNat = 191 ∧ c.toNat = 189 := by
    intro a b c
    simp only [ByteArray.mk.injEq, Array.mk.injEq, List.cons.injEq, and_true, ← UInt8.toNat_inj]
    rfl
  have hx : badC s ↔ ¬ (3 ≤ s.size ∧ (s.get! 0).toNat = 239 ∧ (s.get! 1).toNat = 191 ∧ (s.get! 2).toNat = 189) := by
    unfold badC
    by_cases h3 : 3 ≤ s.size
    · rw [extract3 s h3, Ne, he]
      constructor
      · rintro (h | h)
        · omega
        · exact fun k => h k.2
      · exact fun k => .inr fun m => k ⟨h3, m⟩
    · constructor
      · exact fun _ k => h3 k.1
      · exact fun _ => .inl (by omega)
  unfold sizeM
  simp only [hx, encode_size]
  have l0 := (s.get! 0).toNat_lt
  have l1 := (s.get! 1).toNat_lt
  have l2 := (s.get! 2).toNat_lt
  have l3 := (s.get! 3).toNat_lt
  have key : ∀ (n b0 b1 b2 b3 : Nat), 0 < n → b0 < 256 → b1 < 256 → b2 < 256 → b3 < 256 → ∀ d, d = Lib.decodeN n b0 b1 b2 b3 →
      (if (if n = 0 ∨ d.1 = 65533 ∧ ¬ (3 ≤ n ∧ b0 = 239 ∧ b1 = 191 ∧ b2 = 189) then 0 else (if d.1 < 128 then 1 else if d.1 < 2048 then 2 else if 65536 ≤ d.1 ∧ d.1 ≤ 1114111 then 4 else 3)) = 0 then 1
        else (if n = 0 ∨ d.1 = 65533 ∧ ¬ (3 ≤ n ∧ b0 = 239 ∧ b1 = 191 ∧ b2 = 189) then 0 else (if d.1 < 128 then 1 else if d.1 < 2048 then 2 else if 65536 ≤ d.1 ∧ d.1 ≤ 1114111 then 4 else 3))) = d.2 := by
    intro n b0 b1 b2 b3 hn h0 h1 h2 h3 d hd
    have hd' : d = (d.1, d.2) := rfl
    generalize hu : d.1 = u at hd' ⊢
    generalize hv : d.2 = v at hd' ⊢
    rw [hd'] at hd
    clear hu hv hd'
    unfold Lib.decodeN at hd
    repeat' split at hd
    all_goals (simp only [Prod.mk.injEq] at hd; obtain ⟨e1, e2⟩ := hd; repeat' split)
    all_goals omega
  exact key _ _ _ _ _ h l0 l1 l2 l3 _ (by rw [Lib.decode_at]; simp only [Nat.sub_zero, Nat.zero_add])

/-- the line from a place on ends here -/
structure IsLine (t : ByteArray) (p j : Nat) : Prop where
  lo : p ≤ j
  hi : j ≤ t.size
  no : ∀ i, p ≤ i → i < j → (t.get! i).toNat ≠ 10
  nl : j < t.size → (t.get! j).toNat = 10
theorem IsLine.one {t : ByteArray} {p j k : Nat} (h : IsLine t p j) (m : IsLine t p k) : j = k := by
  rcases Nat.lt_trichotomy j k with c | c | c
  · exact absurd (h.nl (by have := m.hi; omega)) (m.no j h.lo c)
  · exact c
  · exact absurd (m.nl (by have := h.hi; omega)) (h.no k m.lo c)

theorem isLine_ex (t : ByteArray) : ∀ (n p : Nat), p ≤ t.size → t.size - p = n → ∃ j, IsLine t p j
  | 0, p, h, e => ⟨p, Nat.le_refl _, h, fun i h1 h2 => by omega, fun h => by omega⟩
  | n + 1, p, h, e => by
    by_cases h10 : (t.get! p).toNat = 10
    · exact ⟨p, Nat.le_refl _, h, fun i h1 h2 => by omega, fun _ => h10⟩
    · obtain ⟨j, h1, h2, h3, h4⟩ := isLine_ex t n (p + 1) (by omega) (by omega)
      refine ⟨j, by omega, h2, fun i a b => ?_, h4⟩
      by_cases hi : i = p
      · subst hi; exact h10
      · exact h3 i (by omega) b

theorem ext_get (t : ByteArray) (p i : Nat) (h : p + i < t.size) : (t.extract p t.size).get! i = t.get! (p + i) := by
  have hs : (t.extract p t.size).size = t.size - p := by simp
  rw [get!_lt _ i (by rw [hs]; omega), get!_lt _ (p + i) h]
  exact ByteArray.getElem_extract ..
theorem IsLine.lift {t : ByteArray} {p k : Nat} (hp : p ≤ t.size) (h : IsLine (t.extract p t.size) 0 k) : IsLine t p (p + k) := by
  have hs : (t.extract p t.size).size = t.size - p := by simp
  have hk := h.hi
  rw [hs] at hk
  refine ⟨by omega, by omega, fun i h1 h2 => ?_, fun h1 => ?_⟩
  · have := h.no (i - p) (by omega) (by omega)
    rwa [ext_get t p (i - p) (by omega), show p + (i - p) = i by omega] at this
  · have := h.nl (by rw [hs]; omega)
    rwa [ext_get t p k (by omega)] at this
theorem ext_ext (t : ByteArray) (p k : Nat) (h : p + k ≤ t.size) : (t.extract p t.size).extract 0 k = t.extract p (p + k) := by
  rw [ByteArray.extract_extract]
  congr 1
  omega
end Go.Proofs.YtnenoaenjaghhaaDoor
/- Generic words on memory: boxes of two cells; what only blocks of a set have turned. No program is named here. -/
namespace Go.Proofs.YtnenoaenjaghhaaDoor
open Go.RowKit Nt

/-- a box of two cells -/
def AtC2 (w : World) (b : Nat) (x y : Value) (T : TypeId) : Prop := w.heap[b]? = some (.cells #[x, y] T (0, 0))
theorem AtC2.lt {w : World} {b : Nat} {x y : Value} {T : TypeId} (h : AtC2 w b x y T) : b < w.heap.size := (Array.getElem?_eq_some_iff.1 h).1
theorem AtC2.new (w : World) (x y : Value) (T : TypeId) : AtC2 (w.alloc (.cells #[x, y] T)) w.heap.size x y T := by
  show (w.heap.push _)[w.heap.size]? = _; rw [Array.getElem?_push, if_pos rfl]
theorem AtC2.below {w w' : World} {b : Nat} {x y : Value} {T : TypeId} (h : AtC2 w b x y T) (k : Below w.heap.size w w') : AtC2 w' b x y T := (k.block b h.lt).trans h
theorem AtC2.n0 {w : World} {b : Nat} {x y : Value} {T : TypeId} (h : AtC2 w b x y T) : w.cell? ⟨b, 0, none⟩ = some x := by unfold AtC2 at h; simp [World.cell?, h]
theorem AtC2.n1 {w : World} {b : Nat} {x y : Value} {T : TypeId} (h : AtC2 w b x y T) : w.cell? ⟨b, 1, none⟩ = some y := by unfold AtC2 at h; simp [World.cell?, h]
theorem AtC2.f {w : World} {b : Nat} {x y : Value} {T : TypeId} (h : AtC2 w b x y T) (j : Nat) : w.frozen? ⟨b, j, none⟩ = false := by unfold AtC2 at h; simp [World.frozen?, h]

theorem AtC2.far {w : World} {b : Nat} {x y : Value} {T : TypeId} (h : AtC2 w b x y T) {a : Addr} (ha : a.block ≠ b) (u : Value) : AtC2 (w.setCell a u) b x y T := by
  unfold AtC2
  obtain ⟨g, o, sp⟩ := a
  rw [Below.heap_setCell _ _ _ _ (Ne.symm ha)]
  exact h
theorem AtC2.st0 {w : World} {b : Nat} {x y : Value} {T : TypeId} (h : AtC2 w b x y T) (u : Value) : AtC2 (w.setCell ⟨b, 0, none⟩ u) b u y T := by
  show (w.heap.modify b _)[b]? = _
  rw [Array.getElem?_modify, if_pos rfl, show w.heap[b]? = _ from h]; rfl

theorem AtC2.st1 {w : World} {b : Nat} {x y : Value} {T : TypeId} (h : AtC2 w b x y T) (u : Value) : AtC2 (w.setCell ⟨b, 1, none⟩ u) b x u T := by
  show (w.heap.modify b _)[b]? = _
  rw [Array.getElem?_modify, if_pos rfl, show w.heap[b]? = _ from h]; rfl
theorem step_b {a w w' : World} (h : Below a.heap.size a w) (hb : Below w.heap.size w w') : Below a.heap.size a w' := h.trans (hb.mono h.size)
theorem step_a {a w : World} (h : Below a.heap.size a w) (o : Obj) : Below a.heap.size a (w.alloc o) := h.alloc h.size o

/-- only blocks of a set were written -/
structure Kept (S : Nat → Prop) (w w' : World) : Prop where
  os : w'.os = w.os
  tape : w'.tape = w.tape
  output : w'.output = w.output
  size : w.heap.size ≤ w'.heap.size
  block : ∀ b, b < w.heap.size → ¬ S b → w'.heap[b]? = w.heap[b]?
theorem Kept.refl (S : Nat → Prop) (w : World) : Kept S w w := ⟨rfl, rfl, rfl, Nat.le_refl _, fun _ _ _ => rfl⟩
theorem Kept.trans {S : Nat → Prop} {w w' w'' : World} (h : Kept S w w') (k : Kept S w' w'') : Kept S w w'' :=
  ⟨k.os.trans h.os, k.tape.trans h.tape, k.output.trans h.output, Nat.le_trans h.size k.size, fun b hb ho => (k.block b (Nat.lt_of_lt_of_le hb h.size) ho).trans (h.block b hb ho)⟩
theorem Kept.of_below {S : Nat → Prop} {w w' : World} (h : Below w.heap.size w w') : Kept S w w' := ⟨h.os, h.tape, h.output, h.size, fun b hb _ => h.block b hb⟩
theorem Kept.of_grown {S : Nat → Prop} {w w' : World} {row : Option Nat} (h : w.grownBy w' row) (hr : ∀ i, row = some i → S i) : Kept S w w' :=
  ⟨h.os, h.tape, h.output, h.size, fun b hb ho => h.block b hb (fun e => ho (hr b e.symm))⟩
theorem Kept.set {S : Nat → Prop} {w : World} {a : Addr} (h : S a.block) (u : Value) : Kept S w (w.setCell a u) :=
  ⟨rfl, rfl, rfl, by simp, fun b _ ho => heap_setCell_other w a b u (fun e => ho (by rw [e]; exact h))⟩
theorem Kept.mono {S S' : Nat → Prop} {w w' : World} (h : Kept S w w') (hs : ∀ b, S b → S' b) : Kept S' w w' := ⟨h.os, h.tape, h.output, h.size, fun b hb ho => h.block b hb (fun e => ho (hs b e))⟩
/-- what lies below base is as it was -/
theorem Kept.below {S : Nat → Prop} {base : Nat} {w w' : World} (h : Kept S w w') (hb : base ≤ w.heap.size) (hs : ∀ b, S b → base ≤ b) : Below base w w' :=
  ⟨h.os, h.tape, h.output, h.size, fun b hlt => h.block b (by omega) (fun e => by have := hs b e; omega)⟩

theorem AtC2.kept {S : Nat → Prop} {w w' : World} {b : Nat} {x y : Value} {T : TypeId} (h : AtC2 w b x y T) (k : Kept S w w') (hb : ¬ S b) : AtC2 w' b x y T := (k.block b h.lt hb).trans h
theorem AtC2.alloc {w : World} {b : Nat} {x y : Value} {T : TypeId} (h : AtC2 w b x y T) (o : Obj) : AtC2 (w.alloc o) b x y T := h.below ((Below.refl _ _).alloc (Nat.le_refl _) o)
theorem drewN_below (w : World) (n : Nat) : Below w.heap.size w (w.drewN n) := by
  induction n with
  | zero => exact Below.refl _ _
  | succ n ih => exact ih.drew
end Go.Proofs.YtnenoaenjaghhaaDoor
/- Contracts of Go's library at this program: as the kit's lay-shelf.mjs and lay-plain.mjs print them (the numbers are this seat's: lay anew at another). -/
namespace Go.Proofs.YtnenoaenjaghhaaDoor
open Go.Shelf
def Tryd.laysM316_ren : Go.Shelf.Ren := ⟨fun | 316 => 29 | n => n, fun | 9 => 9 | 3 => 3 | 4 => 4 | 37 => 22 | 0 => 0 | 127 => 73 | 5 => 5 | n => n, fun | n => n⟩
theorem Tryd.laysM316 : Go.Proofs.LaysM.n316 Tryd.prog Tryd.laysM316_ren := {
  mixed := by kernel_rfl
  f316 := Tryd.func29.trans (congrArg some (by kernel_rfl))
  t0 := Tryd.underlying0
  a0 := Tryd.isAgg0
  z0 := Tryd.sizeOf0
  v0 := Tryd.zeroValue0
  t3 := Tryd.underlying3
  a3 := Tryd.isAgg3
  z3 := Tryd.sizeOf3
  v3 := Tryd.zeroValue3
  t4 := Tryd.underlying4
  a4 := Tryd.isAgg4
  z4 := Tryd.sizeOf4
  v4 := Tryd.zeroValue4
  t9 := Tryd.underlying9
  a9 := Tryd.isAgg9
  z9 := Tryd.sizeOf9
  v9 := Tryd.zeroValue9
  t37 := Tryd.underlying22
  a37 := Tryd.isAgg22
  z37 := Tryd.sizeOf22
  v37 := Tryd.zeroValue22
  t127 := Tryd.underlying73
  a127 := Tryd.isAgg73
  z127 := Tryd.sizeOf73
  v127 := Tryd.zeroValue73
  t5 := Tryd.underlying5
  a5 := Tryd.isAgg5
  z5 := Tryd.sizeOf5
  v5 := Tryd.zeroValue5
  i0 := by kernel_rfl
  i3 := by kernel_rfl
  i4 := by kernel_rfl
  i5 := by kernel_rfl
  i9 := by kernel_rfl
  i37 := by kernel_rfl
  i127 := by kernel_rfl }
open Go.RowKit in
/-- internal/stringslite.Clone (what strings.Clone calls): "Clone returns a fresh copy of s.": THE SAME BYTES. Of what was there nothing has turned (a new row is laid, and frozen, where s is not empty). (LAID: no walk: one application.) -/
theorem Tryd.stringslite_Clone (s : ByteArray) (w : World) (hlim : s.size ≤ 281474976710656) :
    Calls Tryd.prog 29 #[.string s] w fun e w' => e = .returned (.string s) ∧ Below w.heap.size w w' := Any.stringslite_Clone Tryd.laysM316 s w hlim
def Tryd.lays260_ren : Go.Shelf.Ren := ⟨fun | 260 => 36 | n => n, fun | 9 => 9 | 21 => 21 | 3 => 3 | 4 => 4 | 5 => 5 | 119 => 78 | 0 => 0 | 46 => 79 | 139 => 82 | 138 => 81 | n => n, fun | 3 => 0 | 4 => 1 | n => n⟩
theorem Tryd.lays260 : Go.Proofs.Lays.n260 Tryd.prog Tryd.lays260_ren := {
  mixed := by kernel_rfl
  f260 := Tryd.func36.trans (congrArg some (by kernel_rfl))
  t0 := Tryd.underlying0
  a0 := Tryd.isAgg0
  z0 := Tryd.sizeOf0
  v0 := Tryd.zeroValue0
  t3 := Tryd.underlying3
  a3 := Tryd.isAgg3
  z3 := Tryd.sizeOf3
  v3 := Tryd.zeroValue3
  t4 := Tryd.underlying4
  a4 := Tryd.isAgg4
  z4 := Tryd.sizeOf4
  v4 := Tryd.zeroValue4
  t5 := Tryd.underlying5
  a5 := Tryd.isAgg5
  z5 := Tryd.sizeOf5
  v5 := Tryd.zeroValue5
  t9 := Tryd.underlying9
  a9 := Tryd.isAgg9
  z9 := Tryd.sizeOf9
  v9 := Tryd.zeroValue9
  t21 := Tryd.underlying21
  a21 := Tryd.isAgg21
  z21 := Tryd.sizeOf21
  v21 := Tryd.zeroValue21
  t46 := Tryd.underlying79
  a46 := Tryd.isAgg79
  z46 := Tryd.sizeOf79
  v46 := Tryd.zeroValue79
  t119 := Tryd.underlying78
  a119 := Tryd.isAgg78
  z119 := Tryd.sizeOf78
  t138 := Tryd.underlying81
  a138 := Tryd.isAgg81
  z138 := Tryd.sizeOf81
  v138 := Tryd.zeroValue81
  t139 := Tryd.underlying82
  a139 := Tryd.isAgg82
  z139 := Tryd.sizeOf82
  v139 := Tryd.zeroValue82
  g3 := by kernel_rfl
  g4 := by kernel_rfl }
open Go.RowKit Go.Lib in
theorem Tryd.utf8_decodeRuneInStringSlow (s : ByteArray) (w : World) (hT : Lib.Utf8Tabs 0 1 w) :
    Calls Tryd.prog 36 #[.string s] w fun e w' => e = .returned (.tuple #[.int .i32 (Lib.decodeGo s).1, .int .i64 (Lib.decodeGo s).2]) ∧ Below w.heap.size w w' := Any.utf8_decodeRuneInStringSlow Tryd.lays260 s w hT
def Tryd.lays197_ren : Go.Shelf.Ren := ⟨fun | 197 => 27 | 260 => 36 | n => n, fun | 9 => 9 | 21 => 21 | 3 => 3 | 4 => 4 | 5 => 5 | 105 => 62 | 119 => 78 | 0 => 0 | 46 => 79 | 139 => 82 | 138 => 81 | n => n, fun | 3 => 0 | 4 => 1 | n => n⟩
theorem Tryd.lays197 : Go.Proofs.Lays.n197 Tryd.prog Tryd.lays197_ren := {
  mixed := by kernel_rfl
  f197 := Tryd.func27.trans (congrArg some (by kernel_rfl))
  f260 := Tryd.func36.trans (congrArg some (by kernel_rfl))
  t0 := Tryd.underlying0
  a0 := Tryd.isAgg0
  z0 := Tryd.sizeOf0
  v0 := Tryd.zeroValue0
  t3 := Tryd.underlying3
  a3 := Tryd.isAgg3
  z3 := Tryd.sizeOf3
  v3 := Tryd.zeroValue3
  t4 := Tryd.underlying4
  a4 := Tryd.isAgg4
  z4 := Tryd.sizeOf4
  v4 := Tryd.zeroValue4
  t5 := Tryd.underlying5
  a5 := Tryd.isAgg5
  z5 := Tryd.sizeOf5
  v5 := Tryd.zeroValue5
  t9 := Tryd.underlying9
  a9 := Tryd.isAgg9
  z9 := Tryd.sizeOf9
  v9 := Tryd.zeroValue9
  t21 := Tryd.underlying21
  a21 := Tryd.isAgg21
  z21 := Tryd.sizeOf21
  v21 := Tryd.zeroValue21
  t46 := Tryd.underlying79
  a46 := Tryd.isAgg79
  z46 := Tryd.sizeOf79
  v46 := Tryd.zeroValue79
  t105 := Tryd.underlying62
  a105 := Tryd.isAgg62
  z105 := Tryd.sizeOf62
  v105 := Tryd.zeroValue62
  t119 := Tryd.underlying78
  a119 := Tryd.isAgg78
  z119 := Tryd.sizeOf78
  t138 := Tryd.underlying81
  a138 := Tryd.isAgg81
  z138 := Tryd.sizeOf81
  v138 := Tryd.zeroValue81
  t139 := Tryd.underlying82
  a139 := Tryd.isAgg82
  z139 := Tryd.sizeOf82
  v139 := Tryd.zeroValue82
  g3 := by kernel_rfl
  g4 := by kernel_rfl }
open Go.RowKit Go.Lib in
/-- **unicode/utf8.DecodeRuneInString AT EVERY STRING.** (LAID: no walk: one application.) -/
theorem Tryd.utf8_DecodeRuneInString (s : ByteArray) (w : World) (hT : Lib.Utf8Tabs 0 1 w) :
    Calls Tryd.prog 27 #[.string s] w fun e w' => e = .returned (.tuple #[.int .i32 (Lib.decodeGo s).1, .int .i64 (Lib.decodeGo s).2]) ∧ Below w.heap.size w w' := Any.utf8_DecodeRuneInString Tryd.lays197 s w hT
end Go.Proofs.YtnenoaenjaghhaaDoor
/- The program's reader of a port: where it is, what is left, the next character. -/
namespace Go.Proofs.YtnenoaenjaghhaaDoor
open Go.RowKit Nt

/-- the two tables of utf8 -/
def Tabs (w : World) : Prop := Lib.Utf8Tabs 0 1 w
theorem Tabs.below {B : Nat} {w w' : World} (h : Tabs w) (hB : 1 < B) (k : Below B w w') : Tabs w' := by
  refine ⟨fun c hc => ?_, fun i hi => ⟨?_, ?_⟩⟩
  · exact (k.cell (p := ⟨_, c, none⟩) (by show 0 < B; omega)).trans (h.1 c hc)
  · exact (k.cell (p := ⟨_, 2 * i, none⟩) (by show 1 < B; omega)).trans (h.2 i hi).1
  · exact (k.cell (p := ⟨_, 2 * i + 1, none⟩) (by show 1 < B; omega)).trans (h.2 i hi).2
/-- a reader of a text, at a place -/
def Reader (w : World) (b a : Nat) (t : ByteArray) : Prop := AtC2 w b (.int .i64 a) (.string t) 45

theorem left_c (b a : Nat) (t : ByteArray) (w : World) (ha : a ≤ t.size) (hb : Reader w b a t) :
    Calls Tryd.prog 28 #[.pointer (some ⟨b, 0, none⟩)] w fun e w' => e = .returned (.string (t.extract a t.size)) ∧ Below w.heap.size w w' := by
  have d0 := AtC2.n0 hb
  have d1 := AtC2.n1 hb
  have h1 : ¬ ((t.size : Int) < a) := by omega
  have h2 : ¬ ((a : Int) < 0) := by omega
  have HB := hide (drewN_below w)
  clear hb
  go_enter Tryd.func28, Tryd.ntmps28
  go_wp2
  go_quiet (fail)
  go_wp2
  go_ret
  exact ⟨rfl, unhide HB _⟩

theorem isAtEnd_c (b a : Nat) (t : ByteArray) (w : World) (hb : Reader w b a t) :
    Calls Tryd.prog 32 #[.pointer (some ⟨b, 0, none⟩)] w fun e w' => e = .returned (.bool (decide (a = t.size))) ∧ Below w.heap.size w w' := by
  have d0 := AtC2.n0 hb
  have d1 := AtC2.n1 hb
  have HB := hide (drewN_below w)
  have HE : Hid (((a : Int) == (t.size : Int)) = decide (a = t.size)) := hide (by
    rw [Bool.eq_iff_iff]; simp; omega)
  clear hb
  go_enter Tryd.func32, Tryd.ntmps32
  go_wp2
  go_quiet (fail)
  go_wp2
  go_ret
  exact ⟨ret_bool (unhide HE), unhide HB _⟩

set_option maxHeartbeats 1000000 in
theorem next_c (b a : Nat) (t : ByteArray) (w : World) (ht : t.size ≤ 1048576) (ha : a ≤ t.size) (hb : Reader w b a t) (hT : Tabs w) (h1 : 1 < w.heap.size) :
    Calls Tryd.prog 17 #[.pointer (some ⟨b, 0, none⟩)] w fun e w' => e = .returned (.int .i32 (Lib.decodeGo (t.extract a t.size)).1) ∧ Reader w' b (a + (Lib.decodeGo (t.extract a t.size)).2) t ∧ Kept (· = b) w w' := by
  have HR := hide hb
  have HT := hide hT
  have hz : (t.extract a t.size).size = t.size - a := by simp
  have hw : (Lib.decodeGo (t.extract a t.size)).2 ≤ t.size - a := by
    unfold Lib.decodeGo
    by_cases h0 : (t.extract a t.size).size = 0
    · rw [if_pos h0]; exact Nat.zero_le _
    · rw [if_neg h0]; have := (dec_facts _ (by omega : 0 < (t.extract a t.size).size)).2.1; omega
  obtain ⟨r, hr⟩ : ∃ r, t.extract a t.size = r := ⟨_, rfl⟩
  have HL := hide (left_c b a t w ha hb)
  rw [hr] at hw HL ⊢
  have HC := hide (fun w1 h => Tryd.utf8_DecodeRuneInString r w1 h)
  obtain ⟨k, hk⟩ : ∃ k, (Lib.decodeGo r).2 = k := ⟨_, rfl⟩
  rw [hk] at hw HC ⊢
  clear hb hT hz hr hk
  go_enter Tryd.func17, Tryd.ntmps17
  go_wp2_with fail
  refine (unhide HL).mono ?_
  rintro e w1 ⟨rfl, hb1⟩
  have HR1 := hide (AtC2.below (unhide HR) hb1)
  have HT1 := hide ((unhide HT).below h1 hb1)
  have HB1 := hide hb1
  clear hb1 HL
  go_wp2_with fail
  refine (unhide HC w1 (unhide HT1)).mono ?_
  rintro e w2 ⟨rfl, hb2⟩
  have HR2 := hide (AtC2.below (unhide HR1) hb2)
  have HB2 := hide (step_b (unhide HB1) hb2)
  have d0 := AtC2.n0 (unhide HR2)
  have f0 := AtC2.f (unhide HR2) 0
  have HE : Hid (∀ k : Nat, (a : Int) + (k : Int) = ((a + k : Nat) : Int)) := hide (fun k => by omega)
  clear hb2 HR1 HT1 HB1
  go_wp2
  go_ret
  refine ⟨rfl, ?_, ?_⟩
  · have := AtC2.st0 (unhide HR2) (.int .i64 ((a + k : Nat) : Int))
    rw [← unhide HE] at this
    exact this
  · exact (Kept.of_below (unhide HB2)).trans (Kept.set (S := (· = b)) (a := ⟨b, 0, none⟩) rfl _)
end Go.Proofs.YtnenoaenjaghhaaDoor
/- The program's ports: a reader of a port, and the port of a reader. -/
namespace Go.Proofs.YtnenoaenjaghhaaDoor
open Go.RowKit Nt

theorem clone_c (t : ByteArray) (w : World) (ht : t.size ≤ 1048576) :
    Calls Tryd.prog 18 #[.string t] w fun e w' => e = .returned (.string t) ∧ Below w.heap.size w w' := by
  have HC := hide (Tryd.stringslite_Clone t w (by omega))
  go_enter Tryd.func18, Tryd.ntmps18
  go_wp2_with fail
  refine (unhide HC).mono ?_
  rintro e w1 ⟨rfl, hb1⟩
  have HB := hide hb1
  clear hb1
  go_wp2
  go_ret
  exact ⟨rfl, unhide HB⟩

theorem ret_pb {v : Value} {a b : Bool} (h : a = b) : Ending.returned (.tuple #[v, .bool a]) = .returned (.tuple #[v, .bool b]) := by rw [h]
theorem readerOf_c (t : ByteArray) (p : Int) (w : World) :
    Calls Tryd.prog 16 #[.agg #[.string t, .int .i64 p]] w fun e w' => e = .returned (.tuple #[.pointer (some ⟨w.heap.size + 1, 0, none⟩), .bool (decide (0 ≤ p ∧ p ≤ t.size))]) ∧ AtC2 w' (w.heap.size + 1) (.int .i64 p) (.string t) 45 ∧ Below w.heap.size w w' := by
  have HW := hide (step_a (step_a (Below.refl w.heap.size w) (.cells #[.string t, .int .i64 p] 24)) (.cells #[.int .i64 p, .string t] 45))
  have HN := hide (AtC2.new (w.alloc (.cells #[.string t, .int .i64 p] 24)) (.int .i64 p) (.string t) 45)
  rw [World.size_alloc] at HN
  have HD := hide (drewN_below ((w.alloc (.cells #[.string t, .int .i64 p] 24)).alloc (.cells #[.int .i64 p, .string t] 45)))
  by_cases h0 : 0 ≤ p
  · have HE : Hid (decide (p ≤ t.size) = decide (0 ≤ p ∧ p ≤ t.size)) := hide (by simp [h0])
    go_enter Tryd.func16, Tryd.ntmps16
    go_wp2
    go_quiet (fail)
    go_wp2
    go_ret2
    exact ⟨ret_pb (unhide HE), AtC2.below (unhide HN) (unhide HD _), step_b (unhide HW) (unhide HD _)⟩
  · have hd : decide (0 ≤ p) = false := by simpa using h0
    have HE : Hid (decide (0 ≤ p ∧ p ≤ t.size) = false) := hide (by simp [h0])
    go_enter Tryd.func16, Tryd.ntmps16
    go_wp2
    go_quiet (fail)
    go_wp2
    go_ret2
    exact ⟨ret_pb (unhide HE).symm, AtC2.below (unhide HN) (unhide HD _), step_b (unhide HW) (unhide HD _)⟩

set_option maxHeartbeats 1000000 in
theorem port_c (b a : Nat) (t : ByteArray) (w : World) (ht : t.size ≤ 1048576) (hb : Reader w b a t) :
    Calls Tryd.prog 19 #[.pointer (some ⟨b, 0, none⟩)] w fun e w' => e = .returned (.agg #[.string t, .int .i64 a]) ∧ Below w.heap.size w w' := by
  have HR1 := hide (AtC2.alloc hb (.cells #[.string ⟨#[]⟩, .int .i64 0] 24))
  have HP1 := hide (AtC2.new w (.string ⟨#[]⟩) (.int .i64 0) 24)
  have HB1 := hide (step_a (Below.refl w.heap.size w) (.cells #[.string ⟨#[]⟩, .int .i64 0] 24))
  clear hb
  go_enter Tryd.func19, Tryd.ntmps19
  go_wp2_with fail
  obtain ⟨W, hW⟩ : ∃ W, w.alloc (.cells #[.string ⟨#[]⟩, .int .i64 0] 24) = W := ⟨_, rfl⟩
  rw [hW] at HR1 HP1 HB1 ⊢
  clear hW
  have d0 := AtC2.n0 (unhide HR1)
  have d1 := AtC2.n1 (unhide HR1)
  have p0 := AtC2.f (unhide HP1) 0
  go_region_with ((go_at_call 18; refine (clone_c t _ ht).mono ?_; rintro e w1 ⟨rfl, hb1⟩; have HB2 : Hid (Below W.heap.size W w1) := (Below.refl _ _).drew.trans hb1; have e0 := AtC2.n0 ((unhide HR1).below (unhide HB2)); have e1 := AtC2.n1 ((unhide HR1).below (unhide HB2)); have HP2 := hide ((unhide HP1).below (unhide HB2)); have q0 := AtC2.f (unhide HP2) 0; have q1 := AtC2.f (unhide HP2) 1; have q2 := AtC2.n0 (unhide HP2); have q3 := AtC2.n1 (unhide HP2); clear hb1))
  all_goals
    have HS := hide (((unhide HP2).st0 (.string t)).st1 (.int .i64 a))
    have s0 := AtC2.n0 (unhide HS)
    have s1 := AtC2.n1 (unhide HS)
    have HZ := hide ((((unhide HB1).trans ((unhide HB2).mono (unhide HB1).size)).setCell (p := ⟨w.heap.size, 0, none⟩) (Nat.le_refl _) (.string t)).setCell (p := ⟨w.heap.size, 1, none⟩) (Nat.le_refl _) (.int .i64 a))
    go_wp2
    refine bodyPost_ret (v := .agg #[.string t, .int .i64 a]) (by simp [results, Tryd.results19, go_sem, s0, s1]) rfl ⟨rfl, ?_⟩
    exact unhide HZ
end Go.Proofs.YtnenoaenjaghhaaDoor
/- The specification's lines and characters of a port. -/
namespace Go.Proofs.YtnenoaenjaghhaaDoor
open Go.RowKit Nt

theorem l23Ok_c (t : ByteArray) (p : Int) (w : World) :
    Calls Tryd.prog 20 #[.agg #[.string t, .int .i64 p]] w fun e w' => e = .returned (.bool (decide (0 ≤ p ∧ p ≤ t.size))) ∧ Below w.heap.size w w' := by
  have HW := hide (step_a (Below.refl w.heap.size w) (.cells #[.string t, .int .i64 p] 24))
  by_cases h0 : 0 ≤ p
  · by_cases h1 : p ≤ t.size
    · have HE : Hid (decide (0 ≤ p ∧ p ≤ (t.size : Int)) = true) := hide (by simp [h0, h1])
      go_enter Tryd.func20, Tryd.ntmps20
      go_wp2
      go_ret
      exact ⟨ret_bool (by first | exact (unhide HE).symm | (simp; done) | (simp; omega)), unhide HW⟩
    · have HE : Hid (decide (0 ≤ p ∧ p ≤ (t.size : Int)) = false) := hide (by simp; omega)
      go_enter Tryd.func20, Tryd.ntmps20
      go_wp2
      go_ret
      exact ⟨ret_bool (by first | exact (unhide HE).symm | (simp; done) | (simp; omega)), unhide HW⟩
  · have HE : Hid (decide (0 ≤ p ∧ p ≤ (t.size : Int)) = false) := hide (by simp; omega)
    go_enter Tryd.func20, Tryd.ntmps20
    go_wp2
    go_ret
    exact ⟨ret_bool (by first | exact (unhide HE).symm | (simp; done) | (simp; omega)), unhide HW⟩

set_option maxHeartbeats 1000000 in
theorem l11Line_c (s : ByteArray) (j : Nat) (w : World) (hs : s.size ≤ 1048576) (hj : IsLine s 0 j) :
    Calls Tryd.prog 23 #[.string s, .int .i64 0] w fun e w' => e = .returned (.int .i64 j) ∧ w' = w := by
  have HJ := hide hj
  have hhi := hj.hi
  clear hj
  go_enter Tryd.func23, Tryd.ntmps23
  go_wp2
  go_loop [1] (fun i => ∃ k : Nat, k ≤ j ∧ i = .int .i64 k) (fun i => s.size - (intOf i).toNat)
  case atStart => exact ⟨0, Nat.zero_le _, rfl⟩
  case round =>
    obtain ⟨k, hk, rfl⟩ := hrel
    by_cases hlt : k < s.size
    · by_cases hkj : k < j
      · have h10 : ¬ ((s[k].toNat : Int) = 10) := by
          have := (unhide HJ).no k (Nat.zero_le _) hkj
          rw [get!_lt s k hlt] at this
          omega
        go_wp2
        go_round
        case rel => exact ⟨k + 1, by omega, by go_num⟩
        case measure => simp [intOf]; omega
      · obtain rfl : k = j := by omega
        have h10 : (s[k].toNat : Int) = 10 := by
          have := (unhide HJ).nl hlt
          rw [get!_lt s k hlt] at this
          omega
        go_wp2
        go_ret
        exact ⟨rfl, rfl⟩
    · obtain rfl : k = j := by omega
      go_wp2
      go_ret
      exact ⟨rfl, rfl⟩
end Go.Proofs.YtnenoaenjaghhaaDoor
/- The program's next line of a reader. -/
namespace Go.Proofs.YtnenoaenjaghhaaDoor
open Go.RowKit Nt

/-- the character at a place -/
theorem char_at (t : ByteArray) (k : Nat) (hk : k < t.size) : 1 ≤ (Lib.decodeGo (t.extract k t.size)).2 ∧ k + (Lib.decodeGo (t.extract k t.size)).2 ≤ t.size ∧
    ((Lib.decodeGo (t.extract k t.size)).1 = 10 → (Lib.decodeGo (t.extract k t.size)).2 = 1 ∧ (t.get! k).toNat = 10) ∧
    ((Lib.decodeGo (t.extract k t.size)).1 ≠ 10 → ∀ i, k ≤ i → i < k + (Lib.decodeGo (t.extract k t.size)).2 → (t.get! i).toNat ≠ 10) := by
  have hz : (t.extract k t.size).size = t.size - k := by simp
  obtain ⟨h1, h2, h3, h4⟩ := dec_facts (t.extract k t.size) (by omega)
  have e : Lib.decodeGo (t.extract k t.size) = Utf8.decode (t.extract k t.size) 0 := by unfold Lib.decodeGo; rw [if_neg (by omega)]
  rw [e]
  refine ⟨h1, by omega, fun h => ⟨(h3 h).1, ?_⟩, fun h i a b => ?_⟩
  · have := (h3 h).2
    rwa [ext_get t k 0 (by omega)] at this
  · have := h4 h (i - k) (by omega)
    rwa [ext_get t k (i - k) (by omega), show k + (i - k) = i by omega] at this
/-- before the line's end: no newline, and no character goes over the end -/
theorem char_in {t : ByteArray} {a j k : Nat} (h : IsLine t a j) (h1 : a ≤ k) (h2 : k < j) : (Lib.decodeGo (t.extract k t.size)).1 ≠ 10 ∧ 1 ≤ (Lib.decodeGo (t.extract k t.size)).2 ∧ k + (Lib.decodeGo (t.extract k t.size)).2 ≤ j := by
  have hj := h.hi
  obtain ⟨c1, c2, c3, c4⟩ := char_at t k (by omega)
  have hn : (Lib.decodeGo (t.extract k t.size)).1 ≠ 10 := fun e => h.no k h1 h2 (c3 e).2
  refine ⟨hn, c1, ?_⟩
  by_cases hc : k + (Lib.decodeGo (t.extract k t.size)).2 ≤ j
  · exact hc
  · exact absurd (h.nl (by omega)) (c4 hn j (by omega) (by omega))
theorem char_nl {t : ByteArray} {a j : Nat} (h : IsLine t a j) (h2 : j < t.size) : (Lib.decodeGo (t.extract j t.size)).1 = 10 ∧ (Lib.decodeGo (t.extract j t.size)).2 = 1 := by
  obtain ⟨c1, c2, c3, c4⟩ := char_at t j h2
  have : (Lib.decodeGo (t.extract j t.size)).1 = 10 := by
    refine Decidable.byContradiction fun e => c4 e j (Nat.le_refl _) (by omega) (h.nl h2)
  exact ⟨this, (c3 this).1⟩
/-- the place behind a line -/
def nxt (t : ByteArray) (j : Nat) : Nat := if j < t.size then j + 1 else j
/-- where a reader is -/
def posOf (w : World) (b : Nat) : Nat := match w.cell? ⟨b, 0, none⟩ with | some v => (intOf v).toNat | none => 0
theorem posOf_eq {w : World} {b a : Nat} {t : ByteArray} (h : Reader w b a t) : posOf w b = a := by
  unfold posOf; rw [AtC2.n0 h]; simp [intOf]
theorem Reader.below {w w' : World} {b a : Nat} {t : ByteArray} (h : Reader w b a t) (k : Below w.heap.size w w') : Reader w' b a t := AtC2.below h k

theorem lines_c (b : Nat) (w : World) :
    Calls Tryd.prog 22 #[.pointer (some ⟨b, 0, none⟩)] w fun e w' => e = .returned (.func (.func 31) #[] #[.pointer (some ⟨w.heap.size, 0, none⟩)]) ∧ w' = w.alloc (.cells #[.pointer (some ⟨b, 0, none⟩)] 39) := by
  go_enter Tryd.func22, Tryd.ntmps22
  go_wp2
  go_ret
  exact ⟨rfl, rfl⟩

theorem Tabs.kept {b : Nat} {w w' : World} (h : Tabs w) (hb : 1 < b) (hs : b ≤ w.heap.size) (k : Kept (· = b) w w') : Tabs w' := h.below hb (k.below hs fun _ e => by omega)
theorem cell_kept {S : Nat → Prop} {w w' : World} (k : Kept S w w') {a : Addr} {v : Value} (h : w.cell? a = some v) (hs : ¬ S a.block) : w'.cell? a = some v := by
  rw [World.cell?_of_block (k.block a.block (block_lt_of_cell h) hs)]; exact h

set_option maxHeartbeats 2000000 in
theorem line_c (x b a j : Nat) (t : ByteArray) (w : World) (ht : t.size ≤ 1048576) (ha : a < t.size) (hl : IsLine t a j) (hb : Reader w b a t) (hx : w.cell? ⟨x, 0, none⟩ = some (.pointer (some ⟨b, 0, none⟩))) (hxb : x ≠ b) (hT : Tabs w) (h1 : 1 < b) :
    Calls Tryd.prog 31 #[.pointer (some ⟨x, 0, none⟩)] w fun e w' => e = .returned (.tuple #[.string (t.extract a j), .bool true]) ∧ Reader w' b (nxt t j) t ∧ Kept (· = b) w w' := by
  have HL := hide hl
  have HR := hide hb
  have HT := hide hT
  have HX := hide hx
  have hne : decide (a = t.size) = false := by simp; omega
  have hlo := hl.lo
  have hhi := hl.hi
  clear hb hT hl
  go_enter Tryd.func31, Tryd.ntmps31
  go_wp2_with fail
  refine (isAtEnd_c b a t w (unhide HR)).mono ?_
  rintro e w1 ⟨rfl, hb1⟩
  rw [hne]
  have HK1 := hide (Kept.of_below (S := (· = b)) hb1)
  have HR1 := hide ((unhide HR).below hb1)
  have x1 := cell_kept (unhide HK1) hx hxb
  have r0 := AtC2.n0 (unhide HR1)
  have HT1 := hide ((unhide HT).kept h1 (Nat.le_of_lt (AtC2.lt (unhide HR))) (unhide HK1))
  clear hb1 hx hne
  go_wp2_with fail
  clear x1 r0
  go_loopw [4] (fun _ wr => ∃ k : Nat, a ≤ k ∧ k ≤ j ∧ Hid (Reader wr b k t) ∧ Hid (Kept (· = b) w wr)) (fun _ wr => t.size - posOf wr b)
  case atStart => exact ⟨a, Nat.le_refl _, hlo, HR1, HK1⟩
  case round =>
    obtain ⟨k, hk1, hk2, HRk, HKk⟩ := hrel
    have hxk := cell_kept (unhide HKk) (unhide HX) hxb
    have hbl := Nat.le_of_lt (AtC2.lt (unhide HR))
    have HTk := hide ((unhide HT).kept h1 hbl (unhide HKk))
    have hpos := posOf_eq (unhide HRk)
    have HPOS := hide hpos
    clear hpos
    go_wp2_with fail
    refine (isAtEnd_c b k t wr (unhide HRk)).mono ?_
    rintro e w2 ⟨rfl, hb2⟩
    have HKe := hide ((unhide HKk).trans (Kept.of_below hb2))
    have HRe := hide ((unhide HRk).below hb2)
    have hxe := cell_kept (unhide HKe) (unhide HX) hxb
    have HTe := hide ((unhide HT).kept h1 hbl (unhide HKe))
    have r0 := AtC2.n0 (unhide HRe)
    have r1 := AtC2.n1 (unhide HRe)
    clear hb2 hxk
    by_cases hend : k = t.size
    · have hj : j = t.size := by omega
      have hd : decide (k = t.size) = true := by simpa using hend
      rw [hd]
      subst hend
      subst hj
      have HQ : Hid (Reader w2 b (nxt t t.size) t) := hide (by unfold nxt; rw [if_neg (by omega)]; exact unhide HRe)
      go_wp2_with fail
      go_ret2
      exact ⟨rfl, unhide HQ, unhide HKe⟩
    · have hd : decide (k = t.size) = false := by simpa using hend
      rw [hd]
      have hkl : k < t.size := by omega
      clear hend hd
      go_wp2_with fail
      have h := next_c b k t w2 ht (by omega) (unhide HRe) (unhide HTe) (by have := AtC2.lt (unhide HRe); omega)
      refine h.mono ?_
      clear h
      rintro e w3 ⟨rfl, hr3, hk3⟩
      have HK3 := hide ((unhide HKe).trans hk3)
      have hx3 := cell_kept (unhide HK3) (unhide HX) hxb
      clear hk3 hxe r0 r1
      by_cases hkj : k < j
      · obtain ⟨c1, c2, c3⟩ := char_in (unhide HL) hk1 hkj
        obtain ⟨wd, hwd⟩ : ∃ wd, (Lib.decodeGo (t.extract k t.size)).2 = wd := ⟨_, rfl⟩
        obtain ⟨rn, hrn⟩ : ∃ rn, (Lib.decodeGo (t.extract k t.size)).1 = rn := ⟨_, rfl⟩
        rw [hwd] at c2 c3 hr3
        rw [hrn] at c1 ⊢
        have c4 : ((rn : Int) == 10) = false := by rw [beq_eq_false_iff_ne]; omega
        have HR3 := hide hr3
        have HP3 := hide (posOf_eq hr3)
        clear hr3 hwd hrn c1
        go_wp2_with fail
        go_roundw
        case rel => exact ⟨k + wd, by omega, by omega, HR3, HK3⟩
        case measure => rw [unhide HPOS, unhide HP3]; omega
      · obtain rfl : k = j := by omega
        obtain ⟨c1, c2⟩ := char_nl (unhide HL) (by omega)
        rw [c2] at hr3
        rw [c1]
        have HR3 := hide hr3
        have r1 := AtC2.n1 hr3
        have HQ : Hid (Reader w3 b (nxt t k) t) := hide (by unfold nxt; rw [if_pos (by omega)]; exact unhide HR3)
        clear hr3 c1 c2
        go_wp2_with fail
        go_ret2
        exact ⟨rfl, unhide HQ, unhide HK3⟩
end Go.Proofs.YtnenoaenjaghhaaDoor
/- spec.TabLine. -/
namespace Go.Proofs.YtnenoaenjaghhaaDoor
open Go.RowKit Nt

theorem empty_tl (s : ByteArray) (h : s.size = 0) : s.toList.isEmpty = true := by
  rw [Lib.toList_data]
  have : s.data.toList = [] := List.eq_nil_of_length_eq_zero (by rw [← Lib.size_eq]; exact h)
  rw [this]; rfl
theorem full_tl (s : ByteArray) (h : 0 < s.size) : s.toList.isEmpty = false := by
  rw [Lib.toList_data]
  cases e : s.data.toList with
  | nil => exact absurd (by rw [Lib.size_eq, e]; rfl) (Nat.ne_of_gt h)
  | cons _ _ => rfl
theorem empty_eq {s : ByteArray} (h : s.size = 0) : s = ⟨#[]⟩ := ByteArray.ext (Array.eq_empty_of_size_eq_zero h)


set_option maxHeartbeats 1000000 in
theorem specLine_bad (t : ByteArray) (p : Int) (w : World) (hp : ¬ (0 ≤ p ∧ p ≤ t.size)) :
    Calls Tryd.prog 10 #[.agg #[.string t, .int .i64 p]] w fun e w' => e = .returned (.tuple #[.string ⟨#[]⟩, .agg #[.string ⟨#[]⟩, .int .i64 0], .bool false]) ∧ Below w.heap.size w w' := by
  have hd : decide (0 ≤ p ∧ p ≤ (t.size : Int)) = false := by simpa using hp
  clear hp
  -- spec.TabLine: the function; p: the place
  have HW := hide (step_a (step_a (Below.refl w.heap.size w) (.cells #[.string t, .int .i64 p] 24)) (.cells #[.string ⟨#[]⟩, .int .i64 0] 24))
  have HP := hide ((AtC2.new w (.string t) (.int .i64 p) 24).alloc (.cells #[.string ⟨#[]⟩, .int .i64 0] 24))
  have HN := hide (AtC2.new (w.alloc (.cells #[.string t, .int .i64 p] 24)) (.string ⟨#[]⟩) (.int .i64 0) 24)
  rw [World.size_alloc] at HN
  go_enter Tryd.func10, Tryd.ntmps10
  go_wp2_with fail
  obtain ⟨W, hW⟩ : ∃ W, (w.alloc (.cells #[.string t, .int .i64 p] 24)).alloc (.cells #[.string ⟨#[]⟩, .int .i64 0] 24) = W := ⟨_, rfl⟩
  rw [hW] at HW HN HP ⊢
  clear hW
  refine (l23Ok_c t p W).mono ?_
  rintro e w1 ⟨rfl, hb1⟩
  rw [hd]
  have HW1 := hide (step_b (unhide HW) hb1)
  have HN1 := hide ((unhide HN).below hb1)
  have HP1 := hide ((unhide HP).below hb1)
  have q0 := AtC2.f (unhide HN1) 0
  have q1 := AtC2.f (unhide HN1) 1
  have q2 := AtC2.n0 (unhide HN1)
  have q3 := AtC2.n1 (unhide HN1)
  have p0 := AtC2.n0 (unhide HP1)
  have p1 := AtC2.n1 (unhide HP1)
  clear hb1 hd HN HP HW
  go_wp2_with fail
  -- spec.TabLine: the function; .string ⟨#[]⟩ .int .i64 0: the port's two; .tuple #[.string ⟨#[]⟩, .agg #[.string ⟨#[]⟩, .int .i64 0], .bool false]: the answer
  have HS := hide (((unhide HN1).st0 (.string ⟨#[]⟩)).st1 (.int .i64 0))
  have s0 := AtC2.n0 (unhide HS)
  have s1 := AtC2.n1 (unhide HS)
  have HZ := hide (((unhide HW1).setCell (p := ⟨w.heap.size + 1, 0, none⟩) (Nat.le_succ _) (.string ⟨#[]⟩)).setCell (p := ⟨w.heap.size + 1, 1, none⟩) (Nat.le_succ _) (.int .i64 0))
  try go_wp2_with fail
  refine bodyPost_ret (v := .tuple #[.string ⟨#[]⟩, .agg #[.string ⟨#[]⟩, .int .i64 0], .bool false]) (by simp [results, Tryd.results10, go_sem, s0, s1]) rfl ⟨rfl, ?_⟩
  first | exact unhide HZ | exact (unhide HZ).drew

set_option maxHeartbeats 1000000 in
theorem specLine_end (t : ByteArray) (a : Nat) (w : World) (ha : a = t.size) :
    Calls Tryd.prog 10 #[.agg #[.string t, .int .i64 a]] w fun e w' => e = .returned (.tuple #[.string ⟨#[]⟩, .agg #[.string t, .int .i64 a], .bool false]) ∧ Below w.heap.size w w' := by
  have hd : decide (0 ≤ (a : Int) ∧ (a : Int) ≤ (t.size : Int)) = true := by simp; omega
  have hr := empty_tl (t.extract a t.size) (by simp; omega)
  have h3 : ¬ ((t.size : Int) < (a : Int)) := by omega
  clear ha
  -- spec.TabLine: the function; a: the place
  have HW := hide (step_a (step_a (Below.refl w.heap.size w) (.cells #[.string t, .int .i64 a] 24)) (.cells #[.string ⟨#[]⟩, .int .i64 0] 24))
  have HP := hide ((AtC2.new w (.string t) (.int .i64 a) 24).alloc (.cells #[.string ⟨#[]⟩, .int .i64 0] 24))
  have HN := hide (AtC2.new (w.alloc (.cells #[.string t, .int .i64 a] 24)) (.string ⟨#[]⟩) (.int .i64 0) 24)
  rw [World.size_alloc] at HN
  go_enter Tryd.func10, Tryd.ntmps10
  go_wp2_with fail
  obtain ⟨W, hW⟩ : ∃ W, (w.alloc (.cells #[.string t, .int .i64 a] 24)).alloc (.cells #[.string ⟨#[]⟩, .int .i64 0] 24) = W := ⟨_, rfl⟩
  rw [hW] at HW HN HP ⊢
  clear hW
  refine (l23Ok_c t a W).mono ?_
  rintro e w1 ⟨rfl, hb1⟩
  rw [hd]
  have HW1 := hide (step_b (unhide HW) hb1)
  have HN1 := hide ((unhide HN).below hb1)
  have HP1 := hide ((unhide HP).below hb1)
  have q0 := AtC2.f (unhide HN1) 0
  have q1 := AtC2.f (unhide HN1) 1
  have q2 := AtC2.n0 (unhide HN1)
  have q3 := AtC2.n1 (unhide HN1)
  have p0 := AtC2.n0 (unhide HP1)
  have p1 := AtC2.n1 (unhide HP1)
  clear hb1 hd HN HP HW
  go_wp2_with fail
  go_region
  all_goals
    -- spec.TabLine: the function; .string t .int .i64 a: the port's two; .tuple #[.string ⟨#[]⟩, .agg #[.string t, .int .i64 a], .bool false]: the answer
    have HS := hide (((unhide HN1).st0 (.string t)).st1 (.int .i64 a))
    have s0 := AtC2.n0 (unhide HS)
    have s1 := AtC2.n1 (unhide HS)
    have HZ := hide (((unhide HW1).setCell (p := ⟨w.heap.size + 1, 0, none⟩) (Nat.le_succ _) (.string t)).setCell (p := ⟨w.heap.size + 1, 1, none⟩) (Nat.le_succ _) (.int .i64 a))
    try go_wp2_with fail
    refine bodyPost_ret (v := .tuple #[.string ⟨#[]⟩, .agg #[.string t, .int .i64 a], .bool false]) (by simp [results, Tryd.results10, go_sem, s0, s1]) rfl ⟨rfl, ?_⟩
    first | exact unhide HZ | exact (unhide HZ).drew

set_option maxHeartbeats 2000000 in
theorem specLine_go (t : ByteArray) (a j : Nat) (w : World) (ht : t.size ≤ 1048576) (ha : a < t.size) (hj : IsLine t a j) :
    Calls Tryd.prog 10 #[.agg #[.string t, .int .i64 a]] w fun e w' => e = .returned (.tuple #[.string (t.extract a j), .agg #[.string t, .int .i64 (nxt t j : Nat)], .bool true]) ∧ Below w.heap.size w w' := by
  have hd : decide (0 ≤ (a : Int) ∧ (a : Int) ≤ (t.size : Int)) = true := by simp; omega
  have hz : (t.extract a t.size).size = t.size - a := by simp
  have hr := full_tl (t.extract a t.size) (by omega)
  have h3 : ¬ ((t.size : Int) < (a : Int)) := by omega
  obtain ⟨k, hk⟩ := isLine_ex (t.extract a t.size) _ 0 (Nat.zero_le _) rfl
  obtain rfl : j = a + k := hj.one (hk.lift (by omega))
  have hk2 := hk.hi
  have HE := hide (ext_ext t a k (by omega))
  have HL := hide (fun W => l11Line_c (t.extract a t.size) k W (by omega) hk)
  have hr0 := full_tl (t.extract a t.size) (by omega)
  obtain ⟨r, hr'⟩ : ∃ r, t.extract a t.size = r := ⟨_, rfl⟩
  rw [hr'] at hz hr HE HL hk2
  have HR := hide hr'
  have hn : nxt t (a + k) = a + (if k < r.size then k + 1 else k) := by unfold nxt; split <;> split <;> omega
  rw [hn]
  have hsl : ¬ ((r.size : Int) < (k : Int)) := by omega
  clear hj hk hr' hn
  by_cases hnl : k < r.size
  · rw [if_pos hnl]
    have HQ : Hid ((a : Int) + ((k : Int) + 1) = ((a + (k + 1) : Nat) : Int)) := hide (by omega)
    -- spec.TabLine: the function; a: the place
    have HW := hide (step_a (step_a (Below.refl w.heap.size w) (.cells #[.string t, .int .i64 a] 24)) (.cells #[.string ⟨#[]⟩, .int .i64 0] 24))
    have HP := hide ((AtC2.new w (.string t) (.int .i64 a) 24).alloc (.cells #[.string ⟨#[]⟩, .int .i64 0] 24))
    have HN := hide (AtC2.new (w.alloc (.cells #[.string t, .int .i64 a] 24)) (.string ⟨#[]⟩) (.int .i64 0) 24)
    rw [World.size_alloc] at HN
    go_enter Tryd.func10, Tryd.ntmps10
    go_wp2_with fail
    obtain ⟨W, hW⟩ : ∃ W, (w.alloc (.cells #[.string t, .int .i64 a] 24)).alloc (.cells #[.string ⟨#[]⟩, .int .i64 0] 24) = W := ⟨_, rfl⟩
    rw [hW] at HW HN HP ⊢
    clear hW
    refine (l23Ok_c t a W).mono ?_
    rintro e w1 ⟨rfl, hb1⟩
    rw [hd]
    have HW1 := hide (step_b (unhide HW) hb1)
    have HN1 := hide ((unhide HN).below hb1)
    have HP1 := hide ((unhide HP).below hb1)
    have q0 := AtC2.f (unhide HN1) 0
    have q1 := AtC2.f (unhide HN1) 1
    have q2 := AtC2.n0 (unhide HN1)
    have q3 := AtC2.n1 (unhide HN1)
    have p0 := AtC2.n0 (unhide HP1)
    have p1 := AtC2.n1 (unhide HP1)
    clear hb1 hd HN HP HW
    go_wp2_with fail
    rw [unhide HR]
    refine (unhide HL w1).mono ?_
    rintro e w2 ⟨rfl, rfl⟩
    clear hr0 h3
    go_wp2_with fail
    go_region
    all_goals
      -- spec.TabLine: the function; .string t .int .i64 ((a : Int) + ((k : Int) + 1)): the port's two; .tuple #[.string (r.extract 0 k), .agg #[.string t, .int .i64 ((a : Int) + ((k : Int) + 1))], .bool true]: the answer
      have HS := hide (((unhide HN1).st0 (.string t)).st1 (.int .i64 ((a : Int) + ((k : Int) + 1))))
      have s0 := AtC2.n0 (unhide HS)
      have s1 := AtC2.n1 (unhide HS)
      have HZ := hide (((unhide HW1).setCell (p := ⟨w.heap.size + 1, 0, none⟩) (Nat.le_succ _) (.string t)).setCell (p := ⟨w.heap.size + 1, 1, none⟩) (Nat.le_succ _) (.int .i64 ((a : Int) + ((k : Int) + 1))))
      try go_wp2_with fail
      refine bodyPost_ret (v := .tuple #[.string (r.extract 0 k), .agg #[.string t, .int .i64 ((a : Int) + ((k : Int) + 1))], .bool true]) (by simp [results, Tryd.results10, go_sem, s0, s1]) rfl ⟨by rw [unhide HE, unhide HQ], ?_⟩
      first | exact unhide HZ | exact (unhide HZ).drew
  · rw [if_neg hnl]
    have HQ : Hid ((a : Int) + (k : Int) = ((a + k : Nat) : Int)) := hide (by omega)
    -- spec.TabLine: the function; a: the place
    have HW := hide (step_a (step_a (Below.refl w.heap.size w) (.cells #[.string t, .int .i64 a] 24)) (.cells #[.string ⟨#[]⟩, .int .i64 0] 24))
    have HP := hide ((AtC2.new w (.string t) (.int .i64 a) 24).alloc (.cells #[.string ⟨#[]⟩, .int .i64 0] 24))
    have HN := hide (AtC2.new (w.alloc (.cells #[.string t, .int .i64 a] 24)) (.string ⟨#[]⟩) (.int .i64 0) 24)
    rw [World.size_alloc] at HN
    go_enter Tryd.func10, Tryd.ntmps10
    go_wp2_with fail
    obtain ⟨W, hW⟩ : ∃ W, (w.alloc (.cells #[.string t, .int .i64 a] 24)).alloc (.cells #[.string ⟨#[]⟩, .int .i64 0] 24) = W := ⟨_, rfl⟩
    rw [hW] at HW HN HP ⊢
    clear hW
    refine (l23Ok_c t a W).mono ?_
    rintro e w1 ⟨rfl, hb1⟩
    rw [hd]
    have HW1 := hide (step_b (unhide HW) hb1)
    have HN1 := hide ((unhide HN).below hb1)
    have HP1 := hide ((unhide HP).below hb1)
    have q0 := AtC2.f (unhide HN1) 0
    have q1 := AtC2.f (unhide HN1) 1
    have q2 := AtC2.n0 (unhide HN1)
    have q3 := AtC2.n1 (unhide HN1)
    have p0 := AtC2.n0 (unhide HP1)
    have p1 := AtC2.n1 (unhide HP1)
    clear hb1 hd HN HP HW
    go_wp2_with fail
    rw [unhide HR]
    refine (unhide HL w1).mono ?_
    rintro e w2 ⟨rfl, rfl⟩
    clear hr0 h3
    go_wp2_with fail
    go_region
    all_goals
      -- spec.TabLine: the function; .string t .int .i64 ((a : Int) + (k : Int)): the port's two; .tuple #[.string (r.extract 0 k), .agg #[.string t, .int .i64 ((a : Int) + (k : Int))], .bool true]: the answer
      have HS := hide (((unhide HN1).st0 (.string t)).st1 (.int .i64 ((a : Int) + (k : Int))))
      have s0 := AtC2.n0 (unhide HS)
      have s1 := AtC2.n1 (unhide HS)
      have HZ := hide (((unhide HW1).setCell (p := ⟨w.heap.size + 1, 0, none⟩) (Nat.le_succ _) (.string t)).setCell (p := ⟨w.heap.size + 1, 1, none⟩) (Nat.le_succ _) (.int .i64 ((a : Int) + (k : Int))))
      try go_wp2_with fail
      refine bodyPost_ret (v := .tuple #[.string (r.extract 0 k), .agg #[.string t, .int .i64 ((a : Int) + (k : Int))], .bool true]) (by simp [results, Tryd.results10, go_sem, s0, s1]) rfl ⟨by rw [unhide HE, unhide HQ], ?_⟩
      first | exact unhide HZ | exact (unhide HZ).drew
end Go.Proofs.YtnenoaenjaghhaaDoor
/- impl.TabLine. -/
namespace Go.Proofs.YtnenoaenjaghhaaDoor
open Go.RowKit Nt

set_option maxHeartbeats 1000000 in
theorem line_end (x b a : Nat) (t : ByteArray) (w : World) (ha : a = t.size) (hb : Reader w b a t) (hx : w.cell? ⟨x, 0, none⟩ = some (.pointer (some ⟨b, 0, none⟩))) :
    Calls Tryd.prog 31 #[.pointer (some ⟨x, 0, none⟩)] w fun e w' => e = .returned (.tuple #[.string ⟨#[]⟩, .bool false]) ∧ Below w.heap.size w w' := by
  have HR := hide hb
  have hne : decide (a = t.size) = true := by simpa using ha
  clear hb ha
  go_enter Tryd.func31, Tryd.ntmps31
  go_wp2_with fail
  refine (isAtEnd_c b a t w (unhide HR)).mono ?_
  rintro e w1 ⟨rfl, hb1⟩
  rw [hne]
  have HB := hide hb1
  clear hb1 hx hne
  go_wp2_with fail
  go_ret2
  exact ⟨rfl, unhide HB⟩

set_option maxHeartbeats 1000000 in
theorem tabLine_bad (t : ByteArray) (p : Int) (w : World) (hp : ¬ (0 ≤ p ∧ p ≤ t.size)) :
    Calls Tryd.prog 9 #[.agg #[.string t, .int .i64 p]] w fun e w' => e = .returned (.tuple #[.string ⟨#[]⟩, .agg #[.string ⟨#[]⟩, .int .i64 0], .bool false]) ∧ Below w.heap.size w w' := by
  have hd : decide (0 ≤ p ∧ p ≤ (t.size : Int)) = false := by simpa using hp
  have HW := hide (step_a (step_a (Below.refl w.heap.size w) (.cells #[.string t, .int .i64 p] 24)) (.cells #[.string ⟨#[]⟩, .int .i64 0] 24))
  have HN := hide (AtC2.new (w.alloc (.cells #[.string t, .int .i64 p] 24)) (.string ⟨#[]⟩) (.int .i64 0) 24)
  rw [World.size_alloc] at HN
  clear hp
  go_enter Tryd.func9, Tryd.ntmps9
  go_wp2_with fail
  obtain ⟨W, hW⟩ : ∃ W, (w.alloc (.cells #[.string t, .int .i64 p] 24)).alloc (.cells #[.string ⟨#[]⟩, .int .i64 0] 24) = W := ⟨_, rfl⟩
  rw [hW] at HW HN ⊢
  clear hW
  refine (readerOf_c t p W).mono ?_
  rintro e w1 ⟨rfl, _, hb1⟩
  rw [hd]
  have HW1 := hide (step_b (unhide HW) hb1)
  have HN1 := hide ((unhide HN).below hb1)
  have q0 := AtC2.f (unhide HN1) 0
  have q1 := AtC2.f (unhide HN1) 1
  have q2 := AtC2.n0 (unhide HN1)
  have q3 := AtC2.n1 (unhide HN1)
  clear hb1 hd HN
  go_wp2_with fail
  have HS := hide (((unhide HN1).st0 (.string ⟨#[]⟩)).st1 (.int .i64 0))
  have s0 := AtC2.n0 (unhide HS)
  have s1 := AtC2.n1 (unhide HS)
  have HZ := hide (((unhide HW1).setCell (p := ⟨w.heap.size + 1, 0, none⟩) (Nat.le_succ _) (.string ⟨#[]⟩)).setCell (p := ⟨w.heap.size + 1, 1, none⟩) (Nat.le_succ _) (.int .i64 0))
  refine bodyPost_ret (v := .tuple #[.string ⟨#[]⟩, .agg #[.string ⟨#[]⟩, .int .i64 0], .bool false]) (by simp [results, Tryd.results9, go_sem, s0, s1]) rfl ⟨rfl, ?_⟩
  exact unhide HZ

set_option maxRecDepth 100000 in
set_option maxHeartbeats 2000000 in
theorem tabLine_ok (t r : ByteArray) (a a' : Nat) (k : Bool) (w : World) (ht : t.size ≤ 1048576) (ha : a ≤ t.size) (hr : r.size ≤ 1048576) (hT : Tabs w) (h1 : 1 < w.heap.size)
    (hL : ∀ W x b, Reader W b a t → W.cell? ⟨x, 0, none⟩ = some (.pointer (some ⟨b, 0, none⟩)) → x ≠ b → Tabs W → 1 < b → Calls Tryd.prog 31 #[.pointer (some ⟨x, 0, none⟩)] W fun e w' => e = .returned (.tuple #[.string r, .bool k]) ∧ Reader w' b a' t ∧ Kept (· = b) W w') :
    Calls Tryd.prog 9 #[.agg #[.string t, .int .i64 a]] w fun e w' => e = .returned (.tuple #[.string r, .agg #[.string t, .int .i64 a'], .bool k]) ∧ Below w.heap.size w w' := by
  have hd : decide (0 ≤ (a : Int) ∧ (a : Int) ≤ (t.size : Int)) = true := by simp; omega
  have HW := hide (step_a (step_a (Below.refl w.heap.size w) (.cells #[.string t, .int .i64 a] 24)) (.cells #[.string ⟨#[]⟩, .int .i64 0] 24))
  have HN := hide (AtC2.new (w.alloc (.cells #[.string t, .int .i64 a] 24)) (.string ⟨#[]⟩) (.int .i64 0) 24)
  rw [World.size_alloc] at HN
  have HL := hide hL
  have HT := hide hT
  clear hL hT
  go_enter Tryd.func9, Tryd.ntmps9
  go_wp2_with fail
  obtain ⟨W, hW⟩ : ∃ W, (w.alloc (.cells #[.string t, .int .i64 a] 24)).alloc (.cells #[.string ⟨#[]⟩, .int .i64 0] 24) = W := ⟨_, rfl⟩
  have hWs : w.heap.size + 2 = W.heap.size := by rw [← hW]; simp
  rw [hW] at HW HN ⊢
  clear hW
  refine (readerOf_c t a W).mono ?_
  rintro e w1 ⟨rfl, hrd, hb1⟩
  rw [hd]
  have HW1 := hide (step_b (unhide HW) hb1)
  have HN1 := hide ((unhide HN).below hb1)
  obtain ⟨b, hbe⟩ : ∃ b, W.heap.size + 1 = b := ⟨_, rfl⟩
  rw [hbe] at hrd ⊢
  have HR1 : Hid (Reader w1 b a t) := hrd
  have hnb : w.heap.size + 1 < b := by omega
  have h1b : 1 < b := by omega
  have HBE := hide (⟨hWs, hbe⟩ : _ ∧ _)
  clear hb1 hd HN hrd hbe hWs HW
  go_wp2_with fail
  refine (lines_c b w1).mono ?_
  rintro e w2 ⟨rfl, hw2⟩
  have HB2 := hide (Below.alloc (Below.refl w1.heap.size w1) (Nat.le_refl _) (.cells #[.pointer (some ⟨b, 0, none⟩)] 39))
  have hx2 : w2.cell? ⟨w1.heap.size, 0, none⟩ = some (.pointer (some ⟨b, 0, none⟩)) := by rw [hw2]; simp
  rw [← hw2] at HB2
  have hbl := AtC2.lt (unhide HR1)
  have hne : w1.heap.size ≠ b := by omega
  have HR2 := hide ((unhide HR1).below (unhide HB2))
  have HN2 := hide ((unhide HN1).below (unhide HB2))
  have HW2 := hide (step_b (unhide HW1) (unhide HB2))
  have HT2 := hide ((unhide HT).below h1 (unhide HW2))
  clear hw2 hbl
  go_wp2_with fail
  refine ((unhide HL) w2 w1.heap.size b (unhide HR2) hx2 hne (unhide HT2) h1b).mono ?_
  rintro e w3 ⟨rfl, hr3, hk3⟩
  have hsz := (unhide HW2).size
  have hbl2 := AtC2.lt (unhide HR2)
  have HW3 := hide ((unhide HW2).trans (hk3.below (base := w.heap.size) hsz (fun _ e => by omega)))
  have HN3 := hide ((unhide HN2).kept hk3 (by show ¬ (w.heap.size + 1 = b); omega))
  have HR3 := hide hr3
  clear hr3 hk3 hx2 hne hsz hbl2 HL
  go_wp2_with fail
  refine (clone_c r w3 hr).mono ?_
  rintro e w4 ⟨rfl, hb4⟩
  have HW4 := hide (step_b (unhide HW3) hb4)
  have HN4 := hide ((unhide HN3).below hb4)
  have HR4 := hide ((unhide HR3).below hb4)
  clear hb4
  go_wp2_with fail
  refine (port_c b a' t w4 ht (unhide HR4)).mono ?_
  rintro e w5 ⟨rfl, hb5⟩
  have HW5 := hide (step_b (unhide HW4) hb5)
  have HN5 := hide ((unhide HN4).below hb5)
  have q0 := AtC2.f (unhide HN5) 0
  have q1 := AtC2.f (unhide HN5) 1
  have q2 := AtC2.n0 (unhide HN5)
  have q3 := AtC2.n1 (unhide HN5)
  clear hb5
  go_wp2_with fail
  have HS := hide (((unhide HN5).st0 (.string t)).st1 (.int .i64 a'))
  have s0 := AtC2.n0 (unhide HS)
  have s1 := AtC2.n1 (unhide HS)
  have HZ := hide (((unhide HW5).setCell (p := ⟨w.heap.size + 1, 0, none⟩) (Nat.le_succ _) (.string t)).setCell (p := ⟨w.heap.size + 1, 1, none⟩) (Nat.le_succ _) (.int .i64 a'))
  refine bodyPost_ret (v := .tuple #[.string r, .agg #[.string t, .int .i64 a'], .bool k]) (by simp [results, Tryd.results9, go_sem, s0, s1]) rfl ⟨rfl, ?_⟩
  exact unhide HZ
end Go.Proofs.YtnenoaenjaghhaaDoor
/- impl.TabChar. -/
namespace Go.Proofs.YtnenoaenjaghhaaDoor
open Go.RowKit Nt

set_option maxHeartbeats 1000000 in
theorem tabChar_bad (t : ByteArray) (p : Int) (w : World) (hp : ¬ (0 ≤ p ∧ p ≤ t.size)) :
    Calls Tryd.prog 7 #[.agg #[.string t, .int .i64 p]] w fun e w' => e = .returned (.tuple #[.string ⟨#[]⟩, .agg #[.string ⟨#[]⟩, .int .i64 0]]) ∧ Below w.heap.size w w' := by
  have hd : decide (0 ≤ p ∧ p ≤ (t.size : Int)) = false := by simpa using hp
  have HW := hide (step_a (step_a (Below.refl w.heap.size w) (.cells #[.string t, .int .i64 p] 24)) (.cells #[.string ⟨#[]⟩, .int .i64 0] 24))
  have HN := hide (AtC2.new (w.alloc (.cells #[.string t, .int .i64 p] 24)) (.string ⟨#[]⟩) (.int .i64 0) 24)
  rw [World.size_alloc] at HN
  clear hp
  go_enter Tryd.func7, Tryd.ntmps7
  go_wp2_with fail
  obtain ⟨W, hW⟩ : ∃ W, (w.alloc (.cells #[.string t, .int .i64 p] 24)).alloc (.cells #[.string ⟨#[]⟩, .int .i64 0] 24) = W := ⟨_, rfl⟩
  rw [hW] at HW HN ⊢
  clear hW
  refine (readerOf_c t p W).mono ?_
  rintro e w1 ⟨rfl, _, hb1⟩
  rw [hd]
  have HW1 := hide (step_b (unhide HW) hb1)
  have HN1 := hide ((unhide HN).below hb1)
  have q0 := AtC2.f (unhide HN1) 0
  have q1 := AtC2.f (unhide HN1) 1
  have q2 := AtC2.n0 (unhide HN1)
  have q3 := AtC2.n1 (unhide HN1)
  clear hb1 hd HN
  go_wp2_with fail
  have HS := hide (((unhide HN1).st0 (.string ⟨#[]⟩)).st1 (.int .i64 0))
  have s0 := AtC2.n0 (unhide HS)
  have s1 := AtC2.n1 (unhide HS)
  have HZ := hide (((unhide HW1).setCell (p := ⟨w.heap.size + 1, 0, none⟩) (Nat.le_succ _) (.string ⟨#[]⟩)).setCell (p := ⟨w.heap.size + 1, 1, none⟩) (Nat.le_succ _) (.int .i64 0))
  refine bodyPost_ret (v := .tuple #[.string ⟨#[]⟩, .agg #[.string ⟨#[]⟩, .int .i64 0]]) (by simp [results, Tryd.results7, go_sem, s0, s1]) rfl ⟨rfl, ?_⟩
  exact unhide HZ

/-- the place behind a character -/
def behind (t : ByteArray) (a : Nat) : Nat := a + (Lib.decodeGo (t.extract a t.size)).2
theorem behind_le (t : ByteArray) (a : Nat) (ha : a ≤ t.size) : a ≤ behind t a ∧ behind t a ≤ t.size := by
  unfold behind
  by_cases h : a < t.size
  · have := char_at t a h; omega
  · have e : (t.extract a t.size).size = 0 := by simp; omega
    have : (Lib.decodeGo (t.extract a t.size)).2 = 0 := by unfold Lib.decodeGo; rw [if_pos e]
    omega

set_option maxRecDepth 100000 in
set_option maxHeartbeats 4000000 in
theorem tabChar_ok (t : ByteArray) (a : Nat) (w : World) (ht : t.size ≤ 1048576) (ha : a ≤ t.size) (hT : Tabs w) (h1 : 1 < w.heap.size) :
    Calls Tryd.prog 7 #[.agg #[.string t, .int .i64 a]] w fun e w' => e = .returned (.tuple #[.string (t.extract a (behind t a)), .agg #[.string t, .int .i64 (behind t a : Nat)]]) ∧ Below w.heap.size w w' := by
  have hd : decide (0 ≤ (a : Int) ∧ (a : Int) ≤ (t.size : Int)) = true := by simp; omega
  have HW := hide (step_a (step_a (Below.refl w.heap.size w) (.cells #[.string t, .int .i64 a] 24)) (.cells #[.string ⟨#[]⟩, .int .i64 0] 24))
  have HN := hide (AtC2.new (w.alloc (.cells #[.string t, .int .i64 a] 24)) (.string ⟨#[]⟩) (.int .i64 0) 24)
  rw [World.size_alloc] at HN
  have HT := hide hT
  have hbh := behind_le t a ha
  have HC := hide (fun W b h2 h3 h4 => next_c b a t W ht ha h2 h3 h4)
  obtain ⟨a', ha'⟩ : ∃ a', behind t a = a' := ⟨_, rfl⟩
  unfold behind at ha'
  rw [ha'] at HC
  rw [show behind t a = a' from ha'] at hbh ⊢
  obtain ⟨rn, hrn⟩ : ∃ rn, (Lib.decodeGo (t.extract a t.size)).1 = rn := ⟨_, rfl⟩
  rw [hrn] at HC
  have hes : (t.extract a a').size ≤ 1048576 := by simp; omega
  clear hT ha' hrn
  go_enter Tryd.func7, Tryd.ntmps7
  go_wp2_with fail
  obtain ⟨W, hW⟩ : ∃ W, (w.alloc (.cells #[.string t, .int .i64 a] 24)).alloc (.cells #[.string ⟨#[]⟩, .int .i64 0] 24) = W := ⟨_, rfl⟩
  have hWs : w.heap.size + 2 = W.heap.size := by rw [← hW]; simp
  rw [hW] at HW HN ⊢
  clear hW
  refine (readerOf_c t a W).mono ?_
  rintro e w1 ⟨rfl, hrd, hb1⟩
  rw [hd]
  have HW1 := hide (step_b (unhide HW) hb1)
  have HN1 := hide ((unhide HN).below hb1)
  obtain ⟨b, hbe⟩ : ∃ b, W.heap.size + 1 = b := ⟨_, rfl⟩
  rw [hbe] at hrd ⊢
  have HR1 : Hid (Reader w1 b a t) := hrd
  have hnb : w.heap.size + 1 < b := by omega
  have r0 := AtC2.n0 (unhide HR1)
  have HT1 := hide ((unhide HT).below h1 (unhide HW1))
  clear hb1 hd HN hrd hbe hWs HW HT
  go_wp2_with fail
  refine ((unhide HC) w1 b (unhide HR1) (unhide HT1) (by have := AtC2.lt (unhide HR1); omega)).mono ?_
  rintro e w2 ⟨rfl, hr2, hk2⟩
  have hsz := (unhide HW1).size
  have hbl1 := AtC2.lt (unhide HR1)
  have HW2 := hide ((unhide HW1).trans (hk2.below (base := w.heap.size) hsz (fun _ e => by omega)))
  have HN2 := hide ((unhide HN1).kept hk2 (by show ¬ (w.heap.size + 1 = b); omega))
  have HR2 := hide hr2
  clear hr2 hk2 hsz hbl1 HC r0 HR1 HN1 HW1 HT1
  have r0 := AtC2.n0 (unhide HR2)
  have r1 := AtC2.n1 (unhide HR2)
  have h3 : ¬ ((a' : Int) < (a : Int)) := by omega
  have h4 : ¬ ((t.size : Int) < (a' : Int)) := by omega
  go_wp2_with fail
  go_region_with (first
    | (go_at_call 18; refine (clone_c (t.extract a a') _ hes).mono ?_; rintro e wc ⟨rfl, hbc⟩; have HRc : Hid (Reader wc b a' t) := hide (by first | exact (unhide HRp).below hbc | exact (unhide HR2).below (below_of_drew hbc)); have HNc : Hid (AtC2 wc (w.heap.size + 1) (.string ⟨#[]⟩) (.int .i64 0) 24) := hide (by first | exact (unhide HNp).below hbc | exact (unhide HN2).below (below_of_drew hbc)); have HWc : Hid (Below w.heap.size w wc) := hide (by first | exact step_b (unhide HWp) hbc | exact step_b (unhide HW2) (below_of_drew hbc)); have r0c := AtC2.n0 (unhide HRc); have r1c := AtC2.n1 (unhide HRc); have q0c := AtC2.f (unhide HNc) 0; have q1c := AtC2.f (unhide HNc) 1; have q2c := AtC2.n0 (unhide HNc); have q3c := AtC2.n1 (unhide HNc); clear hbc)
    | (go_at_call 19; refine (port_c b a' t _ ht (by first | exact unhide HR2 | exact unhide HRc)).mono ?_; rintro e wp ⟨rfl, hbp⟩; have HRp : Hid (Reader wp b a' t) := hide (by first | exact (unhide HRc).below hbp | exact (unhide HR2).below (below_of_drew hbp)); have HNp : Hid (AtC2 wp (w.heap.size + 1) (.string ⟨#[]⟩) (.int .i64 0) 24) := hide (by first | exact (unhide HNc).below hbp | exact (unhide HN2).below (below_of_drew hbp)); have HWp : Hid (Below w.heap.size w wp) := hide (by first | exact step_b (unhide HWc) hbp | exact step_b (unhide HW2) (below_of_drew hbp)); have r0p := AtC2.n0 (unhide HRp); have r1p := AtC2.n1 (unhide HRp); have q0p := AtC2.f (unhide HNp) 0; have q1p := AtC2.f (unhide HNp) 1; have q2p := AtC2.n0 (unhide HNp); have q3p := AtC2.n1 (unhide HNp); clear hbp))
  all_goals first
    | (have HS := hide (((unhide HNp).st0 (.string t)).st1 (.int .i64 a'))
       have s0 := AtC2.n0 (unhide HS)
       have s1 := AtC2.n1 (unhide HS)
       have HZ := hide (((unhide HWp).setCell (p := ⟨w.heap.size + 1, 0, none⟩) (Nat.le_succ _) (.string t)).setCell (p := ⟨w.heap.size + 1, 1, none⟩) (Nat.le_succ _) (.int .i64 a'))
       go_wp2_with fail
       refine bodyPost_ret (v := .tuple #[.string (t.extract a a'), .agg #[.string t, .int .i64 a']]) (by simp [results, Tryd.results7, go_sem, s0, s1]) rfl ⟨rfl, ?_⟩
       exact unhide HZ)
    | (have HS := hide (((unhide HNc).st0 (.string t)).st1 (.int .i64 a'))
       have s0 := AtC2.n0 (unhide HS)
       have s1 := AtC2.n1 (unhide HS)
       have HZ := hide (((unhide HWc).setCell (p := ⟨w.heap.size + 1, 0, none⟩) (Nat.le_succ _) (.string t)).setCell (p := ⟨w.heap.size + 1, 1, none⟩) (Nat.le_succ _) (.int .i64 a'))
       go_wp2_with fail
       refine bodyPost_ret (v := .tuple #[.string (t.extract a a'), .agg #[.string t, .int .i64 a']]) (by simp [results, Tryd.results7, go_sem, s0, s1]) rfl ⟨rfl, ?_⟩
       exact unhide HZ)
end Go.Proofs.YtnenoaenjaghhaaDoor
/- The specification's width of a character. -/
namespace Go.Proofs.YtnenoaenjaghhaaDoor
open Go.RowKit Nt

theorem runes_keep (s : ByteArray) : ∀ (n i : Nat) (acc : Array Value) (j : Nat), j < acc.size → (Conv.runesFrom s n i acc)[j]? = acc[j]?
  | 0, _, acc, j, _ => rfl
  | n + 1, i, acc, j, h => by
    unfold Conv.runesFrom
    split
    · rw [runes_keep s n _ _ j (by simp; omega), Array.getElem?_push_lt h, Array.getElem?_eq_getElem h]
    · rfl
theorem runes_head (s : ByteArray) (h : 0 < s.size) : (Conv.runesFrom s s.size 0 #[])[0]? = some (.int .i32 ((Utf8.decode s 0).1 : Nat)) := by
  obtain ⟨n, hn⟩ : ∃ n, s.size = n + 1 := ⟨s.size - 1, by omega⟩
  rw [hn]
  unfold Conv.runesFrom
  rw [if_pos (by omega), runes_keep s n _ _ 0 (by simp)]
  rfl

set_option maxHeartbeats 2000000 in
set_option maxRecDepth 100000 in
theorem l11Size_c (s : ByteArray) (w : World) (hs : s.size ≤ 1048576) (h0 : 0 < s.size) :
    Calls Tryd.prog 21 #[.string s] w fun e w' => e = .returned (.int .i64 (sizeM s)) ∧ Below w.heap.size w w' := by
  have hz := size_runesFrom s s.size 0 #[]
  simp only [List.size_toArray, List.length_nil, Nat.zero_add] at hz
  have hcv := run_runes_of_string (P := Tryd.prog) w 9 66 21 s Tryd.underlying9 Tryd.underlying66 Tryd.underlying21 (by omega)
  have hh := runes_head s h0
  obtain ⟨R, hR⟩ : ∃ R, Conv.runesFrom s s.size 0 #[] = R := ⟨_, rfl⟩
  rw [hR] at hcv hz hh
  have hR0 : 0 < R.size := by
    rcases Nat.eq_zero_or_pos R.size with h | h
    · rw [Array.getElem?_eq_none (by omega)] at hh; cases hh
    · exact h
  obtain ⟨C, hC⟩ : ∃ C, R ++ Array.replicate (grownCap w R.size 0 21 - R.size) (Value.int .i32 0) = C := ⟨_, rfl⟩
  have hc0 : C[0]? = some (.int .i32 ((Utf8.decode s 0).1 : Nat)) := by rw [← hC, Array.getElem?_append_left hR0]; exact hh
  rw [hC] at hcv
  obtain ⟨rn, hrn⟩ : ∃ rn, (Utf8.decode s 0).1 = rn := ⟨_, rfl⟩
  rw [hrn] at hc0
  obtain ⟨cp, hcp⟩ : ∃ cp, grownCap w R.size 0 21 = cp := ⟨_, rfl⟩
  rw [hcp] at hcv
  have HB := hide (((Below.refl w.heap.size w).alloc (Nat.le_refl _) (.cells C 21)).drew)
  have hcell : (w.alloc (.cells C 21)).cell? ⟨w.heap.size, 0, none⟩ = some (.int .i32 rn) := by rw [World.cell?_alloc_mark]; exact hc0
  have h0' : ((s.size : Int) == 0) = false := by rw [beq_eq_false_iff_ne]; omega
  have h0'' : (0 : Int) < R.size := by omega
  clear hC hcp hR hz hh hc0
  by_cases hb : rn = 65533
  · subst hb
    by_cases h3 : s.size < 3
    · have h3' : (s.size : Int) < 3 := by omega
      have HE : Hid (sizeM s = 0) := hide (by unfold sizeM badC; rw [hrn, if_pos (.inr ⟨rfl, .inl h3⟩)])
      clear hrn h3
      go_enter Tryd.func21, Tryd.ntmps21
      go_wp2_with (simp only [hcv])
      go_ret
      exact ⟨ret_int (by rw [unhide HE]; rfl), unhide HB⟩
    · have h3' : ¬ (s.size : Int) < 3 := by omega
      by_cases he : s.extract 0 3 = ⟨#[239, 191, 189]⟩
      · have HE : Hid (sizeM s = (Utf8.encode (65533 : Int)).size) := hide (by
          unfold sizeM badC; rw [hrn, if_neg]; · rfl
          · rintro (h | ⟨_, h | h⟩)
            · omega
            · exact h3 h
            · exact h he)
        clear hrn h3
        go_enter Tryd.func21, Tryd.ntmps21
        go_wp2_with (simp only [hcv])
        go_ret
        exact ⟨ret_int (by rw [unhide HE]), unhide HB⟩
      · have HE : Hid (sizeM s = 0) := hide (by unfold sizeM badC; rw [hrn, if_pos (.inr ⟨rfl, .inr he⟩)])
        have hne : ((s.extract 0 3).toList == [239, 191, 189]) = false := by
          rw [beq_eq_false_iff_ne]
          intro e
          apply he
          rw [Lib.toList_data] at e
          exact ByteArray.ext (by apply Array.ext'; exact e)
        clear hrn h3 he
        go_enter Tryd.func21, Tryd.ntmps21
        go_wp2_with (simp only [hcv])
        go_ret
        exact ⟨ret_int (by rw [unhide HE]; rfl), unhide HB⟩
  · have hb' : ((rn : Int) == 65533) = false := by rw [beq_eq_false_iff_ne]; omega
    have HE : Hid (sizeM s = (Utf8.encode (rn : Int)).size) := hide (by unfold sizeM; rw [hrn, if_neg (by omega)])
    clear hb hrn
    go_enter Tryd.func21, Tryd.ntmps21
    go_wp2_with (simp only [hcv])
    go_ret
    exact ⟨ret_int (by rw [unhide HE]), unhide HB⟩
end Go.Proofs.YtnenoaenjaghhaaDoor
/- spec.TabChar. -/
namespace Go.Proofs.YtnenoaenjaghhaaDoor
open Go.RowKit Nt


set_option maxHeartbeats 1000000 in
theorem specChar_bad (t : ByteArray) (p : Int) (w : World) (hp : ¬ (0 ≤ p ∧ p ≤ t.size)) :
    Calls Tryd.prog 8 #[.agg #[.string t, .int .i64 p]] w fun e w' => e = .returned (.tuple #[.string ⟨#[]⟩, .agg #[.string ⟨#[]⟩, .int .i64 0]]) ∧ Below w.heap.size w w' := by
  have hd : decide (0 ≤ p ∧ p ≤ (t.size : Int)) = false := by simpa using hp
  clear hp
  -- spec.TabChar: the function; p: the place
  have HW := hide (step_a (step_a (Below.refl w.heap.size w) (.cells #[.string t, .int .i64 p] 24)) (.cells #[.string ⟨#[]⟩, .int .i64 0] 24))
  have HP := hide ((AtC2.new w (.string t) (.int .i64 p) 24).alloc (.cells #[.string ⟨#[]⟩, .int .i64 0] 24))
  have HN := hide (AtC2.new (w.alloc (.cells #[.string t, .int .i64 p] 24)) (.string ⟨#[]⟩) (.int .i64 0) 24)
  rw [World.size_alloc] at HN
  go_enter Tryd.func8, Tryd.ntmps8
  go_wp2_with fail
  obtain ⟨W, hW⟩ : ∃ W, (w.alloc (.cells #[.string t, .int .i64 p] 24)).alloc (.cells #[.string ⟨#[]⟩, .int .i64 0] 24) = W := ⟨_, rfl⟩
  rw [hW] at HW HN HP ⊢
  clear hW
  refine (l23Ok_c t p W).mono ?_
  rintro e w1 ⟨rfl, hb1⟩
  rw [hd]
  have HW1 := hide (step_b (unhide HW) hb1)
  have HN1 := hide ((unhide HN).below hb1)
  have HP1 := hide ((unhide HP).below hb1)
  have q0 := AtC2.f (unhide HN1) 0
  have q1 := AtC2.f (unhide HN1) 1
  have q2 := AtC2.n0 (unhide HN1)
  have q3 := AtC2.n1 (unhide HN1)
  have p0 := AtC2.n0 (unhide HP1)
  have p1 := AtC2.n1 (unhide HP1)
  clear hb1 hd HN HP HW
  go_wp2_with fail
  -- spec.TabChar: the function; .string ⟨#[]⟩ .int .i64 0: the port's two; .tuple #[.string ⟨#[]⟩, .agg #[.string ⟨#[]⟩, .int .i64 0]]: the answer
  have HS := hide (((unhide HN1).st0 (.string ⟨#[]⟩)).st1 (.int .i64 0))
  have s0 := AtC2.n0 (unhide HS)
  have s1 := AtC2.n1 (unhide HS)
  have HZ := hide (((unhide HW1).setCell (p := ⟨w.heap.size + 1, 0, none⟩) (Nat.le_succ _) (.string ⟨#[]⟩)).setCell (p := ⟨w.heap.size + 1, 1, none⟩) (Nat.le_succ _) (.int .i64 0))
  try go_wp2_with fail
  refine bodyPost_ret (v := .tuple #[.string ⟨#[]⟩, .agg #[.string ⟨#[]⟩, .int .i64 0]]) (by simp [results, Tryd.results8, go_sem, s0, s1]) rfl ⟨rfl, ?_⟩
  first | exact unhide HZ | exact (unhide HZ).drew

set_option maxHeartbeats 1000000 in
theorem specChar_end (t : ByteArray) (a : Nat) (w : World) (ha : a = t.size) :
    Calls Tryd.prog 8 #[.agg #[.string t, .int .i64 a]] w fun e w' => e = .returned (.tuple #[.string ⟨#[]⟩, .agg #[.string t, .int .i64 a]]) ∧ Below w.heap.size w w' := by
  have hd : decide (0 ≤ (a : Int) ∧ (a : Int) ≤ (t.size : Int)) = true := by simp; omega
  have hr := empty_tl (t.extract a t.size) (by simp; omega)
  have h3 : ¬ ((t.size : Int) < (a : Int)) := by omega
  clear ha
  -- spec.TabChar: the function; a: the place
  have HW := hide (step_a (step_a (Below.refl w.heap.size w) (.cells #[.string t, .int .i64 a] 24)) (.cells #[.string ⟨#[]⟩, .int .i64 0] 24))
  have HP := hide ((AtC2.new w (.string t) (.int .i64 a) 24).alloc (.cells #[.string ⟨#[]⟩, .int .i64 0] 24))
  have HN := hide (AtC2.new (w.alloc (.cells #[.string t, .int .i64 a] 24)) (.string ⟨#[]⟩) (.int .i64 0) 24)
  rw [World.size_alloc] at HN
  go_enter Tryd.func8, Tryd.ntmps8
  go_wp2_with fail
  obtain ⟨W, hW⟩ : ∃ W, (w.alloc (.cells #[.string t, .int .i64 a] 24)).alloc (.cells #[.string ⟨#[]⟩, .int .i64 0] 24) = W := ⟨_, rfl⟩
  rw [hW] at HW HN HP ⊢
  clear hW
  refine (l23Ok_c t a W).mono ?_
  rintro e w1 ⟨rfl, hb1⟩
  rw [hd]
  have HW1 := hide (step_b (unhide HW) hb1)
  have HN1 := hide ((unhide HN).below hb1)
  have HP1 := hide ((unhide HP).below hb1)
  have q0 := AtC2.f (unhide HN1) 0
  have q1 := AtC2.f (unhide HN1) 1
  have q2 := AtC2.n0 (unhide HN1)
  have q3 := AtC2.n1 (unhide HN1)
  have p0 := AtC2.n0 (unhide HP1)
  have p1 := AtC2.n1 (unhide HP1)
  clear hb1 hd HN HP HW
  go_wp2_with fail
  go_region
  all_goals
    -- spec.TabChar: the function; .string t .int .i64 a: the port's two; .tuple #[.string ⟨#[]⟩, .agg #[.string t, .int .i64 a]]: the answer
    have HS := hide (((unhide HN1).st0 (.string t)).st1 (.int .i64 a))
    have s0 := AtC2.n0 (unhide HS)
    have s1 := AtC2.n1 (unhide HS)
    have HZ := hide (((unhide HW1).setCell (p := ⟨w.heap.size + 1, 0, none⟩) (Nat.le_succ _) (.string t)).setCell (p := ⟨w.heap.size + 1, 1, none⟩) (Nat.le_succ _) (.int .i64 a))
    try go_wp2_with fail
    refine bodyPost_ret (v := .tuple #[.string ⟨#[]⟩, .agg #[.string t, .int .i64 a]]) (by simp [results, Tryd.results8, go_sem, s0, s1]) rfl ⟨rfl, ?_⟩
    first | exact unhide HZ | exact (unhide HZ).drew

set_option maxHeartbeats 2000000 in
theorem specChar_go (t : ByteArray) (a : Nat) (w : World) (ht : t.size ≤ 1048576) (ha : a < t.size) :
    Calls Tryd.prog 8 #[.agg #[.string t, .int .i64 a]] w fun e w' => e = .returned (.tuple #[.string (t.extract a (behind t a)), .agg #[.string t, .int .i64 (behind t a : Nat)]]) ∧ Below w.heap.size w w' := by
  have hd : decide (0 ≤ (a : Int) ∧ (a : Int) ≤ (t.size : Int)) = true := by simp; omega
  have hz : (t.extract a t.size).size = t.size - a := by simp
  have hr0 := full_tl (t.extract a t.size) (by omega)
  have h3 : ¬ ((t.size : Int) < (a : Int)) := by omega
  have hbh := behind_le t a (by omega)
  have hm := sizeM_eq (t.extract a t.size) (by omega)
  have hbe : behind t a = a + (Utf8.decode (t.extract a t.size) 0).2 := by unfold behind Lib.decodeGo; rw [if_neg (by omega)]
  rw [← hm] at hbe
  have HE := hide (ext_ext t a (behind t a - a) (by omega))
  have HL := hide (fun W => l11Size_c (t.extract a t.size) W (by omega) (by omega))
  obtain ⟨m, hm'⟩ : ∃ m, sizeM (t.extract a t.size) = m := ⟨_, rfl⟩
  rw [hm'] at hbe HL
  obtain ⟨r, hr'⟩ : ∃ r, t.extract a t.size = r := ⟨_, rfl⟩
  rw [hr'] at hz HE HL
  have hr1 := hr0
  rw [hr'] at hr1
  have HR := hide hr'
  clear hr' hm hm'
  by_cases hm0 : m = 0
  · subst hm0
    rw [if_pos rfl] at hbe
    rw [hbe] at HE hbh ⊢
    rw [Nat.add_sub_cancel_left] at HE
    have HQ : Hid ((a : Int) + 1 = ((a + 1 : Nat) : Int)) := hide (by omega)
    have hsl : ¬ ((r.size : Int) < 1) := by omega
    clear hbe
    -- spec.TabChar: the function; a: the place
    have HW := hide (step_a (step_a (Below.refl w.heap.size w) (.cells #[.string t, .int .i64 a] 24)) (.cells #[.string ⟨#[]⟩, .int .i64 0] 24))
    have HP := hide ((AtC2.new w (.string t) (.int .i64 a) 24).alloc (.cells #[.string ⟨#[]⟩, .int .i64 0] 24))
    have HN := hide (AtC2.new (w.alloc (.cells #[.string t, .int .i64 a] 24)) (.string ⟨#[]⟩) (.int .i64 0) 24)
    rw [World.size_alloc] at HN
    go_enter Tryd.func8, Tryd.ntmps8
    go_wp2_with fail
    obtain ⟨W, hW⟩ : ∃ W, (w.alloc (.cells #[.string t, .int .i64 a] 24)).alloc (.cells #[.string ⟨#[]⟩, .int .i64 0] 24) = W := ⟨_, rfl⟩
    rw [hW] at HW HN HP ⊢
    clear hW
    refine (l23Ok_c t a W).mono ?_
    rintro e w1 ⟨rfl, hb1⟩
    rw [hd]
    have HW1 := hide (step_b (unhide HW) hb1)
    have HN1 := hide ((unhide HN).below hb1)
    have HP1 := hide ((unhide HP).below hb1)
    have q0 := AtC2.f (unhide HN1) 0
    have q1 := AtC2.f (unhide HN1) 1
    have q2 := AtC2.n0 (unhide HN1)
    have q3 := AtC2.n1 (unhide HN1)
    have p0 := AtC2.n0 (unhide HP1)
    have p1 := AtC2.n1 (unhide HP1)
    clear hb1 hd HN HP HW
    go_wp2_with fail
    rw [unhide HR]
    refine (unhide HL w1).mono ?_
    rintro e w2 ⟨rfl, hb2⟩
    replace HW1 := hide (step_b (unhide HW1) hb2)
    replace HN1 := hide ((unhide HN1).below hb2)
    replace HP1 := hide ((unhide HP1).below hb2)
    clear q0 q1 q2 q3 p0 p1 hb2
    have q0 := AtC2.f (unhide HN1) 0
    have q1 := AtC2.f (unhide HN1) 1
    have q2 := AtC2.n0 (unhide HN1)
    have q3 := AtC2.n1 (unhide HN1)
    have p0 := AtC2.n0 (unhide HP1)
    have p1 := AtC2.n1 (unhide HP1)
    clear hr0 h3
    go_wp2_with fail
    go_region
    all_goals
      -- spec.TabChar: the function; .string t .int .i64 ((a : Int) + 1): the port's two; .tuple #[.string (r.extract 0 1), .agg #[.string t, .int .i64 ((a : Int) + 1)]]: the answer
      have HS := hide (((unhide HN1).st0 (.string t)).st1 (.int .i64 ((a : Int) + 1)))
      have s0 := AtC2.n0 (unhide HS)
      have s1 := AtC2.n1 (unhide HS)
      have HZ := hide (((unhide HW1).setCell (p := ⟨w.heap.size + 1, 0, none⟩) (Nat.le_succ _) (.string t)).setCell (p := ⟨w.heap.size + 1, 1, none⟩) (Nat.le_succ _) (.int .i64 ((a : Int) + 1)))
      try go_wp2_with fail
      refine bodyPost_ret (v := .tuple #[.string (r.extract 0 1), .agg #[.string t, .int .i64 ((a : Int) + 1)]]) (by simp [results, Tryd.results8, go_sem, s0, s1]) rfl ⟨by rw [unhide HE, unhide HQ], ?_⟩
      first | exact unhide HZ | exact (unhide HZ).drew
  · rw [if_neg hm0] at hbe
    rw [hbe] at HE hbh ⊢
    rw [Nat.add_sub_cancel_left] at HE
    have HQ : Hid ((a : Int) + (m : Int) = ((a + m : Nat) : Int)) := hide (by omega)
    have hsl : ¬ ((r.size : Int) < (m : Int)) := by omega
    have hmz : ((m : Int) == 0) = false := by rw [beq_eq_false_iff_ne]; omega
    clear hbe hm0
    -- spec.TabChar: the function; a: the place
    have HW := hide (step_a (step_a (Below.refl w.heap.size w) (.cells #[.string t, .int .i64 a] 24)) (.cells #[.string ⟨#[]⟩, .int .i64 0] 24))
    have HP := hide ((AtC2.new w (.string t) (.int .i64 a) 24).alloc (.cells #[.string ⟨#[]⟩, .int .i64 0] 24))
    have HN := hide (AtC2.new (w.alloc (.cells #[.string t, .int .i64 a] 24)) (.string ⟨#[]⟩) (.int .i64 0) 24)
    rw [World.size_alloc] at HN
    go_enter Tryd.func8, Tryd.ntmps8
    go_wp2_with fail
    obtain ⟨W, hW⟩ : ∃ W, (w.alloc (.cells #[.string t, .int .i64 a] 24)).alloc (.cells #[.string ⟨#[]⟩, .int .i64 0] 24) = W := ⟨_, rfl⟩
    rw [hW] at HW HN HP ⊢
    clear hW
    refine (l23Ok_c t a W).mono ?_
    rintro e w1 ⟨rfl, hb1⟩
    rw [hd]
    have HW1 := hide (step_b (unhide HW) hb1)
    have HN1 := hide ((unhide HN).below hb1)
    have HP1 := hide ((unhide HP).below hb1)
    have q0 := AtC2.f (unhide HN1) 0
    have q1 := AtC2.f (unhide HN1) 1
    have q2 := AtC2.n0 (unhide HN1)
    have q3 := AtC2.n1 (unhide HN1)
    have p0 := AtC2.n0 (unhide HP1)
    have p1 := AtC2.n1 (unhide HP1)
    clear hb1 hd HN HP HW
    go_wp2_with fail
    rw [unhide HR]
    refine (unhide HL w1).mono ?_
    rintro e w2 ⟨rfl, hb2⟩
    replace HW1 := hide (step_b (unhide HW1) hb2)
    replace HN1 := hide ((unhide HN1).below hb2)
    replace HP1 := hide ((unhide HP1).below hb2)
    clear q0 q1 q2 q3 p0 p1 hb2
    have q0 := AtC2.f (unhide HN1) 0
    have q1 := AtC2.f (unhide HN1) 1
    have q2 := AtC2.n0 (unhide HN1)
    have q3 := AtC2.n1 (unhide HN1)
    have p0 := AtC2.n0 (unhide HP1)
    have p1 := AtC2.n1 (unhide HP1)
    clear hr0 h3
    go_wp2_with fail
    go_region
    all_goals
      -- spec.TabChar: the function; .string t .int .i64 ((a : Int) + (m : Int)): the port's two; .tuple #[.string (r.extract 0 m), .agg #[.string t, .int .i64 ((a : Int) + (m : Int))]]: the answer
      have HS := hide (((unhide HN1).st0 (.string t)).st1 (.int .i64 ((a : Int) + (m : Int))))
      have s0 := AtC2.n0 (unhide HS)
      have s1 := AtC2.n1 (unhide HS)
      have HZ := hide (((unhide HW1).setCell (p := ⟨w.heap.size + 1, 0, none⟩) (Nat.le_succ _) (.string t)).setCell (p := ⟨w.heap.size + 1, 1, none⟩) (Nat.le_succ _) (.int .i64 ((a : Int) + (m : Int))))
      try go_wp2_with fail
      refine bodyPost_ret (v := .tuple #[.string (r.extract 0 m), .agg #[.string t, .int .i64 ((a : Int) + (m : Int))]]) (by simp [results, Tryd.results8, go_sem, s0, s1]) rfl ⟨by rw [unhide HE, unhide HQ], ?_⟩
      first | exact unhide HZ | exact (unhide HZ).drew
end Go.Proofs.YtnenoaenjaghhaaDoor
