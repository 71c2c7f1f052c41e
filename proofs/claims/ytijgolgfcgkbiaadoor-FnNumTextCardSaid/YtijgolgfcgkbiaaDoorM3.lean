/- A part of the proof, put together out of smaller texts: each piece says what it is for. -/
import Derived.Test.YtijgolgfcgkbiaaDoorM2
import Derived.Deep.RegionWith
namespace Go.Proofs.YtijgolgfcgkbiaaDoor
open Go.RowKit Nt

def isRadix (r : Int) : Bool := r == 2 || r == 8 || r == 10 || r == 16

set_option maxRecDepth 100000 in
set_option maxHeartbeats 1000000 in
theorem l2Radix_c (r : Int) (w : World) :
    Calls Tryd.prog 34 #[.int .i64 r] w fun e w' => e = .returned (.bool (isRadix r)) ∧ w' = w := by
  unfold isRadix
  by_cases h2 : (r == 2) = true
  · go_enter Tryd.func34, Tryd.ntmps34
    go_wp2
    go_ret
    exact ⟨ret_bool (by simp [h2]), rfl⟩
  · have h2' : (r == 2) = false := by simpa using h2
    clear h2
    by_cases h8 : (r == 8) = true
    · go_enter Tryd.func34, Tryd.ntmps34
      go_wp2
      go_ret
      exact ⟨ret_bool (by simp [h8, h2']), rfl⟩
    · have h8' : (r == 8) = false := by simpa using h8
      clear h8
      by_cases h10 : (r == 10) = true
      · go_enter Tryd.func34, Tryd.ntmps34
        go_wp2
        go_ret
        exact ⟨ret_bool (by simp [h8', h2', h10]), rfl⟩
      · have h10' : (r == 10) = false := by simpa using h10
        clear h10
        by_cases h16 : (r == 16) = true
        · go_enter Tryd.func34, Tryd.ntmps34
          go_wp2
          go_ret
          exact ⟨ret_bool (by simp [h8', h2', h10', h16]), rfl⟩
        · have h16' : (r == 16) = false := by simpa using h16
          clear h16
          go_enter Tryd.func34, Tryd.ntmps34
          go_wp2
          go_ret
          exact ⟨ret_bool (by simp [h8', h2', h10', h16']), rfl⟩

/-- the first place of a byte, -1 if it is not there -/
def findB (c : UInt8) : List UInt8 → Option Nat
  | [] => none
  | d :: r => if d = c then some 0 else (findB c r).map (· + 1)
def findI (c : UInt8) (l : List UInt8) : Int := match findB c l with | some k => (k : Int) | none => -1

theorem findB_some {c : UInt8} : ∀ {l : List UInt8} {k : Nat}, (h : k < l.length) → l[k] = c → (∀ j (hj : j < l.length), j < k → l[j] ≠ c) → findB c l = some k := by
  intro l
  induction l with
  | nil => intro k h; simp at h
  | cons d r ih =>
    intro k h hk hlt
    cases k with
    | zero => simp only [List.getElem_cons_zero] at hk; simp [findB, hk]
    | succ k =>
      have hd : d ≠ c := hlt 0 (by simp) (by omega)
      have := ih (k := k) (by simpa using h) (by simpa using hk) (fun j hj hjk => by have := hlt (j + 1) (by simpa using hj) (by omega); simpa using this)
      simp [findB, hd, this]

theorem findB_none {c : UInt8} : ∀ {l : List UInt8}, (∀ j (hj : j < l.length), l[j] ≠ c) → findB c l = none := by
  intro l
  induction l with
  | nil => intro _; rfl
  | cons d r ih =>
    intro h
    have hd : d ≠ c := h 0 (by simp)
    have := ih (fun j hj => by have := h (j + 1) (by simpa using hj); simpa using this)
    simp [findB, hd, this]

set_option maxRecDepth 100000 in
set_option maxHeartbeats 1000000 in
theorem l2Find_c (l : List UInt8) (c : UInt8) (w : World) (hs : l.length ≤ 1000000000) :
    Calls Tryd.prog 35 #[.string (B l), .int .u8 c.toNat] w fun e w' => e = .returned (.int .i64 (findI c l)) ∧ w' = w := by
  have hsz : (B l).size ≤ 1000000000 := by rw [B_size]; exact hs
  go_enter Tryd.func35, Tryd.ntmps35
  go_wp2
  go_loop [5] (fun i => ∃ k : Nat, k ≤ l.length ∧ i = .int .i64 k ∧ Hid (∀ j (hj : j < l.length), j < k → l[j] ≠ c)) (fun i => l.length - (intOf i).toNat)
  case atStart => exact ⟨0, Nat.zero_le _, rfl, hide (fun j _ h => by omega)⟩
  case round =>
    obtain ⟨k, hk, rfl, hv⟩ := hrel
    by_cases hlt : k < l.length
    · have hlt2 : k < (B l).size := by rw [B_size]; exact hlt
      have hgk : ((B l)[k]'hlt2).toNat = (l[k]'hlt).toNat := by rw [B_get]
      by_cases heq : l[k]'hlt = c
      · have hf : findI c l = (k : Int) := by unfold findI; rw [findB_some hlt heq (unhide hv)]
        have Hf := hide hf
        have ht : (((l[k]'hlt).toNat : Int) == (c.toNat : Int)) = true := by rw [heq]; simp
        clear hf heq
        go_wp2
        go_ret
        exact ⟨ret_int (unhide Hf).symm, rfl⟩
      · have ht : (((l[k]'hlt).toNat : Int) == (c.toNat : Int)) = false := by
          rw [beq_eq_false_iff_ne]; intro hh; exact heq (UInt8.toNat_inj.1 (by omega))
        have hv2 : Hid (∀ j (hj : j < l.length), j < k + 1 → l[j] ≠ c) := by
          intro j hj hjk
          by_cases hjk2 : j < k
          · exact unhide hv j hj hjk2
          · have : j = k := by omega
            subst this; exact heq
        clear heq
        go_wp2
        go_round
        case rel => exact ⟨k + 1, by omega, by go_num, hv2⟩
        case measure => simp [intOf]; omega
    · have hlt2 : ¬ k < (B l).size := by rw [B_size]; exact hlt
      have hf : findI c l = -1 := by unfold findI; rw [findB_none (fun j hj => unhide hv j hj (by omega))]
      have Hf := hide hf
      clear hf
      go_wp2
      go_ret
      exact ⟨ret_int (unhide Hf).symm, rfl⟩

/-- a number as a value; what is told of one -/
def numV (neg : Bool) (u d : ByteArray) : Value := .agg #[.bool neg, .string u, .string d]
def noNum : Value := numV false ⟨#[]⟩ ⟨#[]⟩
def lowest (neg : Bool) (u d : Nat) : Option (Bool × Nat × Nat) :=
  if d = 0 ∨ 60 < (dec (u / Nat.gcd u d)).size ∨ 60 < (dec (d / Nat.gcd u d)).size then none else some (neg && u / Nat.gcd u d != 0, u / Nat.gcd u d, d / Nat.gcd u d)
def numO : Option (Bool × Nat × Nat) → Value
  | none => noNum
  | some (n, u, d) => numV n (dec u) (dec d)
def numAns (o : Option (Bool × Nat × Nat)) : Value := .tuple #[numO o, .bool o.isSome]

theorem dec_zero : dec 0 = ⟨#[48]⟩ := by unfold dec txt; rw [txl_zero]; rfl
theorem dec_is0 (n : Nat) : ((dec n).toList == [48]) = decide (n = 0) := by
  have := dec_beq n 0
  rwa [show (dec 0).toList = [48] from by unfold dec txt; rw [B_tl, txl_zero]] at this

set_option maxRecDepth 100000 in
set_option maxHeartbeats 1000000 in
theorem l2Make_c (neg : Bool) (u d : Nat) (w : World) (hsu : (dec u).size ≤ 50000) (hsd : (dec d).size ≤ 50000) :
    Calls Tryd.prog 39 #[.bool neg, .string (dec u), .string (dec d)] w fun e w' => e = .returned (numAns (lowest neg u d)) ∧ Below w.heap.size w w' := by
  have hd0 := dec_is0 d
  by_cases hz : d = 0
  · rw [decide_eq_true hz] at hd0
    have hl : lowest neg u d = none := by simp [lowest, hz]
    rw [hl]
    clear hl hz
    go_enter Tryd.func39, Tryd.ntmps39
    go_wp2
    refine bodyPost_ret (v := numAns none) (by simp [results, Tryd.results39, go_sem, numAns, numO, noNum, numV]) rfl ⟨rfl, (Below.refl _ _).alloc (Nat.le_refl _) _⟩
  · rw [decide_eq_false hz] at hd0
    have hg : 0 < Nat.gcd u d := Nat.gcd_pos_of_pos_right _ (by omega)
    have hg1 : (dec (Nat.gcd u d)).size ≤ 50000 := by have := dec_size_le (Nat.gcd_le_right u (show 0 < d by omega)); omega
    go_enter Tryd.func39, Tryd.ntmps39
    go_wp2_with fail
    refine (l1Gcd_c u d _ hsu hsd).mono ?_
    rintro e w1 ⟨rfl, hb1⟩
    go_wp2_with fail
    refine (l1Div_c u _ _ hg hsu hg1).mono ?_
    rintro e w2 ⟨rfl, hb2⟩
    go_wp2_with fail
    refine (l1Div_c d _ _ hg hsd hg1).mono ?_
    rintro e w3 ⟨rfl, hb3⟩
    have hb0 := below_alloc_size hb1
    have h2 := below_next hb0 (by have := hb1.size; simpa using this) hb2
    have h3 := below_next h2.1 h2.2 hb3
    have c0 := newcell h3.1 0
    have c1 := newcell h3.1 1
    have c2 := newcell h3.1 2
    have f0 := newfree h3.1 0
    have f1 := newfree h3.1 1
    have f2 := newfree h3.1 2
    have hbX := below_new h3.1
    simp at c0 c1 c2
    have hqz := dec_is0 (u / Nat.gcd u d)
    generalize hqu : u / Nat.gcd u d = qu at *
    generalize hqd : d / Nat.gcd u d = qd at *
    have Hlow : Hid (lowest neg u d = if 60 < (dec qu).size ∨ 60 < (dec qd).size then none else some (neg && qu != 0, qu, qd)) := by
      show _ = _
      unfold lowest; rw [hqu, hqd]
      by_cases h : 60 < (dec qu).size ∨ 60 < (dec qd).size
      · rw [if_pos (by rcases h with h | h <;> simp [h]), if_pos h]
      · rw [if_neg (by rintro (h1 | h1); exact hz h1; exact h h1), if_neg h]
    clear hb1 hb2 hb3 h2 h3 hb0 hqu hqd
    by_cases h1 : 60 < (dec qu).size
    · rw [if_pos (.inl h1)] at Hlow
      go_wp2
      refine bodyPost_ret (v := numAns none) (by simp [results, Tryd.results39, go_sem, numAns, numO, noNum, numV, c0, c1, c2]) rfl ⟨by rw [unhide Hlow], ?_⟩
      exact ((hbX.setCell (by simp) _).setCell (by simp) _).setCell (by simp) _
    · by_cases h2 : 60 < (dec qd).size
      · rw [if_pos (.inr h2)] at Hlow
        go_wp2
        refine bodyPost_ret (v := numAns none) (by simp [results, Tryd.results39, go_sem, numAns, numO, noNum, numV, c0, c1, c2]) rfl ⟨by rw [unhide Hlow], ?_⟩
        exact ((hbX.setCell (by simp) _).setCell (by simp) _).setCell (by simp) _
      · rw [if_neg (by rintro (h | h); exact h1 h; exact h2 h)] at Hlow
        by_cases hq0 : qu = 0
        · rw [decide_eq_true hq0] at hqz
          have Hq0 := hide hq0
          clear hq0
          cases neg
          case false =>
            go_wp2
            refine bodyPost_ret (v := numAns (some (false, qu, qd))) (by simp [results, Tryd.results39, go_sem, numAns, numO, numV, c0, c1, c2]) rfl ⟨by rw [unhide Hlow]; rfl, ?_⟩
            exact ((hbX.setCell (by simp) _).setCell (by simp) _).setCell (by simp) _
          case true =>
            go_wp2
            refine bodyPost_ret (v := numAns (some (false, qu, qd))) (by simp [results, Tryd.results39, go_sem, numAns, numO, numV, c0, c1, c2]) rfl ⟨by rw [unhide Hlow, unhide Hq0]; rfl, ?_⟩
            exact ((hbX.setCell (by simp) _).setCell (by simp) _).setCell (by simp) _
        · rw [decide_eq_false hq0] at hqz
          have Hq0 := hide hq0
          clear hq0
          cases neg
          case false =>
            go_wp2
            refine bodyPost_ret (v := numAns (some (false, qu, qd))) (by simp [results, Tryd.results39, go_sem, numAns, numO, numV, c0, c1, c2]) rfl ⟨by rw [unhide Hlow]; rfl, ?_⟩
            exact ((hbX.setCell (by simp) _).setCell (by simp) _).setCell (by simp) _
          case true =>
            go_wp2
            refine bodyPost_ret (v := numAns (some (true, qu, qd))) (by simp [results, Tryd.results39, go_sem, numAns, numO, numV, c0, c1, c2]) rfl ⟨by rw [unhide Hlow, bne_iff_ne.2 (unhide Hq0)]; rfl, ?_⟩
            exact ((hbX.setCell (by simp) _).setCell (by simp) _).setCell (by simp) _
end Go.Proofs.YtijgolgfcgkbiaaDoor
namespace Go.Proofs.YtijgolgfcgkbiaaDoor
open Go.RowKit Nt

theorem run_conv_byte {P : Program} {src dst e : TypeId} (hs : P.underlying src = some (.slice e)) (he : P.underlying e = some (.int .u8)) (hd : P.underlying dst = some .string) (W w1 : World) (c : UInt8)
    (hb : Below (W.heap.size + 1) (W.alloc (.cells #[.int .u8 c.toNat] e)) w1) :
    (convert src dst (.slice (some ⟨W.heap.size, 0, none⟩) 1 1)).run P w1 = .ok (.string (B [c])) w1 := by
  have h0 := World.ownsRow_lit (base := 0) (e := e) (size := 1) W #[.int .u8 c.toNat] 1 (Nat.zero_le _) (by decide) (by simp)
  have h1 := own_below h0 (by simpa using hb)
  have e1 : (#[Value.int .u8 c.toNat] : Array Value).toList = [c].map u8v := by simp [u8v]
  rw [e1] at h1
  exact run_conv_bytes hs he hd h1

theorem dec_byte (n k : Nat) (h : k < (dec n).size) : ((dec n)[k]'h).toNat = 48 + n / 10 ^ ((dec n).size - 1 - k) % 10 := by
  have h1 : k < (txl 10 n).length := by rw [← dec_len]; exact h
  have e := dec_at n ((txl 10 n).length - 1 - k) (by omega)
  rw [List.getElem_reverse] at e
  have e2 : (txl 10 n).length - 1 - ((txl 10 n).length - 1 - k) = k := by omega
  simp only [e2] at e
  have hm : n / 10 ^ ((txl 10 n).length - 1 - k) % 10 < 10 := Nat.mod_lt _ (by omega)
  rw [dec_len]
  have e3 : ((dec n)[k]'h) = (txl 10 n)[k]'h1 := by simp only [dec, txt, B_get]
  rw [e3, e, sg_toNat (by omega), if_pos hm]

def digitSigns : ByteArray := ⟨#[48, 49, 50, 51, 52, 53, 54, 55, 56, 57, 97, 98, 99, 100, 101, 102]⟩
theorem digitSigns_at (d : Nat) (h : d < 16) (h' : d < digitSigns.size) : (digitSigns[d]'h').toNat = (sg d).toNat := by
  have : ∀ d : Fin 16, (digitSigns[d.val]'d.isLt).toNat = (sg d.val).toNat := by decide
  exact this ⟨d, h⟩

set_option maxRecDepth 100000 in
set_option maxHeartbeats 1000000 in
theorem l2Out_c (N b : Nat) (w : World) (hb2 : 2 ≤ b) (hb16 : b ≤ 16) (hs : (dec N).size ≤ 5000) (ht : (txl b N).length ≤ 50000) :
    Calls Tryd.prog 46 #[.string (dec N), .int .i64 b] w fun e w' => e = .returned (.string (txt b N)) ∧ Below w.heap.size w w' := by
  have hbs := dec_small (n := b) (by omega)
  go_enter Tryd.func46, Tryd.ntmps46
  go_wp2
  go_loopw [0, 5] (fun n o wr => ∃ (m : Nat) (t : List UInt8), n = .string (dec m) ∧ o = .string (B t) ∧ m ≤ N ∧ t.length ≤ 50000 ∧ Below w.heap.size w wr ∧ Hid (txl b m ++ t = txl b N))
    (fun n _ _ => valDec (match n with | .string s => s.data.toList | _ => []))
  case atStart => exact ⟨N, [], rfl, rfl, Nat.le_refl _, by simp, Below.refl _ _, hide (by simp)⟩
  case round =>
    obtain ⟨m, t, rfl, rfl, hmN, htl, hb, htx⟩ := hrel
    have hms := dec_size_le hmN
    have hmod : m % b < b := Nat.mod_lt _ (by omega)
    go_wp2_with fail
    refine (l1Small_c b (by omega) _).mono ?_
    rintro e w1 ⟨rfl, hb1⟩
    go_wp2_with fail
    refine (l1Div_c m b _ (by omega) (by omega) (by omega)).mono ?_
    rintro e w2 ⟨rfl, hb2'⟩
    have hbA := below_next hb hb.size hb1
    have hbB := below_next hbA.1 hbA.2 hb2'
    clear hbA hb1 hb2'
    obtain ⟨q, hq⟩ : ∃ q, m / b = q := ⟨_, rfl⟩
    obtain ⟨r, hr⟩ : ∃ r, m % b = r := ⟨_, rfl⟩
    rw [hr] at hmod
    have hrs := dec_small (n := r) (by omega)
    have Hq := hide hq
    have Hr := hide hr
    rw [hq, hr]
    clear hq hr
    go_wp2_with fail
    go_loopw [8, 9] (fun d i wr => ∃ k : Nat, k ≤ (dec r).size ∧ i = .int .i64 k ∧ d = .int .i64 (pref r k : Nat) ∧ Below w.heap.size w wr) (fun _ i _ => (dec r).size - (intOf i).toNat)
    case atStart => exact ⟨0, Nat.zero_le _, rfl, by rw [pref_zero]; rfl, hbB.1⟩
    case round =>
      obtain ⟨k, hk, rfl, rfl, hbC⟩ := hrel
      by_cases hlt : k < (dec r).size
      · have hby := dec_byte r k hlt
        have hm10 : r / 10 ^ ((dec r).size - 1 - k) % 10 < 10 := Nat.mod_lt _ (by omega)
        have hps := pref_succ r k hlt
        have hpl : pref r k ≤ r := Nat.div_le_self _ _
        generalize r / 10 ^ ((dec r).size - 1 - k) % 10 = c at *
        generalize pref r k = p at *
        have Hps := hide hps
        clear hps
        go_wp2
        go_roundw
        case rel => exact ⟨k + 1, by omega, by go_num, by rw [unhide Hps]; go_num, hbC⟩
        case measure => simp [intOf]; omega
      · have hkl : k = (dec r).size := by omega
        subst hkl
        have hpa := pref_all r
        have hd16 : r < 16 := by omega
        have hg := digitSigns_at r hd16 hd16
        unfold digitSigns at hg
        have hconv := run_conv_byte (P := Tryd.prog) (src := 22) (dst := 9) Tryd.underlying22 Tryd.underlying5 Tryd.underlying9 wr _ (sg r) (Below.refl _ _)
        have hcat : B [sg r] ++ B t = B (sg r :: t) := by rw [B_append]; rfl
        have hs1 : (B [sg r]).size ≤ 1 := by rw [B_size]; simp
        have hs2 : (B t).size ≤ 50000 := by rw [B_size]; exact htl
        have hns : ¬ 9223372036854775807 < (B [sg r]).size + (B t).size := by omega
        have hbD := hbC.alloc (by have := hbC.size; exact this) (.cells #[.int .u8 (sg r).toNat] 5)
        have hq0 := dec_is0 q
        by_cases hz : q = 0
        · rw [decide_eq_true hz] at hq0
          have hmb : m < b := by
            have := unhide Hq; rw [hz] at this
            rcases Nat.div_eq_zero_iff.1 this with h | h
            · omega
            · exact h
          have hfin : B (sg r :: t) = txt b N := by
            unfold txt
            rw [← unhide htx, txl_one b hb2 m hmb, ← unhide Hr, Nat.mod_eq_of_lt hmb]; rfl
          have Hfin := hide hfin
          clear hfin hz
          go_wp2
          go_ret
          exact ⟨ret_str (unhide Hfin), hbD⟩
        · rw [decide_eq_false hz] at hq0
          have hmb : b ≤ m := by
            apply Nat.le_of_not_lt
            intro h; apply hz; rw [← unhide Hq]; exact Nat.div_eq_of_lt h
          have htx2 : txl b q ++ (sg r :: t) = txl b N := by
            rw [← unhide htx, txl_step b hb2 m hmb, unhide Hq, unhide Hr]; simp
          have Htx2 := hide htx2
          have hl2 : (sg r :: t).length ≤ 50000 := by
            have := congrArg List.length htx2
            rw [List.length_append] at this; omega
          have hqm : q < m := by rw [← unhide Hq]; exact Nat.div_lt_self (by omega) (by omega)
          clear htx2
          go_wp2
          go_roundw
          case rel => exact ⟨q, sg r :: t, rfl, rfl, by omega, hl2, hbD, Htx2⟩
          case measure =>
            show valDec (txl 10 q) < valDec (txl 10 m)
            rw [valDec_txl, valDec_txl]; exact hqm
end Go.Proofs.YtijgolgfcgkbiaaDoor
namespace Go.Proofs.YtijgolgfcgkbiaaDoor
open Go.RowKit Nt

def overM (neg : Bool) (b : Nat) (x y : List UInt8) : Option (Bool × Nat × Nat) :=
  if okN b x && okN b y then lowest neg (rdN b x) (rdN b y) else none

theorem rdN_size {b : Nat} {l : List UInt8} (hb16 : b ≤ 16) (h : okN b l = true) : (dec (rdN b l)).size ≤ 2 * l.length + 1 := by
  unfold okN at h
  simp only [Bool.and_eq_true] at h
  exact dec_size_pow hb16 (rdN_lt b l (fun c hc => by simpa using List.all_eq_true.1 h.2 c hc))

/-- what the cells of a struct of three read behind three stores -/
theorem below_three {w w3 : World} {b : Nat} (h : Below b w w3) (g : Nat) (hg : b ≤ g) (x y z : Value) : Below b w (((w3.setCell ⟨g, 0, none⟩ x).setCell ⟨g, 1, none⟩ y).setCell ⟨g, 2, none⟩ z) :=
  ((h.setCell hg _).setCell hg _).setCell hg _


set_option maxRecDepth 100000 in
set_option maxHeartbeats 1000000 in
theorem l2Over_c (neg : Bool) (l : List UInt8) (k b : Nat) (w : World) (hk : k < l.length) (hs : l.length ≤ 5000) (hb2 : 2 ≤ b) (hb16 : b ≤ 16) :
    Calls Tryd.prog 36 #[.bool neg, .string (B l), .int .i64 k, .int .i64 b] w fun e w' => e = .returned (numAns (overM neg b (l.take k) (l.drop (k + 1)))) ∧ Below w.heap.size w w' := by
  have hsz : (B l).size ≤ 5000 := by rw [B_size]; exact hs
  have hkz : k < (B l).size := by rw [B_size]; exact hk
  have he1 : (B l).extract 0 k = B (l.take k) := by rw [B_extract]; simp
  have he2 : (B l).extract (k + 1) (B l).size = B (l.drop (k + 1)) := by rw [B_extract, B_size, List.take_length]
  generalize hx : l.take k = x at *
  generalize hy : l.drop (k + 1) = y at *
  have hxl : x.length ≤ 5000 := by rw [← hx]; simp; omega
  have hyl : y.length ≤ 5000 := by rw [← hy]; simp; omega
  clear hx hy
  go_enter Tryd.func36, Tryd.ntmps36
  go_wp2_with fail
  refine (l2Nat_c x b _ hb2 hb16 (by omega)).mono ?_
  rintro e w1 ⟨rfl, hb1⟩
  unfold natAns
  go_wp2_with fail
  refine (l2Nat_c y b _ hb2 hb16 (by omega)).mono ?_
  rintro e w2 ⟨rfl, hb2'⟩
  unfold natAns
  have hb0 := below_alloc_size hb1
  have hn2 := below_next hb0 (by have := hb1.size; simpa using this) hb2'
  have hsx := fun h => rdN_size (l := x) hb16 h
  have hsy := fun h => rdN_size (l := y) hb16 h
  have hvx : okN b x = true → natV b x = rdN b x := fun h => by unfold natV; rw [if_pos h]
  have hvy : okN b y = true → natV b y = rdN b y := fun h => by unfold natV; rw [if_pos h]
  have Hov : Hid (overM neg b x y = if okN b x && okN b y then lowest neg (rdN b x) (rdN b y) else none) := hide rfl
  generalize natV b x = vx at *
  generalize natV b y = vy at *
  generalize okN b x = ox at *
  generalize okN b y = oy at *
  cases ox
  ·
    have c0 := newcell hn2.1 0
    have c1 := newcell hn2.1 1
    have c2 := newcell hn2.1 2
    have f0 := newfree hn2.1 0
    have f1 := newfree hn2.1 1
    have f2 := newfree hn2.1 2
    have hbX := below_new hn2.1
    simp at c0 c1 c2
    clear hb1 hb2' hb0 hn2 hsx hsy he1 he2 hvx hvy
    go_wp2
    refine bodyPost_ret (v := numAns none) (by simp [results, Tryd.results36, go_sem, numAns, numO, noNum, numV, c0, c1, c2]) rfl ⟨by rw [unhide Hov]; rfl, ?_⟩
    exact below_three hbX _ (Nat.le_refl _) _ _ _
  · cases oy
    ·
      have c0 := newcell hn2.1 0
      have c1 := newcell hn2.1 1
      have c2 := newcell hn2.1 2
      have f0 := newfree hn2.1 0
      have f1 := newfree hn2.1 1
      have f2 := newfree hn2.1 2
      have hbX := below_new hn2.1
      simp at c0 c1 c2
      clear hb1 hb2' hb0 hn2 hsx hsy he1 he2 hvx hvy
      go_wp2
      refine bodyPost_ret (v := numAns none) (by simp [results, Tryd.results36, go_sem, numAns, numO, noNum, numV, c0, c1, c2]) rfl ⟨by rw [unhide Hov]; rfl, ?_⟩
      exact below_three hbX _ (Nat.le_refl _) _ _ _
    · have h1 := hsx rfl
      have h2 := hsy rfl
      rw [← hvx rfl] at h1
      rw [← hvy rfl] at h2
      have Hov2 : Hid (overM neg b x y = lowest neg vx vy) := by rw [hvx rfl, hvy rfl]; exact Hov
      clear hsx hsy he1 he2 hvx hvy Hov
      go_wp2_with fail
      refine (l2Make_c neg vx vy _ (by omega) (by omega)).mono ?_
      rintro e w3 ⟨rfl, hb3⟩
      have hn3 := below_next hn2.1 hn2.2 hb3
      have c0 := newcell hn3.1 0
      have c1 := newcell hn3.1 1
      have c2 := newcell hn3.1 2
      have f0 := newfree hn3.1 0
      have f1 := newfree hn3.1 1
      have f2 := newfree hn3.1 2
      have hbX := below_new hn3.1
      simp at c0 c1 c2
      clear hb1 hb2' hb0 hn2 hb3 hn3
      generalize lowest neg vx vy = o at *
      unfold numAns
      obtain ⟨n3, u3, d3, ho⟩ : ∃ n3 u3 d3, numO o = numV n3 u3 d3 := by
        cases o with
        | none => exact ⟨_, _, _, rfl⟩
        | some p => exact ⟨_, _, _, rfl⟩
      have Ho := hide ho
      rw [ho]
      unfold numV
      clear ho
      go_wp2
      refine bodyPost_ret (v := numAns o) (by simp [results, Tryd.results36, go_sem, numAns, unhide Ho, numV, c0, c1, c2]) rfl ⟨by rw [unhide Hov2], ?_⟩
      exact below_three hbX _ (Nat.le_refl _) _ _ _
end Go.Proofs.YtijgolgfcgkbiaaDoor
namespace Go.Proofs.YtijgolgfcgkbiaaDoor
open Go.RowKit Nt

def pointM (neg : Bool) (x y : List UInt8) : Option (Bool × Nat × Nat) :=
  if okN 10 (x ++ y) then lowest neg (rdN 10 (x ++ y)) (10 ^ y.length) else none

theorem dec_one : dec 1 = ⟨#[49]⟩ := by unfold dec txt; rw [txl_one 10 (by omega) 1 (by omega)]; rfl
theorem dec_tens (j : Nat) : dec (10 ^ j) ++ ⟨#[48]⟩ = dec (10 ^ (j + 1)) := by
  have h1 : 0 < 10 ^ j := Nat.pow_pos (by omega)
  have h : 10 ≤ 10 ^ (j + 1) := by rw [Nat.pow_succ]; omega
  have e := txl_step 10 (by omega) (10 ^ (j + 1)) h
  rw [show 10 ^ (j + 1) / 10 = 10 ^ j from by rw [Nat.pow_succ]; omega, show 10 ^ (j + 1) % 10 = 0 from by rw [Nat.pow_succ]; omega] at e
  unfold dec txt
  rw [e, show (⟨#[48]⟩ : ByteArray) = B [sg 0] from rfl, B_append]
theorem dec_tens_size (j : Nat) : (dec (10 ^ j)).size ≤ j + 1 := by
  rw [dec_len]
  exact txl_len_le (by omega) (by omega) (Nat.pow_lt_pow_right (by omega) (by omega))

set_option maxRecDepth 100000 in
set_option maxHeartbeats 1000000 in
theorem l2Point_c (neg : Bool) (l : List UInt8) (k : Nat) (w : World) (hk : k < l.length) (hs : l.length ≤ 5000) :
    Calls Tryd.prog 37 #[.bool neg, .string (B l), .int .i64 k] w fun e w' => e = .returned (numAns (pointM neg (l.take k) (l.drop (k + 1)))) ∧ Below w.heap.size w w' := by
  have hsz : (B l).size ≤ 5000 := by rw [B_size]; exact hs
  have hszI : ((B l).size : Int) = l.length := by rw [B_size]
  have hkz : k < (B l).size := by rw [B_size]; exact hk
  have he1 : (B l).extract 0 k = B (l.take k) := by rw [B_extract]; simp
  have he2 : (B l).extract (k + 1) (B l).size = B (l.drop (k + 1)) := by rw [B_extract, B_size, List.take_length]
  have hyl : (l.drop (k + 1)).length = l.length - (k + 1) := by simp
  have hxl : (l.take k).length = k := by simp; omega
  generalize hx : l.take k = x at *
  generalize hy : l.drop (k + 1) = y at *
  have hcat : B x ++ B y = B (x ++ y) := B_append x y
  have hxs : (B x).size = x.length := B_size x
  have hys : (B y).size = y.length := B_size y
  have hns : ¬ 9223372036854775807 < (B x).size + (B y).size := by omega
  have hns2 : ¬ (9223372036854775807 < ((B x).size : Int) + ((B y).size : Int)) := by omega
  have hxyl : (x ++ y).length ≤ 10000 := by rw [List.length_append]; omega
  have e1 := wi64 ((k : Int) + 1) (by omega) (by omega)
  have e2 : ((k : Int) + 1).toNat = k + 1 := by omega
  clear hx hy
  have Hyl := hide hyl
  clear hyl hxl hxs hys
  go_enter Tryd.func37, Tryd.ntmps37
  go_wp2
  go_region_with (go_at_call 38; refine (l2Nat_c (x ++ y) 10 _ (by omega) (by omega) hxyl).mono ?_; rintro e w1 ⟨rfl, hb1⟩; unfold natAns)
  all_goals
    have hb0 : Below (w.heap.size + 1) (w.alloc (.cells #[.bool false, .string ⟨#[]⟩, .string ⟨#[]⟩] 26)) w1 := by
      have := below_of_drew hb1; simpa using this
    have hzz : w.heap.size + 1 ≤ w1.heap.size := by have := hb1.size; simpa using this
    have hsx := fun h => rdN_size (b := 10) (l := x ++ y) (by omega) h
    have hvx : okN 10 (x ++ y) = true → natV 10 (x ++ y) = rdN 10 (x ++ y) := fun h => by unfold natV; rw [if_pos h]
    have Hov : Hid (pointM neg x y = if okN 10 (x ++ y) then lowest neg (rdN 10 (x ++ y)) (10 ^ y.length) else none) := hide rfl
    generalize natV 10 (x ++ y) = vx at *
    generalize okN 10 (x ++ y) = ox at *
    clear hb1 he1 he2 hcat hns hns2 e1
    cases ox
    case' false =>
      have c0 := newcell hb0 0
      have c1 := newcell hb0 1
      have c2 := newcell hb0 2
      have f0 := newfree hb0 0
      have f1 := newfree hb0 1
      have f2 := newfree hb0 2
      have hbX := below_new hb0
      simp at c0 c1 c2
      clear hb0 hsx hvx
      go_wp2
      refine bodyPost_ret (v := numAns none) (by simp [results, Tryd.results37, go_sem, numAns, numO, noNum, numV, c0, c1, c2]) rfl ⟨by rw [unhide Hov]; rfl, ?_⟩
      exact below_three hbX _ (Nat.le_refl _) _ _ _
    case' true =>
      have h1 := hsx rfl
      rw [← hvx rfl] at h1
      have Hov2 : Hid (pointM neg x y = lowest neg vx (10 ^ y.length)) := by rw [hvx rfl]; exact Hov
      clear hsx hvx Hov
      go_wp2
      go_loopw [10, 11] (fun dn i wr => ∃ j : Nat, k + 1 + j ≤ l.length ∧ dn = .string (dec (10 ^ j)) ∧ i = .int .i64 ((k + 1 + j : Nat) : Int) ∧ wr = w1) (fun _ i _ => l.length - (intOf i).toNat)
      case atStart => exact ⟨0, by omega, by rw [Nat.pow_zero, dec_one], by go_num, rfl⟩
      case round =>
        obtain ⟨j, hj, rfl, rfl, rfl⟩ := hrel
        have hds := dec_tens_size j
        by_cases hlt : k + 1 + j < l.length
        · have htn := dec_tens j
          have hns : ¬ 9223372036854775807 < (dec (10 ^ j)).size + 1 := by omega
          go_wp2
          go_roundw
          case rel => exact ⟨j + 1, by omega, rfl, by go_num, trivial⟩
          case measure => simp [intOf]; omega
        · have hjy : j = y.length := by have := unhide Hyl; omega
          go_wp2_with fail
          have hds2 : (dec (10 ^ y.length)).size ≤ 50000 := by rw [← hjy]; omega
          clear hjy
          refine (l2Make_c neg vx (10 ^ y.length) _ (by omega) hds2).mono ?_
          rintro e w3 ⟨rfl, hb3⟩
          have hn3 := below_next hb0 hzz hb3
          have c0 := newcell hn3.1 0
          have c1 := newcell hn3.1 1
          have c2 := newcell hn3.1 2
          have f0 := newfree hn3.1 0
          have f1 := newfree hn3.1 1
          have f2 := newfree hn3.1 2
          have hbX := below_new hn3.1
          simp at c0 c1 c2
          clear hb0 hb3 hn3
          -- behind l2Make's contract: 37 the function; the struct is stored and told. Wants: Hov2 : Hid (M = lowest ..), c0 c1 c2 f0 f1 f2 hbX, the answer's option lowest neg vx (10 ^ y.length)
          generalize lowest neg vx (10 ^ y.length) = o at *
          unfold numAns
          obtain ⟨n3, u3, d3, ho⟩ : ∃ n3 u3 d3, numO o = numV n3 u3 d3 := by
            cases o with
            | none => exact ⟨_, _, _, rfl⟩
            | some p => exact ⟨_, _, _, rfl⟩
          have Ho := hide ho
          rw [ho]
          unfold numV
          clear ho
          go_wp2
          refine bodyPost_ret (v := numAns o) (by simp [results, Tryd.results37, go_sem, numAns, unhide Ho, numV, c0, c1, c2]) rfl ⟨by rw [unhide Hov2], ?_⟩
          exact below_three hbX _ (Nat.le_refl _) _ _ _
end Go.Proofs.YtijgolgfcgkbiaaDoor
