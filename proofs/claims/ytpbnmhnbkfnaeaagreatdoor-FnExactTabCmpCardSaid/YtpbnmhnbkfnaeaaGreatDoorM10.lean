/- PROVED: for every two data (nodes with a sort, a text and a list of kids, and roots, all whatever they are), and whatever lies in memory besides three tables (two of unicode/utf8 and the program's table of tens), which read as their texts lay them, laws.FnExactTabCmp returns true and leaves both data and the table of tens as they were. The only conditions are the row's own: the three tables; the card ties them to their texts. -/
import Derived.Test.YtpbnmhnbkfnaeaaGreatDoorM9
import Derived.Test.YtpbnmhnbkfnaeaaGreatDoorCards
import Derived.Test.YtpbnmhnbkfnaeaaGreatDoorTie
import Derived.Handy
import Derived.Deep.RegionWith
import Derived.Deep.QuietTactic
import Derived.BigQuiet
import Derived.ProofKit
import Derived.OpenShut
import Derived.ShutString
import Derived.Lib.SmallJoins
import Derived.Lib.LaidU8
import Derived.Lib.LaidU8T
import Derived.Lib.LaidTab
import Derived.PinnedBridge
import Derived.ChangeOld
import Derived.ChangeVars
import Derived.Lay
import Derived.LaidOnce
import Derived.JoinedOf
import Derived.SevenTiedAt
/- The program's word as a token; whether a text spells an atom. -/
namespace Go.Proofs.YtpbnmhnbkfnaeaaGreatDoor
open Go.RowKit Nt

/-- what a word says -/
def tokM (l : List UInt8) : (Int × Int × List UInt8) × Bool :=
  if l = [46] then ((3, 0, []), true) else match parseM l 10 with
    | some p => ((10, 1, printT p), true)
    | none => ((10, 2, l), wordM l)
theorem spells_tok (s : Int) (t : List UInt8) : spellsM s t = ((tokM (headW t)).2 && decide ((tokM (headW t)).1 = (10, s, t))) := by
  unfold spellsM tokM
  by_cases h : headW t = [46]
  · rw [if_pos h, if_pos h]
    simp
  · rw [if_neg h, if_neg h]
    cases parseM (headW t) 10 with
    | some p =>
      simp only [Bool.true_and]
      rw [Bool.eq_iff_iff]
      simp only [Bool.and_eq_true, decide_eq_true_eq, Prod.mk.injEq, true_and]
      constructor
      · rintro ⟨h1, h2⟩; exact ⟨h1.symm, h2⟩
      · rintro ⟨h1, h2⟩; exact ⟨h1.symm, h2⟩
    | none =>
      rw [Bool.eq_iff_iff]
      simp only [Bool.and_eq_true, decide_eq_true_eq, Prod.mk.injEq, true_and]
      constructor
      · rintro ⟨⟨h1, h2⟩, h3⟩; exact ⟨h3, h1.symm, h2⟩
      · rintro ⟨h3, h1, h2⟩; exact ⟨⟨h1.symm, h2⟩, h3⟩
def tokV (k : Int × Int × List UInt8) : Value := .agg #[.int .i64 k.1, .int .i64 k.2.1, .string (B k.2.2), .int .i64 0]

theorem tok_guard (W : World) (x y : Operand) (xs ys : Array Value) : (eqGuard .eql 192 x y (.agg xs) (.agg ys)).run Tryz.prog W = .ok () W := run_eqGuard_agg W .eql 192 x y xs ys (by kernel_rfl)
theorem tok_eq (W : World) (k k' : Int × Int × List UInt8) : (binOp .eql 192 (tokV k) (tokV k')).run Tryz.prog W = .ok (.bool (decide (k = k'))) W := by
  obtain ⟨a, b, l⟩ := k
  obtain ⟨a', b', l'⟩ := k'
  have hp : Tryz.prog.stoodInHeld 192 = false := by kernel_rfl
  unfold tokV
  rw [run_eql_struct]
  rw [show (10000 : Nat) = 9999 + 1 from rfl, run_equalIn_agg W 9999 192 _ _ (by kernel_rfl) hp]
  simp [go_sem, Op.eqFields, Program.fieldsOf, Tryz.underlying192, part, Tryz.underlying3, Tryz.underlying9, B_tl]
  by_cases h1 : a = a' <;> by_cases h2 : b = b' <;> by_cases h3 : l = l' <;> simp [h1, h2, h3]
theorem readAtom_c (s : Int) (t : List UInt8) (w : World) :
    Calls Tryz.prog 166 #[.int .i64 s, .string (B t)] w fun e w' => e = .returned (tokV (10, s, t)) ∧ Below w.heap.size w w' := by
  have HB := hide (step_a (Below.refl w.heap.size w) (.cells #[.int .i64 10, .int .i64 s, .string (B t), .int .i64 0] 192))
  go_enter Tryz.func166, Tryz.ntmps166
  go_wp2_with fail
  refine bodyPost_ret (v := tokV (10, s, t)) (by simp [results, Tryz.results166, go_sem, tokV]) rfl ⟨rfl, ?_⟩
  exact unhide HB

set_option maxHeartbeats 4000000 in
set_option maxRecDepth 100000 in
theorem token_c (l : List UInt8) (w : World) (hs : l.length ≤ 1048576) (hT : Tabz w) (hN : Tens w) (h2 : 3 < w.heap.size) :
    Calls Tryz.prog 248 #[.agg #[.string (B l)]] w fun e w' => e = .returned (.tuple #[tokV (tokM l).1, .bool (tokM l).2]) ∧ Below w.heap.size w w' := by
  have hb0 := step_a (step_a (Below.refl w.heap.size w) (.cells #[.string (B l)] 222)) (.cells #[.int .i64 0, .int .i64 0, .string ⟨#[]⟩, .int .i64 0] 192)
  have HB0 := hide hb0
  have HC0 := hide (AtC.new (w.alloc (.cells #[.string (B l)] 222)) #[.int .i64 0, .int .i64 0, .string ⟨#[]⟩, .int .i64 0] 192)
  rw [World.size_alloc] at HC0
  by_cases h46 : l = [46]
  · have e1 : ((B l).toList == [46]) = true := by rw [h46]; exact (by rw [B_tl]; rfl)
    have HQ : Hid (tokM l = ((3, 0, []), true)) := hide (by unfold tokM; rw [if_pos h46])
    have HBB := hide (step_a (step_a (Below.refl w.heap.size w) (.cells #[.string (B l)] 222)) (.cells #[.int .i64 3, .int .i64 0, .string ⟨#[]⟩, .int .i64 0] 192))
    clear h46 hb0
    go_enter Tryz.func248, Tryz.ntmps248
    go_wp2_with fail
    refine bodyPost_ret (v := .tuple #[tokV (3, 0, []), .bool true]) (by simp [results, Tryz.results248, go_sem, tokV]; rfl) rfl ⟨by rw [unhide HQ], ?_⟩
    exact unhide HBB
  · have e1 : ((B l).toList == [46]) = false := by rw [B_tl, beq_eq_false_iff_ne]; exact h46
    have HNP := hide (fun W h => implNumParse_c l 10 W (by omega) h)
    cases hp : parseM l 10 with
    | none =>
      have HQ : Hid (tokM l = ((10, 2, l), wordM l)) := hide (by unfold tokM; rw [if_neg h46, hp])
      rw [hp, show numAns none = .tuple #[.agg #[.bool false, .string ⟨#[]⟩, .string ⟨#[]⟩], .bool false] from rfl] at HNP
      clear h46 hp
      go_enter Tryz.func248, Tryz.ntmps248
      go_wp2_with fail
      obtain ⟨W, hW⟩ : ∃ W, (w.alloc (.cells #[.string (B l)] 222)).alloc (.cells #[.int .i64 0, .int .i64 0, .string ⟨#[]⟩, .int .i64 0] 192) = W := ⟨_, rfl⟩
      rw [hW] at hb0 HB0 HC0 ⊢
      clear hW
      refine (unhide HNP W (hN.belowB hb0 (by omega))).mono ?_
      rintro e w1 ⟨rfl, hb1⟩
      have hb2 := step_a hb1 (.cells #[.bool false, .string ⟨#[]⟩, .string ⟨#[]⟩] 79)
      have HB2 := hide (step_b (unhide HB0) hb2)
      have HC2 := hide ((unhide HC0).below hb2)
      clear hb1 hb2 HB0 HC0
      go_wp2_with fail
      refine (readAtom_c 2 l _).mono ?_
      rintro e w3 ⟨rfl, hb3⟩
      have HB3 := hide (step_b (unhide HB2) hb3)
      have HC3 := hide ((unhide HC2).below hb3)
      clear hb3 HB2 HC2
      go_wp2_with fail
      have h := readSpellsSymbol_c l w3 hs (hT.below (by omega) (unhide HB3))
      refine h.mono ?_
      clear h
      rintro e w4 ⟨rfl, hb4⟩
      have HB4 := hide (step_b (unhide HB3) hb4)
      have HC := hide ((unhide HC3).below hb4)
      clear hb4 HB3 HC3
      -- the token is stored into its box: w4 the world, HB4 its fact since w, (10, 2, l) the token, (wordM l) its value is so
      have c0 : (w4).cell? ⟨w.heap.size + 1, 0, none⟩ = some (.int .i64 0) := (unhide HC).c 0
      have c1 : (w4).cell? ⟨w.heap.size + 1, 1, none⟩ = some (.int .i64 0) := (unhide HC).c 1
      have c2 : (w4).cell? ⟨w.heap.size + 1, 2, none⟩ = some (.string ⟨#[]⟩) := (unhide HC).c 2
      have c3 : (w4).cell? ⟨w.heap.size + 1, 3, none⟩ = some (.int .i64 0) := (unhide HC).c 3
      have cf := (unhide HC).f
      have hlc := (unhide HC).lt
      unfold tokV
      go_wp2_with fail
      have hcc := And.intro c0 (And.intro c1 (And.intro c2 c3))
      refine bodyPost_ret (v := .tuple #[tokV (10, 2, l), .bool (wordM l)]) (by simp [results, Tryz.results248, go_sem, hcc, tokV]) rfl ⟨?_, ?_⟩
      · rw [unhide HQ]
      · exact ((((unhide HB4).setCell (by show w.heap.size ≤ w.heap.size + 1; omega) _).setCell (by show w.heap.size ≤ w.heap.size + 1; omega) _).setCell (by show w.heap.size ≤ w.heap.size + 1; omega) _).setCell (by show w.heap.size ≤ w.heap.size + 1; omega) _
    | some p =>
      obtain ⟨n, u, d⟩ := p
      have hok := parse_ok hp
      obtain ⟨_, _, hl1, hl2, _⟩ := ok_parts hok
      have HQ : Hid (tokM l = ((10, 1, printM n (txl 10 u) (txl 10 d) 10), true)) := hide (by unfold tokM; rw [if_neg h46, hp]; rfl)
      rw [hp, show numAns (some (n, u, d)) = .tuple #[.agg #[.bool n, .string (B (txl 10 u)), .string (B (txl 10 d))], .bool true] from rfl] at HNP
      clear h46 hp hok
      go_enter Tryz.func248, Tryz.ntmps248
      go_wp2_with fail
      obtain ⟨W, hW⟩ : ∃ W, (w.alloc (.cells #[.string (B l)] 222)).alloc (.cells #[.int .i64 0, .int .i64 0, .string ⟨#[]⟩, .int .i64 0] 192) = W := ⟨_, rfl⟩
      rw [hW] at hb0 HB0 HC0 ⊢
      clear hW
      refine (unhide HNP W (hN.belowB hb0 (by omega))).mono ?_
      rintro e w1 ⟨rfl, hb1⟩
      have hb2 := step_a hb1 (.cells #[.bool n, .string (B (txl 10 u)), .string (B (txl 10 d))] 79)
      have HB2 := hide (step_b (unhide HB0) hb2)
      have HC2 := hide ((unhide HC0).below hb2)
      clear hb1 hb2 HB0 HC0
      go_wp2_with fail
      have h := implNumPrint_c n (txl 10 u) (txl 10 d) 10 (w1.alloc (.cells #[.bool n, .string (B (txl 10 u)), .string (B (txl 10 d))] 79)) (by omega) (by omega) (hN.belowB (unhide HB2) (by omega))
      refine h.mono ?_
      clear h
      rintro e w3 ⟨rfl, hb3⟩
      have HB3 := hide (step_b (unhide HB2) hb3)
      have HC3 := hide ((unhide HC2).below hb3)
      clear hb3 HB2 HC2
      obtain ⟨P, hP⟩ : ∃ P, printM n (txl 10 u) (txl 10 d) 10 = P := ⟨_, rfl⟩
      rw [hP] at HQ ⊢
      clear hP
      go_wp2_with fail
      refine (readAtom_c 1 P _).mono ?_
      rintro e w4 ⟨rfl, hb4⟩
      have HB4 := hide (step_b (unhide HB3) hb4)
      have HC := hide ((unhide HC3).below hb4)
      clear hb4 HB3 HC3
      -- the token is stored into its box: w4 the world, HB4 its fact since w, (10, 1, P) the token, true its value is so
      have c0 : (w4).cell? ⟨w.heap.size + 1, 0, none⟩ = some (.int .i64 0) := (unhide HC).c 0
      have c1 : (w4).cell? ⟨w.heap.size + 1, 1, none⟩ = some (.int .i64 0) := (unhide HC).c 1
      have c2 : (w4).cell? ⟨w.heap.size + 1, 2, none⟩ = some (.string ⟨#[]⟩) := (unhide HC).c 2
      have c3 : (w4).cell? ⟨w.heap.size + 1, 3, none⟩ = some (.int .i64 0) := (unhide HC).c 3
      have cf := (unhide HC).f
      have hlc := (unhide HC).lt
      unfold tokV
      go_wp2_with fail
      have hcc := And.intro c0 (And.intro c1 (And.intro c2 c3))
      refine bodyPost_ret (v := .tuple #[tokV (10, 1, P), .bool true]) (by simp [results, Tryz.results248, go_sem, hcc, tokV]) rfl ⟨?_, ?_⟩
      · rw [unhide HQ]
      · exact ((((unhide HB4).setCell (by show w.heap.size ≤ w.heap.size + 1; omega) _).setCell (by show w.heap.size ≤ w.heap.size + 1; omega) _).setCell (by show w.heap.size ≤ w.heap.size + 1; omega) _).setCell (by show w.heap.size ≤ w.heap.size + 1; omega) _
end Go.Proofs.YtpbnmhnbkfnaeaaGreatDoor
/- The program's ReadOk: does a text spell an atom, do texts fit. -/
namespace Go.Proofs.YtpbnmhnbkfnaeaaGreatDoor
open Go.RowKit Nt

set_option maxHeartbeats 4000000 in
set_option maxRecDepth 100000 in
theorem readSpells_c (s : Int) (t : List UInt8) (w : World) (hs : t.length ≤ 1048576) (hT : Tabz w) (hN : Tens w) (h2 : 3 < w.heap.size) :
    Calls Tryz.prog 135 #[.int .i64 s, .string (B t)] w fun e w' => e = .returned (.bool (spellsM s t)) ∧ Below w.heap.size w w' := by
  have hle : (headW t).length ≤ 1048576 := by
    have : (headW t).length ≤ t.length := (List.takeWhile_prefix _).length_le
    omega
  have HQ := hide (spells_tok s t)
  have HW := hide (readWordOf_c t w hs)
  have HTK := hide (fun W hT hN h => token_c (headW t) W hle hT hN h)
  obtain ⟨K, hK⟩ : ∃ K, tokM (headW t) = K := ⟨_, rfl⟩
  rw [hK] at HQ HTK
  obtain ⟨⟨k1, k2, k3⟩, ok⟩ := K
  simp only at HQ HTK
  have hte := fun W => tok_eq W (k1, k2, k3) (10, s, t)
  obtain ⟨D, hD⟩ : ∃ D, decide ((k1, k2, k3) = (10, s, t)) = D := ⟨_, rfl⟩
  rw [hD] at HQ hte
  unfold tokV at hte HTK
  simp only at hte HTK
  have htg := tok_guard
  clear hK hle hD
  have HAT := hide (fun W => readAtom_c s t W)
  unfold tokV at HAT
  simp only at HAT
  go_enter Tryz.func135, Tryz.ntmps135
  go_wp2_with fail
  refine (unhide HW).mono ?_
  rintro e w1 ⟨rfl, hb1⟩
  have HB1 := hide hb1
  have hsz1 := hb1.size
  clear hb1
  go_wp2_with fail
  refine (unhide HTK w1 (hT.below (by omega) (unhide HB1)) (hN.belowB (unhide HB1) (by omega)) (by omega)).mono ?_
  rintro e w2 ⟨rfl, hb2⟩
  have HB2 := hide (step_a (step_b (unhide HB1) hb2) (.cells #[.int .i64 k1, .int .i64 k2, .string (B k3), .int .i64 0] 192))
  have HC := hide (AtC.new w2 #[.int .i64 k1, .int .i64 k2, .string (B k3), .int .i64 0] 192)
  clear hb2
  go_wp2_with fail
  obtain ⟨W, hW⟩ : ∃ W, w2.alloc (.cells #[.int .i64 k1, .int .i64 k2, .string (B k3), .int .i64 0] 192) = W := ⟨_, rfl⟩
  rw [hW] at HB2 HC ⊢
  clear hW
  have c0 : W.cell? ⟨w2.heap.size, 0, none⟩ = some (.int .i64 k1) := (unhide HC).c 0
  have c1 : W.cell? ⟨w2.heap.size, 1, none⟩ = some (.int .i64 k2) := (unhide HC).c 1
  have c2 : W.cell? ⟨w2.heap.size, 2, none⟩ = some (.string (B k3)) := (unhide HC).c 2
  have c3 : W.cell? ⟨w2.heap.size, 3, none⟩ = some (.int .i64 0) := (unhide HC).c 3
  cases ok with
  | false =>
    have HQ2 : Hid (spellsM s t = false) := hide (by rw [unhide HQ]; rfl)
    go_region
    all_goals
      go_wp2_with fail
      go_ret
      exact ⟨by rw [unhide HQ2]; rfl, by first | exact below_drewN (unhide HB2) _ | exact (unhide HB2).drew | exact unhide HB2⟩
  | true =>
    have HQ2 : Hid (spellsM s t = D) := hide (by rw [unhide HQ]; rfl)
    go_region_with ((go_at_call 166; refine (unhide HAT W.drew).mono ?_; rintro e w3 ⟨rfl, hb3⟩; have HB3 : Hid (Below W.heap.size W w3) := (Below.refl _ _).drew.trans hb3; have HC3 := hide ((unhide HC).below (unhide HB3)); have d0 : w3.cell? ⟨w2.heap.size, 0, none⟩ = some (.int .i64 k1) := (unhide HC3).c 0; have d1 : w3.cell? ⟨w2.heap.size, 1, none⟩ = some (.int .i64 k2) := (unhide HC3).c 1; have d2 : w3.cell? ⟨w2.heap.size, 2, none⟩ = some (.string (B k3)) := (unhide HC3).c 2; have d3 : w3.cell? ⟨w2.heap.size, 3, none⟩ = some (.int .i64 0) := (unhide HC3).c 3; clear hb3))
    all_goals
      go_wp2_with fail
      go_ret
      exact ⟨by rw [unhide HQ2]; rfl, step_b (unhide HB2) (unhide HB3)⟩
end Go.Proofs.YtpbnmhnbkfnaeaaGreatDoor
/- impl's checks of data: places of kids, numbers of kids. -/
namespace Go.Proofs.YtpbnmhnbkfnaeaaGreatDoor
open Go.RowKit Go.Shelf Nt
attribute [local go_sem] Oper.semAt_some

set_option maxHeartbeats 1000000 in
theorem hasPlace_c (a : Option Addr) (n c : Nat) (rv : Value) (k : Int) (w : World) :
    Calls Tryz.prog 109 #[.agg #[.slice a n c, rv], .int .i64 k] w fun e w' => e = .returned (.bool (inR k n)) ∧ Below w.heap.size w w' := by
  have HB := hide (step_a (Below.refl w.heap.size w) (.cells #[.slice a n c, rv] 26))
  by_cases h0 : 0 ≤ k
  · by_cases h1 : k < n
    · have HR : Hid (inR k n = true) := by show _ = _; unfold inR; simp [h0, h1]
      go_enter Tryz.func109, Tryz.ntmps109
      go_wp2
      go_ret
      exact ⟨by rw [unhide HR]; rfl, unhide HB⟩
    · have HR : Hid (inR k n = false) := by show _ = _; unfold inR; simp [h1]
      go_enter Tryz.func109, Tryz.ntmps109
      go_wp2
      go_ret
      exact ⟨by rw [unhide HR]; rfl, unhide HB⟩
  · have HR : Hid (inR k n = false) := by show _ = _; unfold inR; simp [h0]
    go_enter Tryz.func109, Tryz.ntmps109
    go_wp2
    go_ret
    exact ⟨by rw [unhide HR]; rfl, unhide HB⟩

set_option maxHeartbeats 1000000 in
theorem kidsFit_c (s : Int) (t : ByteArray) (a : Option Addr) (n c : Nat) (w : World) (hn : n ≤ 1048576) :
    Calls Tryz.prog 110 #[.agg #[.int .i64 s, .string t, .slice a n c]] w fun e w' => e = .returned (.bool (cntOk s n)) ∧ Below w.heap.size w w' := by
  have HB := hide (step_a (Below.refl w.heap.size w) (.cells #[.int .i64 s, .string t, .slice a n c] 56))
  by_cases h7 : s = 7
  · subst h7
    have HR : Hid (cntOk 7 n = ((n : Int) == 2)) := by
      show _ = _; unfold cntOk; rw [if_pos rfl]
      by_cases h : n = 2
      · subst h; rfl
      · rw [beq_eq_false_iff_ne.2 h, beq_eq_false_iff_ne.2 (by omega)]
    go_enter Tryz.func110, Tryz.ntmps110
    go_wp2
    go_ret
    exact ⟨by rw [unhide HR]; rfl, unhide HB⟩
  · by_cases h8 : s = 8
    · subst h8
      have HR : Hid (cntOk 8 n = decide ((n : Int) ≤ 40)) := by
        show _ = _; unfold cntOk; rw [if_neg h7, if_pos rfl]
        by_cases h : n ≤ 40
        · rw [decide_eq_true h, decide_eq_true (by omega)]
        · rw [decide_eq_false h, decide_eq_false (by omega)]
      go_enter Tryz.func110, Tryz.ntmps110
      go_wp2
      go_ret
      exact ⟨by rw [unhide HR]; rfl, unhide HB⟩
    · have HR : Hid (cntOk s n = ((n : Int) == 0)) := by
        show _ = _; unfold cntOk; rw [if_neg h7, if_neg h8]
        by_cases h : n = 0
        · subst h; rfl
        · rw [beq_eq_false_iff_ne.2 h, beq_eq_false_iff_ne.2 (by omega)]
      go_enter Tryz.func110, Tryz.ntmps110
      go_wp2
      go_ret
      exact ⟨by rw [unhide HR]; rfl, unhide HB⟩
end Go.Proofs.YtpbnmhnbkfnaeaaGreatDoor
/- impl.readIsPlaced: kids and roots are places. -/
namespace Go.Proofs.YtpbnmhnbkfnaeaaGreatDoor
open Go.RowKit Go.Shelf Nt
attribute [local go_sem] Oper.semAt_some

def kidsIn (n : Nat) (nd : Nd) : Bool := nd.2.2.all (inR · n)
def plcOk (d : Dt) : Bool := d.2.all (inR · d.1.length) && d.1.all (kidsIn d.1.length)

theorem ints_cell {W : World} {v : Value} {zs : List Int} (h : IntsAt W v zs) : ∃ a cap, v = .slice a zs.length cap ∧ zs.length ≤ cap ∧ cap ≤ maxLen ∧ ∀ j x, zs[j]? = some x → ∃ b off, a = some ⟨b, off, none⟩ ∧ b < W.heap.size ∧ W.cell? ⟨b, off + j, none⟩ = some (.int .i64 x) := by
  obtain ⟨a, cap, rfl, h1, h2, h3⟩ := h
  refine ⟨a, cap, rfl, h1, h2, fun j x hx => ?_⟩
  have hj := (List.getElem?_eq_some_iff.1 hx).1
  obtain ⟨b, off, rfl, hb, hc⟩ := h3 (by omega)
  exact ⟨b, off, rfl, hb, hc j x hx⟩

set_option maxRecDepth 100000 in
set_option maxHeartbeats 2000000 in
theorem readIsPlaced_c (nv rv : Value) (d : Dt) (w : World) (h : DataAt w (.agg #[nv, rv]) d) (hs : d.1.length ≤ 1048576 ∧ d.2.length ≤ 1048576 ∧ NsSmall d.1) :
    Calls Tryz.prog 70 #[.agg #[nv, rv]] w fun e w' => e = .returned (.bool (plcOk d)) ∧ Below w.heap.size w w' := by
  obtain ⟨nv', rv', e, hn0, hr0⟩ := h
  simp only [Value.agg.injEq, Array.mk.injEq, List.cons.injEq, and_true] at e
  obtain ⟨rfl, rfl⟩ := e
  have HN := hide hn0
  have HR := hide hr0
  obtain ⟨na, nc, rfl, hn1, hn2, _⟩ := hn0
  obtain ⟨ra, rc, rfl, hr1, hr2, _⟩ := hr0
  obtain ⟨s1, s2, s3⟩ := hs
  have HS3 := hide s3
  clear s3
  unfold maxLen at hn2 hr2
  have HB := hide (step_a (step_a (Below.refl w.heap.size w) (.cells #[.slice na d.1.length nc, .slice ra d.2.length rc] 26)) (.cells #[.bool false] 4))
  have HD := hide ((AtC2.new w (.slice na d.1.length nc) (.slice ra d.2.length rc) 26).alloc (.cells #[.bool false] 4))
  have HF := hide (Boxed.new (w.alloc (.cells #[.slice na d.1.length nc, .slice ra d.2.length rc] 26)) 4 (.bool false))
  rw [World.size_alloc] at HF
  refine (callsIn_wide (n := 3)).1 ?_
  refine callsIn_of_wp_marks Tryz.func70 rfl trivial ?_ rfl
  simp only [Tryz.ntmps70, List.size_toArray, List.length_cons, List.length_nil, Nat.reduceAdd, Nat.reduceSub, Array.replicate_succ, Array.replicate_zero, List.push_toArray, List.append_toArray, List.nil_append, List.cons_append]
  gi_wp2_with fail
  gi_loopw [11] (fun i wr => ∃ k : Nat, k ≤ d.2.length ∧ i = .int .i64 k ∧ (d.2.take k).all (inR · d.1.length) = true ∧ Below w.heap.size w wr ∧ Hid (AtC2 wr w.heap.size (.slice na d.1.length nc) (.slice ra d.2.length rc) 26) ∧ Hid (Boxed wr (w.heap.size + 1) 4 (.bool false)))
    (fun i _ => d.2.length - (intOf i).toNat)
  case atStart => exact ⟨0, by omega, rfl, by simp, unhide HB, HD, HF⟩
  case round =>
    obtain ⟨k, hk, rfl, hall, hbl, HDk, HFk⟩ := hrel
    have d0 := (unhide HDk).n0
    have d1 := (unhide HDk).n1
    have f0 := (unhide HFk).cell
    have f1 := (unhide HFk).frozen
    by_cases hlt : k < d.2.length
    · obtain ⟨x, hx⟩ : ∃ x, d.2[k]? = some x := ⟨_, List.getElem?_eq_getElem hlt⟩
      obtain ⟨a, cap, e1, _, _, h3⟩ := ints_cell ((unhide HR).below hbl)
      injection e1 with e2 e3 e4
      obtain ⟨b, off, rfl, hb, hcx⟩ := h3 k x hx
      subst e2
      clear e4 h3
      have ht := all_take_step (p := (inR · d.1.length)) hx
      rw [hall, Bool.true_and] at ht
      have HT := hide ht
      clear ht
      gi_wp2_with fail
      refine ⟨trivial, (callsIn_wide.2 (hasPlace_c _ _ _ _ _ wr)).mono ?_⟩
      rintro e w1 ⟨rfl, hb1⟩
      have HD1 := hide ((unhide HDk).below hb1)
      have HF1 := hide (boxed_below (unhide HFk) hb1)
      have hbl1 := step_b hbl hb1
      clear d0 d1 f0 f1
      have d0 := (unhide HD1).n0
      have d1 := (unhide HD1).n1
      have f0 := (unhide HF1).cell
      have f1 := (unhide HF1).frozen
      cases hr : inR x d.1.length with
      | true =>
        gi_wp2_with fail
        go_roundw
        case rel => exact ⟨k + 1, by omega, by go_num, by rw [unhide HT]; exact hr, hbl1, HD1, HF1⟩
        case measure => simp [intOf]; omega
      | false =>
        have HP : Hid (plcOk d = false) := hide (by unfold plcOk; rw [all_false hx hr, Bool.false_and])
        have HF2 := hide ((unhide HF1).set (.bool false))
        have f2 := (unhide HF2).cell
        gi_wp2_with fail
        refine ⟨.bool false, by simp [results, Tryz.f70, go_sem, f2], by rw [unhide HP], hbl1.setCell (p := ⟨w.heap.size + 1, 0, none⟩) (Nat.le_succ _) _⟩
    · obtain rfl : k = d.2.length := by omega
      rw [List.take_of_length_le (Nat.le_refl _)] at hall
      have HALL := hide hall
      clear hall hk hlt HR HB HD HF
      gi_wp2_with fail
      refine wpIn_loop (fun a' w' => ∃ (Ds : List Nat) (k : Nat) (u6 u24 u25 u26 u27 u28 u34 : Value), a' = ⟨#[.agg #[.slice na d.1.length nc, .slice ra d.2.length rc], .pointer (some ⟨w.heap.size, 0, none⟩), .pointer (some ⟨w.heap.size + 1, 0, none⟩), undef, u4, undef, u6, undef, .pointer (some ⟨w.heap.size, 1, none⟩), .slice ra d.2.length rc, .int .i64 ↑d.2.length, .int .i64 ↑d.2.length, .bool false, u13, u14, u15, u16, u17, u18, u19, .pointer (some ⟨w.heap.size, 0, none⟩), .slice na d.1.length nc, .int .i64 ↑d.1.length, .int .i64 k, u24, u25, u26, u27, u28, undef, undef, undef, undef, undef, u34], Ds.map markD⟩ ∧
          k ≤ d.1.length ∧ (d.1.take k).all (kidsIn d.1.length) = true ∧ Below w.heap.size w w' ∧ Hid (AtC2 w' w.heap.size (.slice na d.1.length nc) (.slice ra d.2.length rc) 26) ∧ Hid (Boxed w' (w.heap.size + 1) 4 (.bool false)) ∧ Hid (Marks w.heap.size w' Ds))
        (fun a' _ => d.1.length - (intOf (a'.tmps.getD 23 undef)).toNat) ?_ ?_
      · exact ⟨[], 0, _, _, _, _, _, _, _, rfl, by omega, by simp, hbl, HDk, HFk, hide (Marks.nil _ _)⟩
      · clear HDk HFk d0 d1 f0 f1 hbl
        rintro _ wr ⟨Ds, k, u6, u24, u25, u26, u27, u28, u34, rfl, hk, hall, hbl, HDk, HFk, HMk⟩
        have d0 := (unhide HDk).n0
        have d1 := (unhide HDk).n1
        by_cases hlt : k < d.1.length
        · obtain ⟨nd, hnd⟩ : ∃ nd, d.1[k]? = some nd := ⟨_, List.getElem?_eq_getElem hlt⟩
          obtain ⟨b, off, cap, e1, _, _, hb⟩ := ((unhide HN).below hbl).form (by omega)
          injection e1 with e2 e3 e4
          subst e2
          have hnode := ((unhide HN).below hbl).node hnd
          obtain ⟨kv, c0, c1, c2, htl, hki⟩ := hnode
          have HKI := hide hki
          obtain ⟨ka, kc, rfl, hk1, hk2, _⟩ := hki
          unfold maxLen at hk2
          have hks := (unhide HS3) nd (List.mem_of_getElem? hnd)
          clear e4
          gi_wp2_with fail
          refine ⟨trivial, (callsIn_wide.2 (beside_c _ _ _ _)).mono ?_⟩
          rintro e w1 ⟨rfl, rfl⟩
          obtain ⟨X, hX⟩ : ∃ X, Obj.cells #[.int .i64 nd.1, .string (B nd.2.1), .slice ka nd.2.2.length kc] 56 = X := ⟨_, rfl⟩
          have hbox : ((wr.alloc X).alloc X).cell? ⟨wr.heap.size + 1, 2, none⟩ = some (.slice ka nd.2.2.length kc) := by
            rw [← hX]
            simp
          have HX := hide hX
          clear hX
          have hB0 := step_a (step_a (Below.refl wr.heap.size wr) X) X
          have hsz : ((wr.alloc X).alloc X).heap.size = wr.heap.size + 2 := by simp
          have hD0 := (unhide HDk).below hB0
          have hF0 := boxed_below (unhide HFk) hB0
          have hM0 := (unhide HMk).below hB0
          gi_wp2_with fail
          rw [unhide HX]
          obtain ⟨W0, hW0⟩ : ∃ W0, (wr.alloc X).alloc X = W0 := ⟨_, rfl⟩
          rw [hW0] at hbox hB0 hsz hD0 hF0 hM0 ⊢
          have hwr := hbl.size
          clear HX hW0
          refine wpIn_rangeFunc_ownG rfl (by decide) (gf := 117) (lb := #[.pointer (some ⟨wr.heap.size + 1, 0, none⟩)]) rfl trivial (enters_of Tryz.func117 (by kernel_rfl) rfl)
            (beside_stops Fence.wide 2 trivial rfl (by decide) (wr.heap.size + 1) wr.heap.size (.slice ka nd.2.2.length kc) nd.2.2 (by omega) W0 (by omega) (by omega) hbox ((unhide HKI).in.below hB0))
            belowK_t (belowK_b (by omega)) (Below.refl _ _) (fun _ => rfl)
            (fun pre W => pre.all (inR · d.1.length) = true ∧ Below W0.heap.size W0 W)
            (fun c pre W => (c = .ret ∧ ∃ last ∈ pre, inR last d.1.length = false) ∧ Boxed W (w.heap.size + 1) 4 (.bool false) ∧ Kept (fun b => b = w.heap.size + 1) W0 W)
            (OwnFrom.and (ownFrom_pure _ _) (ownFrom_below (Nat.le_refl _) (Nat.le_refl _)))
            (fun c => OwnFrom.and (ownFrom_pure _ _) (OwnFrom.and (Own.from (boxed_own _ _ _) _) (ownFrom_kept (Nat.le_refl _))))
            ⟨rfl, Below.refl _ _⟩
            (fun x => ⟨#[.agg #[.slice (some ⟨b, off, none⟩) d.1.length nc, .slice ra d.2.length rc], .pointer (some ⟨w.heap.size, 0, none⟩), .pointer (some ⟨w.heap.size + 1, 0, none⟩), undef, u4, undef, .pointer (some ⟨wr.heap.size, 0, none⟩), .int .i64 x, .pointer (some ⟨w.heap.size, 1, none⟩), .slice ra d.2.length rc, .int .i64 ↑d.2.length, .int .i64 ↑d.2.length, .bool false, u13, u14, u15, u16, u17, u18, u19, .pointer (some ⟨w.heap.size, 0, none⟩), .slice (some ⟨b, off, none⟩) d.1.length nc, .int .i64 ↑d.1.length, .int .i64 ↑k, .bool true, .pointer (some ⟨b, off + k * 3, none⟩), .agg #[.int .i64 nd.1, .string (B nd.2.1), .slice ka nd.2.2.length kc], .agg #[.int .i64 nd.1, .string (B nd.2.1), .slice ka nd.2.2.length kc], .func (Fn.func 117) #[] #[.pointer (some ⟨wr.heap.size + 1, 0, none⟩)], .int .i64 x, undef, undef, undef, undef, u34], []⟩) ?assign ?body ?done ?stop
          case assign =>
            intro l x W K hK
            gi_wp2
            exact hK
          case body =>
            rintro l pre x W ⟨hpre, hbw⟩ _
            have hDw := hide (hD0.below hbw)
            have hFw := hide (boxed_below hF0 hbw)
            have d0 := (unhide hDw).n0
            have d1 := (unhide hDw).n1
            have h12 : 1 ≤ 3 - 1 - 1 := by decide
            gi_wp2_with fail
            refine ⟨trivial, (CallsIn.inRound l (callsIn_wide.2 (hasPlace_c _ _ _ _ _ W))).mono ?_⟩
            rintro e w2 ⟨rfl, hb2⟩
            have hFw2 := hide (boxed_below (unhide hFw) hb2)
            have f0 := (unhide hFw2).cell
            have f1 := (unhide hFw2).frozen
            cases hr : inR x d.1.length with
            | true =>
              gi_wp2_with fail
              exact ⟨(keepsOthers_below hb2).from _, hb2.mono (by have := hbw.size; omega), by rw [List.all_append, hpre]; simp [hr], step_b hbw hb2⟩
            | false =>
              gi_wp2_with fail
              exact ⟨((keepsOthers_below hb2).trans (KeepsOthers.setCell _ _ _)).from _, ⟨rfl, x, by simp, hr⟩, (unhide hFw2).set _, ((Kept.of_below hbw).trans (Kept.of_below hb2)).trans (Kept.set (S := fun b => b = w.heap.size + 1) (a := ⟨w.heap.size + 1, 0, none⟩) rfl _)⟩
          case done =>
            rintro D ys W hD rfl ⟨hpre, hbw⟩ hK
            have HM1 := hide (((hM0.below hbw).cons (D := D) (by have := hB0.size; omega) hK (hM0.fresh hD)))
            have HD1 := hide (hD0.below hbw)
            have HF1 := hide (boxed_below hF0 hbw)
            have HT : Hid ((d.1.take (k + 1)).all (kidsIn d.1.length) = true) := hide (by
              rw [List.take_add_one, hnd, List.all_append, hall]
              simpa [kidsIn] using hpre)
            have HB1 := hide (step_b (step_b hbl hB0) hbw)
            gi_wp2_with fail
            refine ⟨⟨D :: Ds, k + 1, _, _, _, _, _, _, _, rfl, by omega, unhide HT, unhide HB1, HD1, HF1, HM1⟩, by simp [intOf]; omega⟩
          case stop =>
            rintro D c pre W hD hpr ⟨⟨rfl, last, hl, hf⟩, hbx, hkp⟩ hK
            have hm := (hM0.kept hkp (fun D hD e => by subst e; have := (hM0.at' _ hD).2; rw [show W0.heap[w.heap.size + 1]? = _ from hF0] at this; cases this)).cons (D := D) (by have := hB0.size; omega) hK (hM0.fresh hD)
            have HP : Hid (plcOk d = false) := hide (by
              have h1 : kidsIn d.1.length nd = false := by
                unfold kidsIn
                rw [List.all_eq_false]
                exact ⟨last, List.IsPrefix.mem hl hpr, by simp [hf]⟩
              unfold plcOk
              rw [Bool.and_eq_false_iff]
              right
              rw [List.all_eq_false]
              exact ⟨nd, List.mem_of_getElem? hnd, by simp [h1]⟩)
            have HB1 := hide ((step_b hbl hB0).trans (hkp.below (base := w.heap.size) (by have := hB0.size; omega) (fun b e => by omega)))
            gi_wp2_with fail
            refine leaves_marks w.heap.size (D :: Ds) W hm (fun w' hst => ?_)
            have f2 := (still_boxed hst hbx).cell
            refine ⟨.bool false, by simp [results, Tryz.f70, go_sem, f2], by rw [unhide HP], (unhide HB1).trans hst.below⟩
        · obtain rfl : k = d.1.length := by omega
          rw [List.take_of_length_le (Nat.le_refl _)] at hall
          have HP : Hid (plcOk d = true) := hide (by unfold plcOk; rw [unhide HALL, hall]; rfl)
          have HB1 := hide (hbl.setCell (p := ⟨w.heap.size + 1, 0, none⟩) (Nat.le_succ _) (.bool true))
          have HF2 := hide ((unhide HFk).set (.bool true))
          have f1 := (unhide HFk).frozen
          have f0 := (unhide HFk).cell
          have hm := (unhide HMk).kept (Kept.set (S := fun b => b = w.heap.size + 1) (a := ⟨w.heap.size + 1, 0, none⟩) rfl (.bool true)) (fun D hD e => by subst e; have := ((unhide HMk).at' _ hD).2; rw [show wr.heap[w.heap.size + 1]? = _ from unhide HFk] at this; cases this)
          have HM := hide hm
          clear hm hall
          gi_wp2_with fail
          refine leaves_marks w.heap.size Ds _ (unhide HM) (fun w' hst => ?_)
          have f2 := (still_boxed hst (unhide HF2)).cell
          refine ⟨.bool true, by simp [results, Tryz.f70, go_sem, f2], by rw [unhide HP], (unhide HB1).trans hst.below⟩
end Go.Proofs.YtpbnmhnbkfnaeaaGreatDoor
/- impl.readHasKids. -/
namespace Go.Proofs.YtpbnmhnbkfnaeaaGreatDoor
open Go.RowKit Go.Shelf Nt

def cntsOk (d : Dt) : Bool := d.1.all fun nd => cntOk nd.1 nd.2.2.length
theorem take_all_nd {ns : List Nd} {p : Nd → Bool} {j : Nat} {x : Nd} (h : ns[j]? = some x) : (ns.take (j + 1)).all p = ((ns.take j).all p && p x) := by
  rw [List.take_add_one, h, List.all_append]; simp
theorem all_false_nd {ns : List Nd} {p : Nd → Bool} {j : Nat} {x : Nd} (h : ns[j]? = some x) (hp : p x = false) : ns.all p = false := by
  rw [List.all_eq_false]; exact ⟨x, List.mem_of_getElem? h, by simp [hp]⟩
set_option maxRecDepth 100000 in
set_option maxHeartbeats 2000000 in
theorem readHasKids_c (nv rv : Value) (d : Dt) (w : World) (h : DataAt w (.agg #[nv, rv]) d) (hs : d.1.length ≤ 1048576 ∧ d.2.length ≤ 1048576 ∧ NsSmall d.1) :
    Calls Tryz.prog 71 #[.agg #[nv, rv]] w fun e w' => e = .returned (.bool (cntsOk d)) ∧ Below w.heap.size w w' := by
  obtain ⟨nv', rv', e, hn0, hr0⟩ := h
  simp only [Value.agg.injEq, Array.mk.injEq, List.cons.injEq, and_true] at e
  obtain ⟨rfl, rfl⟩ := e
  have HN := hide hn0
  obtain ⟨na, nc, rfl, hn1, hn2, _⟩ := hn0
  obtain ⟨ra, rc, rfl, hr1, hr2, _⟩ := hr0
  obtain ⟨s1, s2, s3⟩ := hs
  have HS3 := hide s3
  clear s3
  unfold maxLen at hn2 hr2
  have HB := hide (step_a (Below.refl w.heap.size w) (.cells #[.slice na d.1.length nc, .slice ra d.2.length rc] 26))
  have HD := hide (AtC2.new w (.slice na d.1.length nc) (.slice ra d.2.length rc) 26)
  go_enter Tryz.func71, Tryz.ntmps71
  go_wp2_with fail
  go_loopw [8] (fun i wr => ∃ k : Nat, k ≤ d.1.length ∧ i = .int .i64 k ∧ ((d.1.take k).all fun nd => cntOk nd.1 nd.2.2.length) = true ∧ Below w.heap.size w wr)
    (fun i _ => d.1.length - (intOf i).toNat)
  case atStart => exact ⟨0, by omega, rfl, by simp, unhide HB⟩
  case round =>
    obtain ⟨k, hk, rfl, hall, hbl⟩ := hrel
    by_cases hlt : k < d.1.length
    · obtain ⟨nd, hnd⟩ : ∃ nd, d.1[k]? = some nd := ⟨_, List.getElem?_eq_getElem hlt⟩
      obtain ⟨b, off, cap, e1, _, _, hb⟩ := ((unhide HN).below hbl).form (by omega)
      injection e1 with e2 e3 e4
      subst e2
      obtain ⟨kv, c0, c1, c2, htl, hki⟩ := ((unhide HN).below hbl).node hnd
      obtain ⟨ka, kc, rfl, hk1, hk2, _⟩ := hki
      have hks := (unhide HS3) nd (List.mem_of_getElem? hnd)
      have HT := hide (take_all_nd (p := fun nd => cntOk nd.1 nd.2.2.length) hnd)
      have HL := hide hall
      clear e4 hall
      go_wp2_with fail
      have h := kidsFit_c nd.1 (B nd.2.1) ka nd.2.2.length kc (wr.alloc (.cells #[.int .i64 nd.1, .string (B nd.2.1), .slice ka nd.2.2.length kc] 56)) hks.2
      refine h.mono ?_
      clear h
      rintro e w1 ⟨rfl, hb1⟩
      have HB1 := hide (step_b (step_a hbl (.cells #[.int .i64 nd.1, .string (B nd.2.1), .slice ka nd.2.2.length kc] 56)) hb1)
      cases hr : cntOk nd.1 nd.2.2.length with
      | true =>
        go_wp2_with fail
        go_roundw
        case rel => exact ⟨k + 1, by omega, by go_num, by rw [unhide HT, unhide HL, hr]; rfl, unhide HB1⟩
        case measure => simp [intOf]; omega
      | false =>
        have HP : Hid (cntsOk d = false) := hide (by unfold cntsOk; exact all_false_nd hnd hr)
        go_wp2_with fail
        go_ret
        exact ⟨by rw [unhide HP]; rfl, unhide HB1⟩
    · obtain rfl : k = d.1.length := by omega
      rw [List.take_of_length_le (Nat.le_refl _)] at hall
      have HP : Hid (cntsOk d = true) := hide hall
      clear hall
      go_wp2_with fail
      go_ret
      exact ⟨by rw [unhide HP]; rfl, hbl⟩

end Go.Proofs.YtpbnmhnbkfnaeaaGreatDoor
/- The program's ReadOk: texts of nodes, and all checks. -/
namespace Go.Proofs.YtpbnmhnbkfnaeaaGreatDoor
open Go.RowKit Nt

def fitM (s : Int) (t : List UInt8) : Bool := (decide (1 ≤ s) && decide (s ≤ 9)) && textM s t
theorem fit_in {s : Int} {t : List UInt8} (h1 : 1 ≤ s) (h2 : s ≤ 9) : fitM s t = textM s t := by unfold fitM; rw [decide_eq_true h1, decide_eq_true h2]; rfl

set_option maxHeartbeats 4000000 in
set_option maxRecDepth 100000 in
theorem textFits_c (s : Int) (t : List UInt8) (ka : Option Addr) (kn kc : Nat) (w : World) (hs : t.length ≤ 1048576) (hT : Tabz w) (hN : Tens w) (h2 : 3 < w.heap.size) :
    Calls Tryz.prog 111 #[.agg #[.int .i64 s, .string (B t), .slice ka kn kc]] w fun e w' => e = .returned (.bool (fitM s t)) ∧ Below w.heap.size w w' := by
  have HB := hide (step_a (Below.refl w.heap.size w) (.cells #[.int .i64 s, .string (B t), .slice ka kn kc] 56))
  obtain ⟨R, hR⟩ : ∃ R, fitM s t = R := ⟨_, rfl⟩
  rw [hR]
  have HR := hide hR
  clear hR
  by_cases h1 : s = 1
  · subst h1
    have HQ : Hid (spellsM 1 t = R) := hide (by rw [← unhide HR, fit_in (by omega) (by omega)]; exact (spells_num t))
    go_enter Tryz.func111, Tryz.ntmps111
    go_wp2_with fail
    have h := readSpells_c 1 t (w.alloc (.cells #[.int .i64 1, .string (B t), .slice ka kn kc] 56)) hs (hT.below (by omega) (unhide HB)) (hN.belowB (unhide HB) (by omega)) (by simp; omega)
    refine h.mono ?_
    clear h
    rintro e w1 ⟨rfl, hb1⟩
    have HB1 := hide (step_b (unhide HB) hb1)
    rw [unhide HQ]
    clear hb1
    go_wp2_with fail
    go_ret
    exact ⟨rfl, unhide HB1⟩
  · have e1 : (s == 1) = false := beq_eq_false_iff_ne.2 h1
    by_cases h2' : s = 2
    · subst h2'
      have HQ : Hid (spellsM 2 t = R) := hide (by rw [← unhide HR, fit_in (by omega) (by omega)]; exact (spells_sym t))
      go_enter Tryz.func111, Tryz.ntmps111
      go_wp2_with fail
      have h := readSpells_c 2 t (w.alloc (.cells #[.int .i64 2, .string (B t), .slice ka kn kc] 56)) hs (hT.below (by omega) (unhide HB)) (hN.belowB (unhide HB) (by omega)) (by simp; omega)
      refine h.mono ?_
      clear h
      rintro e w1 ⟨rfl, hb1⟩
      have HB1 := hide (step_b (unhide HB) hb1)
      rw [unhide HQ]
      clear hb1
      go_wp2_with fail
      go_ret
      exact ⟨rfl, unhide HB1⟩
    · have e2 : (s == 2) = false := beq_eq_false_iff_ne.2 h2'
      by_cases h3 : s = 3
      · subst h3
        have HQ : Hid ((decide (t.length ≤ 200) && Lib.validD t) = R) := hide (by rw [← unhide HR, fit_in (by omega) (by omega)]; rfl)
        go_enter Tryz.func111, Tryz.ntmps111
        go_wp2_with fail
        have h := readIsText_c t (w.alloc (.cells #[.int .i64 3, .string (B t), .slice ka kn kc] 56)) hs (hT.below (by omega) (unhide HB))
        refine h.mono ?_
        clear h
        rintro e w1 ⟨rfl, hb1⟩
        have HB1 := hide (step_b (unhide HB) hb1)
        rw [unhide HQ]
        clear hb1
        go_wp2_with fail
        go_ret
        exact ⟨rfl, unhide HB1⟩
      · have e3 : (s == 3) = false := beq_eq_false_iff_ne.2 h3
        by_cases h4 : s = 4
        · subst h4
          have HQ : Hid (oneM t = R) := hide (by rw [← unhide HR, fit_in (by omega) (by omega)]; rfl)
          go_enter Tryz.func111, Tryz.ntmps111
          go_wp2_with fail
          have h := readIsCharacter_c t (w.alloc (.cells #[.int .i64 4, .string (B t), .slice ka kn kc] 56)) hs (hT.below (by omega) (unhide HB))
          refine h.mono ?_
          clear h
          rintro e w1 ⟨rfl, hb1⟩
          have HB1 := hide (step_b (unhide HB) hb1)
          rw [unhide HQ]
          clear hb1
          go_wp2_with fail
          go_ret
          exact ⟨rfl, unhide HB1⟩
        · have e4 : (s == 4) = false := beq_eq_false_iff_ne.2 h4
          by_cases h5 : s = 5
          · subst h5
            have HQ : Hid ((decide (t = [116]) || decide (t = [102])) = R) := hide (by rw [← unhide HR, fit_in (by omega) (by omega)]; rfl)
            by_cases ht : t = [116]
            · have f0 : ((B t).toList == [116]) = true := by rw [ht, B_tl]; rfl
              have HQ2 : Hid (R = true) := hide (by rw [← unhide HQ, decide_eq_true ht, Bool.true_or])
              clear ht
              go_enter Tryz.func111, Tryz.ntmps111
              go_wp2_with fail
              go_ret
              exact ⟨by rw [unhide HQ2]; rfl, unhide HB⟩
            · have f0 : ((B t).toList == [116]) = false := by rw [B_tl, beq_eq_false_iff_ne]; exact ht
              have HQ2 : Hid (((B t).toList == [102]) = R) := hide (by
                rw [← unhide HQ, decide_eq_false ht, Bool.false_or, B_tl]
                by_cases h : t = [102]
                · subst h; rfl
                · rw [decide_eq_false h, beq_eq_false_iff_ne.2 h])
              clear ht
              go_enter Tryz.func111, Tryz.ntmps111
              go_wp2_with fail
              go_ret
              exact ⟨by rw [← unhide HQ2]; rfl, unhide HB⟩
          · have e5 : (s == 5) = false := beq_eq_false_iff_ne.2 h5
            by_cases h6 : s = 6
            · subst h6
              have HQ : Hid ((B t).toList.isEmpty = R) := hide (by
                rw [← unhide HR, fit_in (by omega) (by omega), B_tl]
                show _ = decide (t = [])
                cases t <;> rfl)
              go_enter Tryz.func111, Tryz.ntmps111
              go_wp2_with fail
              go_ret
              exact ⟨by rw [← unhide HQ]; rfl, unhide HB⟩
            · have e6 : (s == 6) = false := beq_eq_false_iff_ne.2 h6
              by_cases h7 : s = 7
              · subst h7
                have HQ : Hid ((B t).toList.isEmpty = R) := hide (by
                  rw [← unhide HR, fit_in (by omega) (by omega), B_tl]
                  show _ = decide (t = [])
                  cases t <;> rfl)
                go_enter Tryz.func111, Tryz.ntmps111
                go_wp2_with fail
                go_ret
                exact ⟨by rw [← unhide HQ]; rfl, unhide HB⟩
              · have e7 : (s == 7) = false := beq_eq_false_iff_ne.2 h7
                by_cases h8 : s = 8
                · subst h8
                  have HQ : Hid ((B t).toList.isEmpty = R) := hide (by
                    rw [← unhide HR, fit_in (by omega) (by omega), B_tl]
                    show _ = decide (t = [])
                    cases t <;> rfl)
                  go_enter Tryz.func111, Tryz.ntmps111
                  go_wp2_with fail
                  go_ret
                  exact ⟨by rw [← unhide HQ]; rfl, unhide HB⟩
                · have e8 : (s == 8) = false := beq_eq_false_iff_ne.2 h8
                  by_cases h9 : s = 9
                  · subst h9
                    have HQ : Hid (decide (((B t).size : Int) ≤ 200) = R) := hide (by
                      rw [← unhide HR, fit_in (by omega) (by omega), B_size]
                      show _ = decide (t.length ≤ 200)
                      congr 1; rw [eq_iff_iff]; omega)
                    go_enter Tryz.func111, Tryz.ntmps111
                    go_wp2_with fail
                    go_ret
                    exact ⟨by rw [← unhide HQ]; rfl, unhide HB⟩
                  · have e9 : (s == 9) = false := beq_eq_false_iff_ne.2 h9
                    have HQ : Hid (R = false) := hide (by
                      rw [← unhide HR]
                      unfold fitM
                      by_cases a : 1 ≤ s
                      · rw [decide_eq_false (show ¬ s ≤ 9 by omega), Bool.and_false, Bool.false_and]
                      · rw [decide_eq_false a, Bool.false_and, Bool.false_and])
                    go_enter Tryz.func111, Tryz.ntmps111
                    go_wp2_with fail
                    go_ret
                    exact ⟨by rw [unhide HQ]; rfl, unhide HB⟩
end Go.Proofs.YtpbnmhnbkfnaeaaGreatDoor
/- The program's ReadOk. -/
namespace Go.Proofs.YtpbnmhnbkfnaeaaGreatDoor
open Go.RowKit Nt

def textsOk (d : Dt) : Bool := d.1.all fun nd => fitM nd.1 nd.2.1
theorem okD_eq (d : Dt) : okD d = (smallD d && plcOk d && cntsOk d && textsOk d) := by
  have h : ∀ ns : List Nd, ns.all (ndOk d.1.length) = (ns.all (kidsIn d.1.length) && (ns.all fun nd => cntOk nd.1 nd.2.2.length) && ns.all fun nd => fitM nd.1 nd.2.1) := by
    intro ns
    induction ns with
    | nil => rfl
    | cons x r ih =>
      simp only [List.all_cons, ih]
      have hx : ndOk d.1.length x = (kidsIn d.1.length x && cntOk x.1 x.2.2.length && fitM x.1 x.2.1) := by
        unfold ndOk kidsOk kidsIn fitM
        cases decide (1 ≤ x.1) && decide (x.1 ≤ 9) <;> cases textM x.1 x.2.1 <;> cases cntOk x.1 x.2.2.length <;> cases x.2.2.all (inR · d.1.length) <;> rfl
      rw [hx]
      cases kidsIn d.1.length x <;> cases cntOk x.1 x.2.2.length <;> cases fitM x.1 x.2.1 <;> simp
  unfold okD plcOk cntsOk textsOk
  rw [h]
  cases smallD d <;> cases d.1.all (kidsIn d.1.length) <;> cases (d.1.all fun nd => cntOk nd.1 nd.2.2.length) <;> cases (d.1.all fun nd => fitM nd.1 nd.2.1) <;> cases d.2.all (inR · d.1.length) <;> rfl

set_option maxRecDepth 100000 in
set_option maxHeartbeats 2000000 in
theorem readHasTexts_c (nv rv : Value) (d : Dt) (w : World) (h : DataAt w (.agg #[nv, rv]) d) (hs : d.1.length ≤ 1048576 ∧ d.2.length ≤ 1048576 ∧ NsSmall d.1) (hT : Tabz w) (hN : Tens w) (h3 : 3 < w.heap.size) :
    Calls Tryz.prog 72 #[.agg #[nv, rv]] w fun e w' => e = .returned (.bool (textsOk d)) ∧ Below w.heap.size w w' := by
  obtain ⟨nv', rv', e, hn0, hr0⟩ := h
  simp only [Value.agg.injEq, Array.mk.injEq, List.cons.injEq, and_true] at e
  obtain ⟨rfl, rfl⟩ := e
  have HN := hide hn0
  obtain ⟨na, nc, rfl, hn1, hn2, _⟩ := hn0
  obtain ⟨ra, rc, rfl, hr1, hr2, _⟩ := hr0
  obtain ⟨s1, s2, s3⟩ := hs
  have HS3 := hide s3
  clear s3
  unfold maxLen at hn2 hr2
  have HB := hide (step_a (Below.refl w.heap.size w) (.cells #[.slice na d.1.length nc, .slice ra d.2.length rc] 26))
  have HD := hide (AtC2.new w (.slice na d.1.length nc) (.slice ra d.2.length rc) 26)
  go_enter Tryz.func72, Tryz.ntmps72
  go_wp2_with fail
  go_loopw [8] (fun i wr => ∃ k : Nat, k ≤ d.1.length ∧ i = .int .i64 k ∧ ((d.1.take k).all fun nd => fitM nd.1 nd.2.1) = true ∧ Below w.heap.size w wr)
    (fun i _ => d.1.length - (intOf i).toNat)
  case atStart => exact ⟨0, by omega, rfl, by simp, unhide HB⟩
  case round =>
    obtain ⟨k, hk, rfl, hall, hbl⟩ := hrel
    by_cases hlt : k < d.1.length
    · obtain ⟨nd, hnd⟩ : ∃ nd, d.1[k]? = some nd := ⟨_, List.getElem?_eq_getElem hlt⟩
      obtain ⟨b, off, cap, e1, _, _, hb⟩ := ((unhide HN).below hbl).form (by omega)
      injection e1 with e2 e3 e4
      subst e2
      obtain ⟨kv, c0, c1, c2, htl, hki⟩ := ((unhide HN).below hbl).node hnd
      obtain ⟨ka, kc, rfl, hk1, hk2, _⟩ := hki
      have hks := (unhide HS3) nd (List.mem_of_getElem? hnd)
      have HT := hide (take_all_nd (p := fun nd => fitM nd.1 nd.2.1) hnd)
      have HL := hide hall
      clear e4 hall
      go_wp2_with fail
      have hbx := step_a hbl (.cells #[.int .i64 nd.1, .string (B nd.2.1), .slice ka nd.2.2.length kc] 56)
      have h := textFits_c nd.1 nd.2.1 ka nd.2.2.length kc (wr.alloc (.cells #[.int .i64 nd.1, .string (B nd.2.1), .slice ka nd.2.2.length kc] 56)) hks.1 (hT.below (by omega) hbx) (hN.belowB hbx (by omega)) (by have := hbx.size; omega)
      refine h.mono ?_
      clear h
      rintro e w1 ⟨rfl, hb1⟩
      have HB1 := hide (step_b (step_a hbl (.cells #[.int .i64 nd.1, .string (B nd.2.1), .slice ka nd.2.2.length kc] 56)) hb1)
      cases hr : fitM nd.1 nd.2.1 with
      | true =>
        go_wp2_with fail
        go_roundw
        case rel => exact ⟨k + 1, by omega, by go_num, by rw [unhide HT, unhide HL, hr]; rfl, unhide HB1⟩
        case measure => simp [intOf]; omega
      | false =>
        have HP : Hid (textsOk d = false) := hide (by unfold textsOk; exact all_false_nd hnd hr)
        go_wp2_with fail
        go_ret
        exact ⟨by rw [unhide HP]; rfl, unhide HB1⟩
    · obtain rfl : k = d.1.length := by omega
      rw [List.take_of_length_le (Nat.le_refl _)] at hall
      have HP : Hid (textsOk d = true) := hide hall
      clear hall
      go_wp2_with fail
      go_ret
      exact ⟨by rw [unhide HP]; rfl, hbl⟩

set_option maxHeartbeats 1000000 in
theorem readIsSmall_c (nv rv : Value) (d : Dt) (w : World) (h : DataAt w (.agg #[nv, rv]) d) :
    Calls Tryz.prog 69 #[.agg #[nv, rv]] w fun e w' => e = .returned (.bool (smallD d)) ∧ Below w.heap.size w w' := by
  obtain ⟨nv', rv', e, hn0, hr0⟩ := h
  simp only [Value.agg.injEq, Array.mk.injEq, List.cons.injEq, and_true] at e
  obtain ⟨rfl, rfl⟩ := e
  obtain ⟨na, nc, rfl, hn1, hn2, _⟩ := hn0
  obtain ⟨ra, rc, rfl, hr1, hr2, _⟩ := hr0
  unfold maxLen at hn2 hr2
  have HB := hide (step_a (Below.refl w.heap.size w) (.cells #[.slice na d.1.length nc, .slice ra d.2.length rc] 26))
  by_cases h8 : d.1.length ≤ 80
  · have h8' : (d.1.length : Int) ≤ 80 := by omega
    have HQ : Hid (decide ((d.2.length : Int) ≤ 12) = smallD d) := hide (by unfold smallD; rw [decide_eq_true h8, Bool.true_and]; congr 1; rw [eq_iff_iff]; omega)
    clear h8
    go_enter Tryz.func69, Tryz.ntmps69
    go_wp2_with fail
    go_ret
    exact ⟨by rw [← unhide HQ]; rfl, unhide HB⟩
  · have h8' : ¬ (d.1.length : Int) ≤ 80 := by omega
    have HQ : Hid (smallD d = false) := hide (by unfold smallD; rw [decide_eq_false h8, Bool.false_and])
    clear h8
    go_enter Tryz.func69, Tryz.ntmps69
    go_wp2_with fail
    go_ret
    exact ⟨by rw [unhide HQ]; rfl, unhide HB⟩

def checksV : Array Value := #[.func (.func 69) #[] #[], .func (.func 70) #[] #[], .func (.func 71) #[] #[], .func (.func 72) #[] #[]]
set_option maxRecDepth 100000 in
set_option maxHeartbeats 4000000 in
theorem readHolds4_c (nv rv : Value) (d : Dt) (g : Nat) (T : TypeId) (w : World) (h : DataAt w (.agg #[nv, rv]) d) (hs : d.1.length ≤ 1048576 ∧ d.2.length ≤ 1048576 ∧ NsSmall d.1)
    (hg : AtC w g checksV T) (hT : Tabz w) (hN : Tens w) (h3 : 3 < w.heap.size) :
    Calls Tryz.prog 68 #[.agg #[nv, rv], .slice (some ⟨g, 0, none⟩) 4 4] w fun e w' => e = .returned (.bool (okD d)) ∧ Below w.heap.size w w' := by
  have HDT := hide h
  obtain ⟨nv', rv', e, hn0, hr0⟩ := h
  simp only [Value.agg.injEq, Array.mk.injEq, List.cons.injEq, and_true] at e
  obtain ⟨rfl, rfl⟩ := e
  obtain ⟨na, nc, rfl, hn1, hn2, _⟩ := hn0
  obtain ⟨ra, rc, rfl, hr1, hr2, _⟩ := hr0
  have HS := hide hs
  unfold maxLen at hn2 hr2
  have HB0 := hide (step_a (Below.refl w.heap.size w) (.cells #[.slice na d.1.length nc, .slice ra d.2.length rc] 26))
  have HD0 := hide (AtC2.new w (.slice na d.1.length nc) (.slice ra d.2.length rc) 26)
  have HG0 := hide (hg.alloc (.cells #[.slice na d.1.length nc, .slice ra d.2.length rc] 26))
  clear hs hg
  go_enter Tryz.func68, Tryz.ntmps68
  go_wp2_with fail
  obtain ⟨wk0, hwk⟩ : ∃ wk0, w.alloc (.cells #[.slice na d.1.length nc, .slice ra d.2.length rc] 26) = wk0 := ⟨_, rfl⟩
  rw [hwk] at HB0 HD0 HG0 ⊢
  clear hwk
  refine wp_loop_rounds 5 ?_
  -- 0: which check; smallD d its answer; readIsSmall_c _ _ d wk0 ((unhide HDT).below (unhide HB0)) its contract; HV0: what it tells; 0, 1: ahead of it, behind it
  rw [rounds_succ]
  have g0 : wk0.cell? ⟨g, 0, none⟩ = some (.func (.func 69) #[] #[]) := (unhide HG0).c 0
  have d0 := (unhide HD0).n0
  have d1 := (unhide HD0).n1
  go_wp2_with fail
  have h := readIsSmall_c _ _ d wk0 ((unhide HDT).below (unhide HB0))
  refine h.mono ?_
  clear h
  rintro e wk1 ⟨rfl, hbn⟩
  have HB1 := hide (step_b (unhide HB0) hbn)
  have HG1 := hide ((unhide HG0).below hbn)
  have HD1 := hide ((unhide HD0).below hbn)
  clear hbn g0 d0 d1 HB0 HG0 HD0
  rcases Bool.eq_false_or_eq_true (smallD d) with hv | hv
  rotate_left
  · have HP : Hid (okD d = false) := hide (by rw [okD_eq, hv]; simp)
    rw [hv]
    clear hv
    go_wp2_with fail
    go_ret
    exact ⟨by rw [unhide HP]; rfl, unhide HB1⟩
  rw [hv]
  have HV0 := hide hv
  clear hv
  go_wp2_with fail
  -- 1: which check; plcOk d its answer; readIsPlaced_c _ _ d wk1 ((unhide HDT).below (unhide HB1)) (unhide HS) its contract; HV1: what it tells; 1, 2: ahead of it, behind it
  rw [rounds_succ]
  have g0 : wk1.cell? ⟨g, 1, none⟩ = some (.func (.func 70) #[] #[]) := (unhide HG1).c 1
  have d0 := (unhide HD1).n0
  have d1 := (unhide HD1).n1
  go_wp2_with fail
  have h := readIsPlaced_c _ _ d wk1 ((unhide HDT).below (unhide HB1)) (unhide HS)
  refine h.mono ?_
  clear h
  rintro e wk2 ⟨rfl, hbn⟩
  have HB2 := hide (step_b (unhide HB1) hbn)
  have HG2 := hide ((unhide HG1).below hbn)
  have HD2 := hide ((unhide HD1).below hbn)
  clear hbn g0 d0 d1 HB1 HG1 HD1
  rcases Bool.eq_false_or_eq_true (plcOk d) with hv | hv
  rotate_left
  · have HP : Hid (okD d = false) := hide (by rw [okD_eq, hv]; simp)
    rw [hv]
    clear hv
    go_wp2_with fail
    go_ret
    exact ⟨by rw [unhide HP]; rfl, unhide HB2⟩
  rw [hv]
  have HV1 := hide hv
  clear hv
  go_wp2_with fail
  -- 2: which check; cntsOk d its answer; readHasKids_c _ _ d wk2 ((unhide HDT).below (unhide HB2)) (unhide HS) its contract; HV2: what it tells; 2, 3: ahead of it, behind it
  rw [rounds_succ]
  have g0 : wk2.cell? ⟨g, 2, none⟩ = some (.func (.func 71) #[] #[]) := (unhide HG2).c 2
  have d0 := (unhide HD2).n0
  have d1 := (unhide HD2).n1
  go_wp2_with fail
  have h := readHasKids_c _ _ d wk2 ((unhide HDT).below (unhide HB2)) (unhide HS)
  refine h.mono ?_
  clear h
  rintro e wk3 ⟨rfl, hbn⟩
  have HB3 := hide (step_b (unhide HB2) hbn)
  have HG3 := hide ((unhide HG2).below hbn)
  have HD3 := hide ((unhide HD2).below hbn)
  clear hbn g0 d0 d1 HB2 HG2 HD2
  rcases Bool.eq_false_or_eq_true (cntsOk d) with hv | hv
  rotate_left
  · have HP : Hid (okD d = false) := hide (by rw [okD_eq, hv]; simp)
    rw [hv]
    clear hv
    go_wp2_with fail
    go_ret
    exact ⟨by rw [unhide HP]; rfl, unhide HB3⟩
  rw [hv]
  have HV2 := hide hv
  clear hv
  go_wp2_with fail
  -- 3: which check; textsOk d its answer; readHasTexts_c _ _ d wk3 ((unhide HDT).below (unhide HB3)) (unhide HS) (hT.below (by omega) (unhide HB3)) (hN.belowB (unhide HB3) (by omega)) (by have := (unhide HB3).size; omega) its contract; HV3: what it tells; 3, 4: ahead of it, behind it
  rw [rounds_succ]
  have g0 : wk3.cell? ⟨g, 3, none⟩ = some (.func (.func 72) #[] #[]) := (unhide HG3).c 3
  have d0 := (unhide HD3).n0
  have d1 := (unhide HD3).n1
  go_wp2_with fail
  have h := readHasTexts_c _ _ d wk3 ((unhide HDT).below (unhide HB3)) (unhide HS) (hT.below (by omega) (unhide HB3)) (hN.belowB (unhide HB3) (by omega)) (by have := (unhide HB3).size; omega)
  refine h.mono ?_
  clear h
  rintro e wk4 ⟨rfl, hbn⟩
  have HB4 := hide (step_b (unhide HB3) hbn)
  have HG4 := hide ((unhide HG3).below hbn)
  have HD4 := hide ((unhide HD3).below hbn)
  clear hbn g0 d0 d1 HB3 HG3 HD3
  rcases Bool.eq_false_or_eq_true (textsOk d) with hv | hv
  rotate_left
  · have HP : Hid (okD d = false) := hide (by rw [okD_eq, hv]; simp)
    rw [hv]
    clear hv
    go_wp2_with fail
    go_ret
    exact ⟨by rw [unhide HP]; rfl, unhide HB4⟩
  rw [hv]
  have HV3 := hide hv
  clear hv
  go_wp2_with fail
  rw [rounds_succ]
  have HP : Hid (okD d = true) := hide (by rw [okD_eq, unhide HV0, unhide HV1, unhide HV2, unhide HV3]; rfl)
  go_wp2_with fail
  go_ret
  exact ⟨by rw [unhide HP]; rfl, unhide HB4⟩

set_option maxHeartbeats 1000000 in
theorem implReadOk_c (nv rv : Value) (d : Dt) (w : World) (h : DataAt w (.agg #[nv, rv]) d) (hs : d.1.length ≤ 1048576 ∧ d.2.length ≤ 1048576 ∧ NsSmall d.1) (hT : Tabz w) (hN : Tens w) (h3 : 3 < w.heap.size) :
    Calls Tryz.prog 37 #[.agg #[nv, rv]] w fun e w' => e = .returned (.bool (okD d)) ∧ Below w.heap.size w w' := by
  have HDT := hide h
  obtain ⟨nv', rv', e, hn0, hr0⟩ := h
  simp only [Value.agg.injEq, Array.mk.injEq, List.cons.injEq, and_true] at e
  obtain ⟨rfl, rfl⟩ := e
  obtain ⟨na, nc, rfl, hn1, hn2, _⟩ := hn0
  obtain ⟨ra, rc, rfl, hr1, hr2, _⟩ := hr0
  have HS := hide hs
  have hb0 := step_a (step_a (Below.refl w.heap.size w) (.cells #[.slice na d.1.length nc, .slice ra d.2.length rc] 26)) (.cells checksV 30)
  have HB := hide hb0
  go_enter Tryz.func37, Tryz.ntmps37
  go_wp2_with fail
  have h := readHolds4_c _ _ d (w.heap.size + 1) 30 _ ((unhide HDT).below (unhide HB)) (unhide HS) (by have := AtC.new (w.alloc (.cells #[.slice na d.1.length nc, .slice ra d.2.length rc] 26)) checksV 30; rw [World.size_alloc] at this; exact this) (hT.below (by omega) (unhide HB)) (hN.belowB (unhide HB) (by omega)) (by simp; omega)
  refine h.mono ?_
  clear h
  rintro e w1 ⟨rfl, hb1⟩
  have HB1 := hide (step_b (unhide HB) hb1)
  clear hb1
  go_wp2_with fail
  go_ret
  exact ⟨rfl, unhide HB1⟩
end Go.Proofs.YtpbnmhnbkfnaeaaGreatDoor
/- tabHasRoot. -/
namespace Go.Proofs.YtpbnmhnbkfnaeaaGreatDoor
open Go.RowKit Nt

set_option maxRecDepth 100000 in
set_option maxHeartbeats 4000000 in
theorem hasRoot_c (nv rv : Value) (d : Dt) (w : World) (h : DataAt w (.agg #[nv, rv]) d) (hs : d.1.length ≤ 1048576 ∧ d.2.length ≤ 1048576 ∧ NsSmall d.1) (hT : Tabz w) (hN : Tens w) (h3 : 3 < w.heap.size) :
    Calls Tryz.prog 31 #[.agg #[nv, rv]] w fun e w' => e = .returned (.bool (okD d && decide (0 < d.2.length))) ∧ Below w.heap.size w w' := by
  have HD := hide h
  have HT := hide (And.intro hT (And.intro hN h3))
  have HS := hide hs
  obtain ⟨nv', rv', e, hn0, hr0⟩ := h
  simp only [Value.agg.injEq, Array.mk.injEq, List.cons.injEq, and_true] at e
  obtain ⟨rfl, rfl⟩ := e
  obtain ⟨na, nc, rfl, _⟩ := hn0
  obtain ⟨ra, rc, rfl, _⟩ := hr0
  obtain ⟨ln, hln⟩ : ∃ n, d.1.length = n := ⟨_, rfl⟩
  obtain ⟨lr, hlr⟩ : ∃ n, d.2.length = n := ⟨_, rfl⟩
  rw [hln, hlr] at HD ⊢
  rw [hln, hlr] at HS
  have HB := hide (step_a (Below.refl w.heap.size w) (.cells #[.slice na ln nc, .slice ra lr rc] 26))
  have HA := hide (AtC2.new w (.slice na ln nc) (.slice ra lr rc) 26)
  have HC : Hid (∀ W, Below w.heap.size w W → Calls Tryz.prog 37 #[.agg #[.slice na ln nc, .slice ra lr rc]] W fun e w' => e = .returned (.bool (okD d)) ∧ Below W.heap.size W w') := hide (fun W hb => implReadOk_c _ _ d W ((unhide HD).below hb) (by rw [hln, hlr]; exact unhide HS) ((unhide HT).1.below (by have := (unhide HT).2.2; omega) hb) ((unhide HT).2.1.belowB hb (unhide HT).2.2) (Nat.lt_of_lt_of_le (unhide HT).2.2 hb.size))
  clear hs hT hN h3 hln hlr
  obtain ⟨ok, hok⟩ : ∃ b, okD d = b := ⟨_, rfl⟩
  rw [hok] at HC ⊢
  clear hok HT HS HD
  go_enter Tryz.func31, Tryz.ntmps31
  go_wp2_with fail
  refine (unhide HC _ (unhide HB)).mono ?_
  rintro e w1 ⟨rfl, hb1⟩
  have HB1 := hide (step_b (unhide HB) hb1)
  have a1 := ((unhide HA).below hb1).n1
  clear hb1
  cases ok with
  | false =>
    go_wp2_with fail
    go_ret
    exact ⟨rfl, unhide HB1⟩
  | true =>
    go_wp2_with fail
    go_ret
    exact ⟨by simp, unhide HB1⟩
end Go.Proofs.YtpbnmhnbkfnaeaaGreatDoor
/- The specification's texts of nodes. -/
namespace Go.Proofs.YtpbnmhnbkfnaeaaGreatDoor
open Go.RowKit Nt

set_option maxHeartbeats 4000000 in
set_option maxRecDepth 100000 in
theorem l12TextOk_c (s : Int) (t : List UInt8) (kv : Value) (w : World) (hs : t.length ≤ 1048576) :
    Calls Tryz.prog 35 #[.agg #[.int .i64 s, .string (B t), kv]] w fun e w' => e = .returned (.bool (textM s t)) ∧ Below w.heap.size w w' := by
  have HB := hide (step_a (Below.refl w.heap.size w) (.cells #[.int .i64 s, .string (B t), kv] 56))
  have HC := hide (AtC3.new w (.int .i64 s) (.string (B t)) kv 56)
  obtain ⟨R, hR⟩ : ∃ R, textM s t = R := ⟨_, rfl⟩
  rw [hR]
  have HR := hide hR
  clear hR
  by_cases h1 : s = 1
  · subst h1
    have HQ : Hid (numTextM t = R) := hide (by rw [← unhide HR]; rfl)
    cases hp : parseM t 10 with
    | none =>
      have HQ2 : Hid (R = false) := hide (by rw [← unhide HQ]; unfold numTextM; rw [hp])
      go_enter Tryz.func35, Tryz.ntmps35
      go_wp2_with fail
      have h := specNumParse_c t 10 (w.alloc (.cells #[.int .i64 1, .string (B t), kv] 56)) (by omega)
      rw [hp, show numAns none = .tuple #[.agg #[.bool false, .string ⟨#[]⟩, .string ⟨#[]⟩], .bool false] from rfl] at h
      refine h.mono ?_
      clear h hp
      rintro e w1 ⟨rfl, hb1⟩
      have HB1 := hide (step_a (step_b (unhide HB) hb1) (.cells #[.bool false, .string ⟨#[]⟩, .string ⟨#[]⟩] 79))
      have HD := hide (drewN_below (w1.alloc (.cells #[.bool false, .string ⟨#[]⟩, .string ⟨#[]⟩] 79)))
      clear hb1
      go_wp2_with fail
      go_region
      all_goals
        go_wp2_with fail
        go_ret
        exact ⟨by rw [unhide HQ2]; rfl, by first | exact step_b (unhide HB1) (unhide HD _) | exact step_b (unhide HB1) (unhide HD 1) | exact unhide HB1⟩
    | some p =>
      obtain ⟨n, u, d⟩ := p
      have hok := parse_ok hp
      obtain ⟨_, _, hl1, hl2, _⟩ := ok_parts hok
      have HQ2 : Hid (((B (printM n (txl 10 u) (txl 10 d) 10)).toList == (B t).toList) = R) := hide (by
        rw [← unhide HQ]; unfold numTextM; rw [hp, B_tl, B_tl]
        show _ = decide (printT (n, u, d) = t)
        show (printT (n, u, d) == t) = _
        by_cases e : printT (n, u, d) = t
        · rw [e]; simp
        · rw [decide_eq_false e, beq_eq_false_iff_ne.2 e])
      go_enter Tryz.func35, Tryz.ntmps35
      go_wp2_with fail
      have h := specNumParse_c t 10 (w.alloc (.cells #[.int .i64 1, .string (B t), kv] 56)) (by omega)
      rw [hp, show numAns (some (n, u, d)) = .tuple #[.agg #[.bool n, .string (B (txl 10 u)), .string (B (txl 10 d))], .bool true] from rfl] at h
      refine h.mono ?_
      clear h hp hok
      rintro e w1 ⟨rfl, hb1⟩
      have HC1 := hide ((unhide HC).below hb1)
      have HB1 := hide (step_b (unhide HB) hb1)
      clear hb1 HB HC
      go_wp2_with fail
      obtain ⟨W, hW⟩ : ∃ W, w1.alloc (.cells #[.bool n, .string (B (txl 10 u)), .string (B (txl 10 d))] 79) = W := ⟨_, rfl⟩
      have HN := hide (AtC3.new w1 (.bool n) (.string (B (txl 10 u))) (.string (B (txl 10 d))) 79)
      have HC2 := hide ((unhide HC1).below (step_a (Below.refl w1.heap.size w1) (.cells #[.bool n, .string (B (txl 10 u)), .string (B (txl 10 d))] 79)))
      have HB2 := hide (step_a (unhide HB1) (.cells #[.bool n, .string (B (txl 10 u)), .string (B (txl 10 d))] 79))
      rw [hW] at HN HC2 HB2 ⊢
      clear hW
      have a0 := (unhide HN).n0
      have a1 := (unhide HN).n1
      have a2 := (unhide HN).n2
      have c1 := (unhide HC2).n1
      go_region_with ((go_at_call 57; refine (specNumPrint_c n (txl 10 u) (txl 10 d) 10 _ (by omega) (by omega)).mono ?_; rintro e w2 ⟨rfl, hb2⟩; have HB3 : Hid (Below W.heap.size W w2) := (Below.refl _ _).drew.trans hb2; have d1 := ((unhide HC2).below (unhide HB3)).n1; clear hb2))
      all_goals
        go_wp2_with fail
        go_ret
        exact ⟨by rw [← unhide HQ2]; rfl, step_b (unhide HB2) (unhide HB3)⟩
  · have e1 : (s == 1) = false := beq_eq_false_iff_ne.2 h1
    by_cases h2 : s = 2
    · subst h2
      have HQ : Hid (symM t = R) := hide (by rw [← unhide HR]; rfl)
      go_enter Tryz.func35, Tryz.ntmps35
      go_wp2_with fail
      have h := l11SymbolOk_c t (w.alloc (.cells #[.int .i64 2, .string (B t), kv] 56)) hs
      refine h.mono ?_
      clear h
      rintro e w1 ⟨rfl, hb1⟩
      have HB1 := hide (step_b (unhide HB) hb1)
      rw [unhide HQ]
      clear hb1
      go_wp2_with fail
      go_ret
      exact ⟨rfl, unhide HB1⟩
    · have e2 : (s == 2) = false := beq_eq_false_iff_ne.2 h2
      by_cases h3 : s = 3
      · subst h3
        have HQ : Hid ((decide (t.length ≤ 200) && Lib.validD t) = R) := hide (by rw [← unhide HR]; rfl)
        by_cases hl : t.length ≤ 200
        · have hl' : ((B t).size : Int) ≤ 200 := by rw [B_size]; omega
          go_enter Tryz.func35, Tryz.ntmps35
          go_wp2_with fail
          have h := l11Runes_c t (w.alloc (.cells #[.int .i64 3, .string (B t), kv] 56)) hs
          refine h.mono ?_
          clear h
          rintro e w1 ⟨rfl, hb1⟩
          have HB1 := hide (step_b (unhide HB) hb1)
          have HQ2 : Hid (Lib.validD t = R) := hide (by rw [← unhide HQ, decide_eq_true hl, Bool.true_and])
          rw [unhide HQ2]
          clear hb1
          go_wp2_with fail
          go_ret
          exact ⟨rfl, unhide HB1⟩
        · have hl' : ¬ ((B t).size : Int) ≤ 200 := by rw [B_size]; omega
          have HQ2 : Hid (R = false) := hide (by rw [← unhide HQ, decide_eq_false hl, Bool.false_and])
          go_enter Tryz.func35, Tryz.ntmps35
          go_wp2_with fail
          go_ret
          exact ⟨by rw [unhide HQ2]; rfl, unhide HB⟩
      · have e3 : (s == 3) = false := beq_eq_false_iff_ne.2 h3
        by_cases h4 : s = 4
        · subst h4
          have HQ : Hid (oneM t = R) := hide (by rw [← unhide HR]; rfl)
          go_enter Tryz.func35, Tryz.ntmps35
          go_wp2_with fail
          have HS := hide (fun W => specSize_c t W hs)
          obtain ⟨m, hm⟩ : ∃ m, sizeM (B t) = m := ⟨_, rfl⟩
          rw [hm] at HS
          have hQ := unhide HQ
          unfold oneM at hQ
          rw [hm] at hQ
          have HQ := hide hQ
          clear hQ hm
          obtain ⟨W, hW⟩ : ∃ W, w.alloc (.cells #[.int .i64 4, .string (B t), kv] 56) = W := ⟨_, rfl⟩
          rw [hW] at HB HC ⊢
          clear hW
          have c1 := (unhide HC).n1
          by_cases h0 : 0 < m
          · have h0' : decide (0 < m) = true := decide_eq_true h0
            have HQ2 : Hid (((m : Int) == ((B t).size : Int)) = R) := hide (by
              rw [← unhide HQ, decide_eq_true h0, Bool.true_and, B_size, Bool.eq_iff_iff]; simp; omega)
            go_wp2_with fail
            go_region_with (first | (go_at_call 67; refine (unhide HS W.drew).mono ?_; rintro e w2 ⟨rfl, hb2⟩; have HB3 : Hid (Below W.heap.size W w2) := (Below.refl _ _).drew.trans hb2; have d1 := ((unhide HC).below (unhide HB3)).n1; clear hb2) | (go_at_call 67; refine (unhide HS w2).mono ?_; rintro e w3 ⟨rfl, hb3⟩; have HB4 := hide (step_b (unhide HB3) hb3); have e1 := ((unhide HC).below (unhide HB4)).n1; clear hb3))
            all_goals
              go_wp2_with fail
              go_ret
              exact ⟨by rw [← unhide HQ2]; rfl, step_b (unhide HB) (unhide HB4)⟩
          · have h0' : decide (0 < m) = false := decide_eq_false h0
            have HQ2 : Hid (R = false) := hide (by rw [← unhide HQ, decide_eq_false h0, Bool.false_and])
            go_wp2_with fail
            first | (go_region_with ((go_at_call 67; refine (unhide HS W.drew).mono ?_; rintro e w2 ⟨rfl, hb2⟩; have HB3 : Hid (Below W.heap.size W w2) := (Below.refl _ _).drew.trans hb2; have d1 := ((unhide HC).below (unhide HB3)).n1; clear hb2))) | fail
            all_goals
              go_wp2_with fail
              go_ret
              exact ⟨by rw [unhide HQ2]; rfl, step_b (unhide HB) (unhide HB3)⟩
        · have e4 : (s == 4) = false := beq_eq_false_iff_ne.2 h4
          by_cases h5 : s = 5
          · subst h5
            have HQ : Hid ((decide (t = [116]) || decide (t = [102])) = R) := hide (by rw [← unhide HR]; rfl)
            by_cases ht : t = [116]
            · have f0 : ((B t).toList == [116]) = true := by rw [ht]; exact B_eqq _
              have HQ2 : Hid (R = true) := hide (by rw [← unhide HQ, decide_eq_true ht, Bool.true_or])
              clear ht
              go_enter Tryz.func35, Tryz.ntmps35
              go_wp2_with fail
              go_ret
              exact ⟨by rw [unhide HQ2]; rfl, unhide HB⟩
            · have f0 : ((B t).toList == [116]) = false := B_ne _ _ ht
              have HQ2 : Hid (((B t).toList == [102]) = R) := hide (by
                rw [← unhide HQ, decide_eq_false ht, Bool.false_or, B_tl]
                by_cases h : t = [102]
                · subst h; rfl
                · rw [decide_eq_false h, beq_eq_false_iff_ne.2 h])
              clear ht
              go_enter Tryz.func35, Tryz.ntmps35
              go_wp2_with fail
              go_ret
              exact ⟨by rw [← unhide HQ2]; rfl, unhide HB⟩
          · have e5 : (s == 5) = false := beq_eq_false_iff_ne.2 h5
            by_cases h9 : s = 9
            · subst h9
              have HQ : Hid (decide (((B t).size : Int) ≤ 200) = R) := hide (by
                rw [← unhide HR, B_size]
                show _ = decide (t.length ≤ 200)
                congr 1; rw [eq_iff_iff]; omega)
              go_enter Tryz.func35, Tryz.ntmps35
              go_wp2_with fail
              go_ret
              exact ⟨by rw [← unhide HQ]; rfl, unhide HB⟩
            · have e9 : (s == 9) = false := beq_eq_false_iff_ne.2 h9
              have HQ : Hid ((B t).toList.isEmpty = R) := hide (by
                rw [← unhide HR, B_tl]
                unfold textM
                rw [if_neg h1, if_neg h2, if_neg h3, if_neg h4, if_neg h5, if_neg h9]
                cases t <;> rfl)
              go_enter Tryz.func35, Tryz.ntmps35
              go_wp2_with fail
              go_ret
              exact ⟨by rw [← unhide HQ]; rfl, unhide HB⟩
end Go.Proofs.YtpbnmhnbkfnaeaaGreatDoor
/- The specification's ReadOk. -/
namespace Go.Proofs.YtpbnmhnbkfnaeaaGreatDoor
open Go.RowKit Nt

theorem all_nd_take {ns : List Nd} {p : Nd → Bool} {j : Nat} {x : Nd} (h : ns[j]? = some x) : (ns.take (j + 1)).all p = ((ns.take j).all p && p x) := by
  rw [List.take_add_one, h]; simp
theorem okD_no1 {d : Dt} (h : smallD d = false) : okD d = false := by unfold okD; rw [h]; rfl
theorem okD_no2 {d : Dt} {nd : Nd} (hm : nd ∈ d.1) (h : ndOk d.1.length nd = false) : okD d = false := by
  unfold okD
  have : d.1.all (ndOk d.1.length) = false := by rw [List.all_eq_false]; exact ⟨nd, hm, by simp [h]⟩
  rw [this, Bool.and_false, Bool.false_and]
theorem okD_no3 {d : Dt} {r : Int} (hm : r ∈ d.2) (h : inR r d.1.length = false) : okD d = false := by
  unfold okD
  have : d.2.all (inR · d.1.length) = false := by rw [List.all_eq_false]; exact ⟨r, hm, by simp [h]⟩
  rw [this, Bool.and_false]
theorem okD_yes {d : Dt} (h1 : smallD d = true) (h2 : d.1.all (ndOk d.1.length) = true) (h3 : d.2.all (inR · d.1.length) = true) : okD d = true := by
  unfold okD; rw [h1, h2, h3]; rfl

set_option maxRecDepth 100000 in
set_option maxHeartbeats 8000000 in
theorem specReadOk_c (d : Dt) (u : Value) (w : World) (h : DataAt w u d) (hsm : d.1.length ≤ 1048576 ∧ d.2.length ≤ 1048576 ∧ NsSmall d.1) :
    Calls Tryz.prog 10 #[u] w fun e W' => e = .returned (.bool (okD d)) ∧ Below w.heap.size w W' := by
  obtain ⟨ns, rs⟩ := d
  obtain ⟨nv, rv, rfl, hn, hr⟩ := h
  simp only at hn hr hsm
  obtain ⟨an, cn, rfl, hn1, hn2⟩ := hn.form0
  obtain ⟨ar, cr, rfl, hr1, hr2⟩ := hr.form
  unfold maxLen at hn2 hr2
  obtain ⟨hs1, hs2, hs3⟩ := hsm
  have HN := hide hn
  have HR := hide hr
  have HB := hide (step_a (Below.refl w.heap.size w) (.cells #[.slice an ns.length cn, .slice ar rs.length cr] 26))
  have HP := hide (AtC2.new w (.slice an ns.length cn) (.slice ar rs.length cr) 26)
  have HS3 := hide hs3
  clear hn hr hs3
  by_cases h80 : ns.length ≤ 80
  · have h80' : ¬ (80 < (ns.length : Int)) := by omega
    by_cases h12 : rs.length ≤ 12
    · have h12' : ¬ (12 < (rs.length : Int)) := by omega
      have HSM : Hid (smallD (ns, rs) = true) := hide (by unfold smallD; simp [h80, h12])
      go_enter Tryz.func10, Tryz.ntmps10
      go_wp2_with fail
      go_loopw [3] (fun iv' wr => ∃ i : Nat, i ≤ ns.length ∧ iv' = .int .i64 i ∧ Hid ((ns.take i).all (ndOk ns.length) = true) ∧ Hid (Below w.heap.size w wr) ∧ Hid (AtC2 wr w.heap.size (.slice an ns.length cn) (.slice ar rs.length cr) 26))
        (fun iv' _ => ns.length - (intOf iv').toNat)
      case atStart => exact ⟨0, by omega, rfl, hide (by simp), HB, HP⟩
      case round =>
        clear HB HP
        obtain ⟨i, hile, rfl, hall, HB, HP⟩ := hrel
        have p0 := (unhide HP).n0
        have p1 := (unhide HP).n1
        by_cases hil : i < ns.length
        · obtain ⟨nd, hnd⟩ : ∃ nd, ns[i]? = some nd := ⟨_, List.getElem?_eq_getElem hil⟩
          obtain ⟨b, off, rfl, hba⟩ := (unhide HN).addr (by omega)
          obtain ⟨kv, c0, c1, c2, htl, hk⟩ := ((unhide HN).below (unhide HB)).node hnd
          have hNd := (unhide HS3) nd (List.mem_of_getElem? hnd)
          have HST := hide (all_nd_take (p := ndOk ns.length) hnd)
          have HNO := hide (fun h => okD_no2 (d := (ns, rs)) (List.mem_of_getElem? hnd) h)
          have HNB : Hid (ndOk ns.length nd = ((decide (1 ≤ nd.1) && decide (nd.1 ≤ 9)) && textM nd.1 nd.2.1 && kidsOk nd ns.length)) := hide rfl
          obtain ⟨s, t, ks⟩ := nd
          simp only at htl hk hNd c0 c1 c2
          have HK := hide hk
          obtain ⟨ka, kc, rfl, _, _⟩ := hk.form
          clear hk hnd
          have hbs := step_a (Below.refl wr.heap.size wr) (.cells #[.int .i64 s, .string (B t), .slice ka ks.length kc] 56)
          have HB1 := hide (step_b (unhide HB) hbs)
          have HP1 := hide ((unhide HP).below hbs)
          have HQ1 := hide (AtC3.new wr (.int .i64 s) (.string (B t)) (.slice ka ks.length kc) 56)
          have HK1 := hide ((unhide HK).below hbs)
          have HTL := hide htl
          clear hbs HP HK htl
          go_wp2_with fail
          obtain ⟨W, hW⟩ : ∃ W, wr.alloc (.cells #[.int .i64 s, .string (B t), .slice ka ks.length kc] 56) = W := ⟨_, rfl⟩
          rw [hW] at HB1 HP1 HQ1 HK1 ⊢
          clear hW c0 c1 c2 p0 p1
          have q0 := (unhide HQ1).n0
          have q1 := (unhide HQ1).n1
          have q2 := (unhide HQ1).n2
          refine (l1In_g s 1 9 W).mono ?_
          rintro e w2 ⟨rfl, rfl⟩
          rcases Bool.eq_false_or_eq_true (decide (1 ≤ s) && decide (s ≤ 9)) with hz | hz
          · rw [hz]
            have HZ := hide hz
            clear hz
            go_wp2_with fail
            refine (l12TextOk_c s t _ w2 hNd.1).mono ?_
            rintro e w3 ⟨rfl, hb3⟩
            have HB3 := hide (step_b (unhide HB1) hb3)
            have HP3 := hide ((unhide HP1).below hb3)
            have HQ3 := hide ((unhide HQ1).below hb3)
            have HK3 := hide ((unhide HK1).below hb3)
            clear hb3 HB1 HP1 HQ1 HK1 q0 q1 q2
            rcases Bool.eq_false_or_eq_true (textM s t) with hy | hy
            · rw [hy]
              have HY := hide hy
              have q0 := (unhide HQ3).n0
              have q1 := (unhide HQ3).n1
              have q2 := (unhide HQ3).n2
              have p0 := (unhide HP3).n0
              have p1 := (unhide HP3).n1
              clear hy
              go_wp2_with fail
              refine (l12KidsOk_c _ (s, t, ks) ns.length w3 ⟨_, rfl, unhide HTL, unhide HK3⟩ hs1).mono ?_
              rintro e w4 ⟨rfl, hb4⟩
              have HB4 := hide (step_b (unhide HB3) hb4)
              have HP4 := hide ((unhide HP3).below hb4)
              clear hb4 HB3 HP3 HQ3 HK3 q0 q1 q2 p0 p1
              have HV : Hid (ndOk ns.length (s, t, ks) = kidsOk (s, t, ks) ns.length) := hide (by rw [unhide HNB]; simp only [unhide HZ, unhide HY, Bool.true_and])
              rcases Bool.eq_false_or_eq_true (kidsOk (s, t, ks) ns.length) with hx | hx
              · rw [hx]
                have HX : Hid ((ns.take (i + 1)).all (ndOk ns.length) = true) := hide (by rw [unhide HST, unhide hall, unhide HV, hx]; rfl)
                clear hx
                go_wp2_with fail
                go_roundw
                case rel => exact ⟨i + 1, by omega, by go_num, HX, HB4, HP4⟩
                case measure => simp [intOf]; omega
              · rw [hx]
                have HX := hide (unhide HNO (by rw [← hx]; exact unhide HV))
                clear hx
                go_wp2_with fail
                go_ret
                exact ⟨by rw [unhide HX]; rfl, unhide HB4⟩
            · rw [hy]
              have HX := hide (unhide HNO (by show ndOk ns.length (s, t, ks) = false; rw [unhide HNB]; simp only [hy, Bool.and_false, Bool.false_and]))
              clear hy
              go_wp2_with fail
              go_ret
              exact ⟨by rw [unhide HX]; rfl, unhide HB3⟩
          · rw [hz]
            have HX := hide (unhide HNO (by show ndOk ns.length (s, t, ks) = false; rw [unhide HNB]; simp only [hz, Bool.false_and]))
            clear hz
            go_wp2_with fail
            go_ret
            exact ⟨by rw [unhide HX]; rfl, unhide HB1⟩
        · have hie : i = ns.length := by omega
          subst hie
          have hall' := unhide hall
          rw [List.take_of_length_le (Nat.le_refl _)] at hall'
          have HALL := hide hall'
          clear hall hall'
          go_wp2_with fail
          go_loopw [5] (fun jv wr => ∃ j : Nat, j ≤ rs.length ∧ jv = .int .i64 j ∧ Hid ((rs.take j).all (inR · ns.length) = true) ∧ Hid (Below w.heap.size w wr) ∧ Hid (AtC2 wr w.heap.size (.slice an ns.length cn) (.slice ar rs.length cr) 26))
            (fun jv _ => rs.length - (intOf jv).toNat)
          case atStart => exact ⟨0, by omega, rfl, hide (by simp), HB, HP⟩
          case round =>
            clear HB HP p0 p1
            obtain ⟨j, hjle, rfl, hrall, HB, HP⟩ := hrel
            have p0 := (unhide HP).n0
            have p1 := (unhide HP).n1
            by_cases hjl : j < rs.length
            · obtain ⟨x, hx⟩ : ∃ x, rs[j]? = some x := ⟨_, List.getElem?_eq_getElem hjl⟩
              obtain ⟨b, off, rfl, hb, hc⟩ := ((unhide HR).below (unhide HB)).cell hx
              have HST := hide (all_take_step (p := (inR · ns.length)) hx)
              have HNO := hide (fun h => okD_no3 (d := (ns, rs)) (List.mem_of_getElem? hx) h)
              have q0 : (0 : Int) ≤ (j : Int) := by omega
              have q1 : (j : Int) < (rs.length : Int) := by omega
              have q2 : ((j : Int)).toNat = j := by omega
              have q5 : IntKind.i64.wrap ((ns.length : Int) - 1) = (ns.length : Int) - 1 := by rw [wi64] <;> omega
              clear hx
              go_wp2_with fail
              go_quiet ((go_at_call 34; exact Calls.quiet_of_same (l1In_c x ns.length _)))
              have HB1 := hide (step_b (unhide HB) (drewN_below wr nq))
              have HP1 := hide ((unhide HP).below (drewN_below wr nq))
              clear HB HP p0 p1
              rcases Bool.eq_false_or_eq_true (inR x ns.length) with hz | hz
              · rw [hz]
                have HX : Hid ((rs.take (j + 1)).all (inR · ns.length) = true) := hide (by rw [unhide HST, unhide hrall, hz]; rfl)
                clear hz
                go_wp2_with fail
                go_roundw
                case rel => exact ⟨j + 1, by omega, by go_num, HX, HB1, HP1⟩
                case measure => simp [intOf]; omega
              · rw [hz]
                have HX := hide (unhide HNO hz)
                clear hz
                go_wp2_with fail
                go_ret
                exact ⟨by rw [unhide HX]; rfl, unhide HB1⟩
            · have hje : j = rs.length := by omega
              subst hje
              have hrall' := unhide hrall
              rw [List.take_of_length_le (Nat.le_refl _)] at hrall'
              have HX := hide (okD_yes (d := (ns, rs)) (unhide HSM) (unhide HALL) hrall')
              clear hrall hrall'
              go_wp2_with fail
              go_ret
              exact ⟨by rw [unhide HX]; rfl, unhide HB⟩
    · have h12' : (12 < (rs.length : Int)) := by omega
      have HR : Hid (okD (ns, rs) = false) := hide (okD_no1 (by unfold smallD; simp [h12]))
      go_enter Tryz.func10, Tryz.ntmps10
      go_wp2_with fail
      go_ret
      exact ⟨by rw [unhide HR]; rfl, unhide HB⟩
  · have h80' : (80 < (ns.length : Int)) := by omega
    have HR : Hid (okD (ns, rs) = false) := hide (okD_no1 (by unfold smallD; simp [h80]))
    go_enter Tryz.func10, Tryz.ntmps10
    go_wp2_with fail
    go_ret
    exact ⟨by rw [unhide HR]; rfl, unhide HB⟩
end Go.Proofs.YtpbnmhnbkfnaeaaGreatDoor
/- The specification's TabCmp. -/
namespace Go.Proofs.YtpbnmhnbkfnaeaaGreatDoor
open Go.RowKit Nt

theorem tab_no1 {d e : Dt} (h : okD d = false) : tabM d e = 0 := by unfold tabM; rw [h]; rfl
theorem tab_no2 {d e : Dt} (h : okD e = false) : tabM d e = 0 := by unfold tabM; rw [h, Bool.and_false]; rfl
theorem tab_nil1 {d e : Dt} (h : d.2 = []) : tabM d e = 0 := by unfold tabM; rw [h]; split <;> rfl
theorem tab_nil2 {d e : Dt} (h : e.2 = []) : tabM d e = 0 := by unfold tabM; rw [h]; split <;> (try rfl); split <;> first | rfl | simp_all
theorem tab_yes {ns ms : List Nd} {a b : Int} {rs ss : List Int} (h1 : okD (ns, a :: rs) = true) (h2 : okD (ms, b :: ss) = true) : tabM (ns, a :: rs) (ms, b :: ss) = cmpAt ns ms a b := by unfold tabM; rw [h1, h2]; rfl
theorem ok_parts_d {ns : List Nd} {rs : List Int} (h : okD (ns, rs) = true) : ns.length ≤ 80 ∧ rs.length ≤ 12 ∧ ns.all (ndOk ns.length) = true ∧ ∀ r ∈ rs, 0 ≤ r ∧ r < ns.length := by
  unfold okD smallD at h
  simp only [Bool.and_eq_true, decide_eq_true_eq] at h
  obtain ⟨⟨⟨h1, h2⟩, h3⟩, h4⟩ := h
  refine ⟨h1, h2, h3, fun r hr => ?_⟩
  have := List.all_eq_true.1 h4 r hr
  unfold inR at this
  simpa using this

set_option maxRecDepth 100000 in
set_option maxHeartbeats 8000000 in
theorem specTabCmp_c (d e : Dt) (u v : Value) (w : World) (hd : DataAt w u d) (he : DataAt w v e) (hsd : d.1.length ≤ 1048576 ∧ d.2.length ≤ 1048576 ∧ NsSmall d.1) (hse : e.1.length ≤ 1048576 ∧ e.2.length ≤ 1048576 ∧ NsSmall e.1) :
    Calls Tryz.prog 9 #[u, v] w fun r W' => r = .returned (.int .i64 (tabM d e)) ∧ Below w.heap.size w W' := by
  obtain ⟨ns, rs⟩ := d
  obtain ⟨ms, ss⟩ := e
  have HD := hide hd
  have HE := hide he
  obtain ⟨nv, rv, rfl, hn, hr⟩ := hd
  obtain ⟨mv, sv, rfl, hm, hs⟩ := he
  simp only at hn hr hm hs hsd hse
  have HN := hide hn
  have HM := hide hm
  have HR := hide hr
  have HS := hide hs
  obtain ⟨an, cn, rfl, hn1, hn2⟩ := hn.form0
  obtain ⟨ar, cr, rfl, hr1, hr2⟩ := hr.form
  obtain ⟨am, cm, rfl, hm1, hm2⟩ := hm.form0
  obtain ⟨as_, cs, rfl, hs1, hs2⟩ := hs.form
  unfold maxLen at hn2 hr2 hm2 hs2
  have HSD := hide hsd
  have HSE := hide hse
  obtain ⟨R, hR⟩ : ∃ R, tabM (ns, rs) (ms, ss) = R := ⟨_, rfl⟩
  rw [hR]
  have HTR := hide hR
  have HB := hide (step_a (step_a (Below.refl w.heap.size w) (.cells #[.slice an ns.length cn, .slice ar rs.length cr] 26)) (.cells #[.slice am ms.length cm, .slice as_ ss.length cs] 26))
  have HP := hide ((AtC2.new w (.slice an ns.length cn) (.slice ar rs.length cr) 26).alloc (.cells #[.slice am ms.length cm, .slice as_ ss.length cs] 26))
  have HQ := hide (AtC2.new (w.alloc (.cells #[.slice an ns.length cn, .slice ar rs.length cr] 26)) (.slice am ms.length cm) (.slice as_ ss.length cs) 26)
  rw [World.size_alloc] at HQ
  clear hn hr hm hs hsd hse hR
  go_enter Tryz.func9, Tryz.ntmps9
  go_wp2_with fail
  obtain ⟨W, hW⟩ : ∃ W, (w.alloc (.cells #[.slice an ns.length cn, .slice ar rs.length cr] 26)).alloc (.cells #[.slice am ms.length cm, .slice as_ ss.length cs] 26) = W := ⟨_, rfl⟩
  rw [hW] at HB HP HQ ⊢
  clear hW
  have h := specReadOk_c (ns, rs) _ W ((unhide HD).below (unhide HB)) (unhide HSD)
  refine h.mono ?_
  clear h
  rintro e' W1 ⟨rfl, hb1⟩
  have HB1 := hide (step_b (unhide HB) hb1)
  have HP1 := hide ((unhide HP).below hb1)
  have HQ1 := hide ((unhide HQ).below hb1)
  clear hb1 HB HP HQ
  rcases Bool.eq_false_or_eq_true (okD (ns, rs)) with ho | ho
  · rw [ho]
    have HO1 := hide ho
    clear ho
    have q0 := (unhide HQ1).n0
    have q1 := (unhide HQ1).n1
    go_wp2_with fail
    have h := specReadOk_c (ms, ss) _ W1 ((unhide HE).below (unhide HB1)) (unhide HSE)
    refine h.mono ?_
    clear h
    rintro e' W2 ⟨rfl, hb2⟩
    have HB2 := hide (step_b (unhide HB1) hb2)
    have HP2 := hide ((unhide HP1).below hb2)
    have HQ2 := hide ((unhide HQ1).below hb2)
    clear hb2 HB1 HP1 HQ1 q0 q1
    rcases Bool.eq_false_or_eq_true (okD (ms, ss)) with ho | ho
    · rw [ho]
      have HO2 := hide ho
      clear ho
      have p0 := (unhide HP2).n0
      have p1 := (unhide HP2).n1
      have q0 := (unhide HQ2).n0
      have q1 := (unhide HQ2).n1
      by_cases hr0 : rs = []
      · have HZ : Hid (R = 0) := hide (by rw [← unhide HTR]; exact tab_nil1 hr0)
        have r1 : ((rs.length : Int) == 0) = true := by rw [hr0]; rfl
        clear hr0
        go_wp2_with fail
        go_ret
        exact ⟨ret_int (unhide HZ).symm, unhide HB2⟩
      · obtain ⟨a, rt, har⟩ : ∃ a t, rs = a :: t := by cases rs with | nil => exact absurd rfl hr0 | cons a t => exact ⟨a, t, rfl⟩
        have hrl : 0 < rs.length := List.length_pos_iff.2 hr0
        have r1 : ((rs.length : Int) == 0) = false := by rw [beq_eq_false_iff_ne]; omega
        by_cases hs0 : ss = []
        · have HZ : Hid (R = 0) := hide (by rw [← unhide HTR]; exact tab_nil2 hs0)
          have r2 : ((ss.length : Int) == 0) = true := by rw [hs0]; rfl
          clear hs0 hr0 har hrl
          go_wp2_with fail
          go_ret
          exact ⟨ret_int (unhide HZ).symm, unhide HB2⟩
        · obtain ⟨b, st, hbs⟩ : ∃ b t, ss = b :: t := by cases ss with | nil => exact absurd rfl hs0 | cons b t => exact ⟨b, t, rfl⟩
          have hsl : 0 < ss.length := List.length_pos_iff.2 hs0
          have r2 : ((ss.length : Int) == 0) = false := by rw [beq_eq_false_iff_ne]; omega
          have HZ : Hid (cmpAt ns ms a b = R) := hide (by rw [← unhide HTR]; have h1 := unhide HO1; have h2 := unhide HO2; rw [har] at h1 ⊢; rw [hbs] at h2 ⊢; exact (tab_yes h1 h2).symm)
          obtain ⟨l1, _, k1, j1⟩ := ok_parts_d (unhide HO1)
          obtain ⟨l2, _, k2, j2⟩ := ok_parts_d (unhide HO2)
          have ha := j1 a (by rw [har]; exact List.mem_cons_self)
          have hb := j2 b (by rw [hbs]; exact List.mem_cons_self)
          obtain ⟨ga, oa, rfl, _, u0⟩ := ((unhide HR).below (unhide HB2)).cell (k := 0) (x := a) (by rw [har]; rfl)
          obtain ⟨gb, ob, rfl, _, u1⟩ := ((unhide HS).below (unhide HB2)).cell (k := 0) (x := b) (by rw [hbs]; rfl)
          rw [Nat.add_zero] at u0 u1
          have HC : Hid (∀ X, Below W2.heap.size W2 X → Calls Tryz.prog 33 #[.slice an ns.length cn, .int .i64 a, .slice am ms.length cm, .int .i64 b] X fun r W' => r = .returned (.int .i64 R) ∧ Below X.heap.size X W') := hide (fun X hX => by
            rw [← unhide HZ]
            exact l21Cmp_c ns ms a b _ _ X ((unhide HN).below (step_b (unhide HB2) hX)) ((unhide HM).below (step_b (unhide HB2) hX)) k1 k2 ⟨ha, hb⟩ (unhide HSD).2.2 (unhide HSE).2.2 l1 l2)
          have t0 : (0 : Int) < (rs.length : Int) := by omega
          have t1 : (0 : Int) < (ss.length : Int) := by omega
          clear k1 k2 j1 j2 ha hb hr0 hs0 har hbs
          go_wp2_with fail
          go_region_held3 (fun w' => w'.cell? ⟨w.heap.size, 0, none⟩ = some (.slice an ns.length cn) ∧ w'.cell? ⟨w.heap.size, 1, none⟩ = some (.slice (some ⟨ga, oa, none⟩) rs.length cr) ∧ w'.cell? ⟨ga, oa, none⟩ = some (.int .i64 a) ∧ w'.cell? ⟨w.heap.size + 1, 0, none⟩ = some (.slice am ms.length cm) ∧ w'.cell? ⟨w.heap.size + 1, 1, none⟩ = some (.slice (some ⟨gb, ob, none⟩) ss.length cs) ∧ w'.cell? ⟨gb, ob, none⟩ = some (.int .i64 b)) (((try dsimp only); (repeat' apply And.intro) <;> (first | with_reducible assumption | exact p0 | exact p1 | exact u0 | exact q0 | exact q1 | exact u1))) ((go_at_call 33; refine (unhide HC W2.drew (Below.refl _ _).drew).mono ?_; rintro e w5 ⟨rfl, hb5⟩; have HB5 : Hid (Below W2.heap.size W2 w5) := (Below.refl _ _).drew.trans hb5; have c1 := cell_below (unhide HB5) p0; have c2 := cell_below (unhide HB5) p1; have c3 := cell_below (unhide HB5) u0; have c4 := cell_below (unhide HB5) q0; have c5 := cell_below (unhide HB5) q1; have c6 := cell_below (unhide HB5) u1; clear hb5))
          go_wp2_with fail
          go_ret
          exact ⟨rfl, step_b (unhide HB2) (unhide HB5)⟩
    · rw [ho]
      have HZ : Hid (R = 0) := hide (by rw [← unhide HTR]; exact tab_no2 ho)
      clear ho
      go_wp2_with fail
      go_ret
      exact ⟨ret_int (unhide HZ).symm, unhide HB2⟩
  · rw [ho]
    have HZ : Hid (R = 0) := hide (by rw [← unhide HTR]; exact tab_no1 ho)
    clear ho
    go_wp2_with fail
    go_ret
    exact ⟨ret_int (unhide HZ).symm, unhide HB1⟩
end Go.Proofs.YtpbnmhnbkfnaeaaGreatDoor
/- impl.TabCmp. -/
namespace Go.Proofs.YtpbnmhnbkfnaeaaGreatDoor
open Go.RowKit Nt

set_option maxRecDepth 100000 in
set_option maxHeartbeats 8000000 in
theorem implTabCmp_c (d e : Dt) (u v : Value) (w : World) (hd : DataAt w u d) (he : DataAt w v e) (hsd : d.1.length ≤ 1048576 ∧ d.2.length ≤ 1048576 ∧ NsSmall d.1) (hse : e.1.length ≤ 1048576 ∧ e.2.length ≤ 1048576 ∧ NsSmall e.1) (hT : Tabz w) (hN : Tens w) (h3 : 3 < w.heap.size) :
    Calls Tryz.prog 8 #[u, v] w fun r W' => r = .returned (.int .i64 (tabM d e)) ∧ Below w.heap.size w W' := by
  obtain ⟨ns, rs⟩ := d
  obtain ⟨ms, ss⟩ := e
  have HD := hide hd
  have HE := hide he
  obtain ⟨nv, rv, rfl, hn, hr⟩ := hd
  obtain ⟨mv, sv, rfl, hm, hs⟩ := he
  simp only at hn hr hm hs hsd hse
  have HN := hide hn
  have HM := hide hm
  have HR := hide hr
  have HS := hide hs
  obtain ⟨an, cn, rfl, hn1, hn2⟩ := hn.form0
  obtain ⟨ar, cr, rfl, hr1, hr2⟩ := hr.form
  obtain ⟨am, cm, rfl, hm1, hm2⟩ := hm.form0
  obtain ⟨as_, cs, rfl, hs1, hs2⟩ := hs.form
  unfold maxLen at hn2 hr2 hm2 hs2
  obtain ⟨R, hR⟩ : ∃ R, tabM (ns, rs) (ms, ss) = R := ⟨_, rfl⟩
  rw [hR]
  have HTR := hide hR
  have HB := hide (step_a (step_a (Below.refl w.heap.size w) (.cells #[.slice an ns.length cn, .slice ar rs.length cr] 26)) (.cells #[.slice am ms.length cm, .slice as_ ss.length cs] 26))
  have HP := hide ((AtC2.new w (.slice an ns.length cn) (.slice ar rs.length cr) 26).alloc (.cells #[.slice am ms.length cm, .slice as_ ss.length cs] 26))
  have HQ := hide (AtC2.new (w.alloc (.cells #[.slice an ns.length cn, .slice ar rs.length cr] 26)) (.slice am ms.length cm) (.slice as_ ss.length cs) 26)
  rw [World.size_alloc] at HQ
  have HT := hide (And.intro hT (And.intro hN h3))
  have HC1 : Hid (∀ W, Below w.heap.size w W → Calls Tryz.prog 31 #[.agg #[.slice an ns.length cn, .slice ar rs.length cr]] W fun e w' => e = .returned (.bool (okD (ns, rs) && decide (0 < rs.length))) ∧ Below W.heap.size W w') := hide (fun W hb => hasRoot_c _ _ (ns, rs) W ((unhide HD).below hb) hsd ((unhide HT).1.below (by have := (unhide HT).2.2; omega) hb) ((unhide HT).2.1.belowB hb (unhide HT).2.2) (Nat.lt_of_lt_of_le (unhide HT).2.2 hb.size))
  have HC2 : Hid (∀ W, Below w.heap.size w W → Calls Tryz.prog 31 #[.agg #[.slice am ms.length cm, .slice as_ ss.length cs]] W fun e w' => e = .returned (.bool (okD (ms, ss) && decide (0 < ss.length))) ∧ Below W.heap.size W w') := hide (fun W hb => hasRoot_c _ _ (ms, ss) W ((unhide HE).below hb) hse ((unhide HT).1.below (by have := (unhide HT).2.2; omega) hb) ((unhide HT).2.1.belowB hb (unhide HT).2.2) (Nat.lt_of_lt_of_le (unhide HT).2.2 hb.size))
  clear hn hr hm hs hsd hse hR hT hN h3
  go_enter Tryz.func8, Tryz.ntmps8
  go_wp2_with fail
  obtain ⟨W, hW⟩ : ∃ W, (w.alloc (.cells #[.slice an ns.length cn, .slice ar rs.length cr] 26)).alloc (.cells #[.slice am ms.length cm, .slice as_ ss.length cs] 26) = W := ⟨_, rfl⟩
  rw [hW] at HB HP HQ ⊢
  clear hW
  have p0 := (unhide HP).n0
  have p1 := (unhide HP).n1
  go_wp2_with fail
  refine (unhide HC1 W (unhide HB)).mono ?_
  rintro e' W1 ⟨rfl, hb1⟩
  have HB1 := hide (step_b (unhide HB) hb1)
  have HP1 := hide ((unhide HP).below hb1)
  have HQ1 := hide ((unhide HQ).below hb1)
  clear hb1 HB HP HQ p0 p1
  rcases Bool.eq_false_or_eq_true (okD (ns, rs) && decide (0 < rs.length)) with ho | ho
  · rw [ho]
    have HO1 := hide ho
    clear ho
    have q0 := (unhide HQ1).n0
    have q1 := (unhide HQ1).n1
    go_wp2_with fail
    refine (unhide HC2 W1 (unhide HB1)).mono ?_
    rintro e' W2 ⟨rfl, hb2⟩
    have HB2 := hide (step_b (unhide HB1) hb2)
    have HP2 := hide ((unhide HP1).below hb2)
    have HQ2 := hide ((unhide HQ1).below hb2)
    clear hb2 HB1 HP1 HQ1 q0 q1
    rcases Bool.eq_false_or_eq_true (okD (ms, ss) && decide (0 < ss.length)) with ho | ho
    · rw [ho]
      have HO2 := hide ho
      clear ho
      have p0 := (unhide HP2).n0
      have p1 := (unhide HP2).n1
      have q0 := (unhide HQ2).n0
      have q1 := (unhide HQ2).n1
      obtain ⟨oa, la⟩ := Bool.and_eq_true_iff.1 (unhide HO1)
      obtain ⟨ob, lb⟩ := Bool.and_eq_true_iff.1 (unhide HO2)
      have hrl : 0 < rs.length := of_decide_eq_true la
      have hsl : 0 < ss.length := of_decide_eq_true lb
      obtain ⟨a, rt, har⟩ : ∃ a t, rs = a :: t := by cases rs with | nil => exact absurd hrl (by simp) | cons a t => exact ⟨a, t, rfl⟩
      obtain ⟨b, st, hbs⟩ : ∃ b t, ss = b :: t := by cases ss with | nil => exact absurd hsl (by simp) | cons b t => exact ⟨b, t, rfl⟩
      have HZ : Hid (cmpAt ns ms a b = R) := hide (by rw [← unhide HTR]; have h1 := oa; have h2 := ob; rw [har] at h1 ⊢; rw [hbs] at h2 ⊢; exact (tab_yes h1 h2).symm)
      obtain ⟨l1, _, k1, j1⟩ := ok_parts_d oa
      obtain ⟨l2, _, k2, j2⟩ := ok_parts_d ob
      have ha := j1 a (by rw [har]; exact List.mem_cons_self)
      have hb := j2 b (by rw [hbs]; exact List.mem_cons_self)
      obtain ⟨ga, oa', rfl, _, u0⟩ := ((unhide HR).below (unhide HB2)).cell (k := 0) (x := a) (by rw [har]; rfl)
      obtain ⟨gb, ob', rfl, _, u1⟩ := ((unhide HS).below (unhide HB2)).cell (k := 0) (x := b) (by rw [hbs]; rfl)
      rw [Nat.add_zero] at u0 u1
      obtain ⟨gn, on, cn', e1, _, _, _⟩ := (unhide HN).form (show 0 < ns.length by omega)
      injection e1 with e1 _ e1c
      subst e1
      clear e1c
      obtain ⟨gm, om, cm', e2, _, _, _⟩ := (unhide HM).form (show 0 < ms.length by omega)
      injection e2 with e2 _ e2c
      subst e2
      clear e2c
      have HC : Hid (∀ X, Below W2.heap.size W2 X → Calls Tryz.prog 32 #[.agg #[.slice (some ⟨gn, on, none⟩) ns.length cn, .int .i64 a], .agg #[.slice (some ⟨gm, om, none⟩) ms.length cm, .int .i64 b]] X fun r W' => r = .returned (.int .i64 R) ∧ Below X.heap.size X W') := hide (fun X hX => by
        rw [← unhide HZ]
        have hbX := step_b (unhide HB2) hX
        exact spotCmp_c ns ms a b _ _ _ _ _ _ X ((unhide HN).below hbX) ((unhide HM).below hbX) k1 k2 ⟨ha, hb⟩ l1 l2 ((unhide HT).2.1.belowB hbX (unhide HT).2.2) (Nat.lt_of_lt_of_le (unhide HT).2.2 hbX.size))
      have t0 : (0 : Int) < (rs.length : Int) := by omega
      have t1 : (0 : Int) < (ss.length : Int) := by omega
      clear k1 k2 j1 j2 ha hb har hbs oa ob la lb
      have d0 : W2.drew.cell? ⟨w.heap.size, 0, none⟩ = some (.slice (some ⟨gn, on, none⟩) ns.length cn) := p0
      have d1 : W2.drew.cell? ⟨w.heap.size, 1, none⟩ = some (.slice (some ⟨ga, oa', none⟩) rs.length cr) := p1
      have d2 : W2.drew.cell? ⟨ga, oa', none⟩ = some (.int .i64 a) := u0
      have d3 : W2.drew.cell? ⟨w.heap.size + 1, 0, none⟩ = some (.slice (some ⟨gm, om, none⟩) ms.length cm) := q0
      have d4 : W2.drew.cell? ⟨w.heap.size + 1, 1, none⟩ = some (.slice (some ⟨gb, ob', none⟩) ss.length cs) := q1
      have d5 : W2.drew.cell? ⟨gb, ob', none⟩ = some (.int .i64 b) := u1
      go_wp2_with fail
      go_region_held3 (fun w' => w'.cell? ⟨w.heap.size, 0, none⟩ = some (.slice (some ⟨gn, on, none⟩) ns.length cn) ∧ w'.cell? ⟨w.heap.size, 1, none⟩ = some (.slice (some ⟨ga, oa', none⟩) rs.length cr) ∧ w'.cell? ⟨ga, oa', none⟩ = some (.int .i64 a) ∧ w'.cell? ⟨w.heap.size + 1, 0, none⟩ = some (.slice (some ⟨gm, om, none⟩) ms.length cm) ∧ w'.cell? ⟨w.heap.size + 1, 1, none⟩ = some (.slice (some ⟨gb, ob', none⟩) ss.length cs) ∧ w'.cell? ⟨gb, ob', none⟩ = some (.int .i64 b)) (((try dsimp only); (repeat' apply And.intro) <;> with_reducible assumption)) ((go_at_call 32; refine (unhide HC W2.drew (Below.refl _ _).drew).mono ?_; rintro e w5 ⟨rfl, hb5⟩; have HB5 : Hid (Below W2.heap.size W2 w5) := (Below.refl _ _).drew.trans hb5; have c1 := cell_below (unhide HB5) p0; have c2 := cell_below (unhide HB5) p1; have c3 := cell_below (unhide HB5) u0; have c4 := cell_below (unhide HB5) q0; have c5 := cell_below (unhide HB5) q1; have c6 := cell_below (unhide HB5) u1; clear hb5))
      go_wp2_with fail
      go_ret
      exact ⟨rfl, step_b (unhide HB2) (unhide HB5)⟩
    · rw [ho]
      have HZ : Hid (R = 0) := hide (by
        rw [← unhide HTR]
        rcases Bool.and_eq_false_iff.1 ho with h | h
        · exact tab_no2 h
        · exact tab_nil2 (List.length_eq_zero_iff.1 (by have := of_decide_eq_false h; simp only at this ⊢; omega)))
      clear ho
      go_wp2_with fail
      go_ret
      exact ⟨ret_int (unhide HZ).symm, unhide HB2⟩
  · rw [ho]
    have HZ : Hid (R = 0) := hide (by
      rw [← unhide HTR]
      rcases Bool.and_eq_false_iff.1 ho with h | h
      · exact tab_no1 h
      · exact tab_nil1 (List.length_eq_zero_iff.1 (by have := of_decide_eq_false h; simp only at this ⊢; omega)))
    clear ho
    go_wp2_with fail
    go_ret
    exact ⟨ret_int (unhide HZ).symm, unhide HB1⟩
end Go.Proofs.YtpbnmhnbkfnaeaaGreatDoor
namespace Go.Proofs.YtpbnmhnbkfnaeaaGreatDoor
open Go.ChangeShapes Go.WideShapes Go.ChangeAt Go.RowKit Go.Joins Nt

theorem lawTabCmp_c (nv rv mv sv : Value) (d e : Dt) (w : World) (hd : DataAt w (.agg #[nv, rv]) d) (he : DataAt w (.agg #[mv, sv]) e) (hT : Tabz w) (hN : Tens w) (h3 : 3 < w.heap.size) :
    Calls Tryz.prog 5 #[.agg #[nv, rv], .agg #[mv, sv]] w fun r w' => r = .returned (.bool true) ∧ Below w.heap.size w w' :=
  lawCmp_main nv rv mv sv d e (tabM d e) w hd he (fun u v W _ h1 h2 s1 s2 => specTabCmp_c d e u v W h1 h2 s1 s2)
    (fun u v W hW h1 h2 s1 s2 => implTabCmp_c d e u v W h1 h2 s1 s2 (hT.below (by omega) hW) (hN.belowB hW h3) (Nat.lt_of_lt_of_le h3 hW.size))

theorem own : ownKnob Tryz.prog.godebug = none := by kernel_rfl
theorem laidOut : laidOutB Tryz.prog = true := by kernel_rfl
theorem cellsData : Tryz.prog.cellsOf 42 = 2 := by kernel_rfl
theorem gTens : Tryz.prog.globalNamed "loop.example/sistab/impl.natTens" = some 3 := by kernel_rfl
theorem gTensType : (Tryz.prog.globals[3]?).map (·.type) = some 238 := by kernel_rfl
theorem cellsWord : Tryz.prog.cellsOf 173 = 1 := by kernel_rfl
theorem cellsTens : Tryz.prog.cellsOf 238 = 9 := by kernel_rfl
theorem u8X : Go.Proofs.U8Extra Tryz.prog Tryz.lays196_ren := ⟨by kernel_rfl, by kernel_rfl, by kernel_rfl, by kernel_rfl, by kernel_rfl, by kernel_rfl, by kernel_rfl⟩
theorem accept_eq : (Rows.laid_unicode_utf8_acceptRanges : DataW Unit) = Lib.acceptData := by kernel_rfl
theorem tens_data : (Rows.laid_loop_example_sistab_impl_natTens : DataW Unit) = Lib.tabData .u64 [1, 10, 100, 1000, 10000, 100000, 1000000, 10000000, 100000000] := by kernel_rfl

theorem var_below {P : Program} {B g : Nat} {W W' : World} {n : String} {cs : Array Value} (h : Below B W W') (hg : P.globalNamed n = some g) (hgB : g < B) (hv : W.var? P n = some cs) : W'.var? P n = some cs := by
  unfold World.var? at hv ⊢
  simp only [hg, Option.bind_some] at hv ⊢
  rw [h.block g hgB]
  exact hv
/-- the two tables of unicode/utf8, out of the row's condition -/
theorem tabs_of_laid {W : World} (h : laidMet Tryz.prog Rows.fnExactTabCmpRow.laid W) : Tabz W :=
  Go.Proofs.utf8Tabs_of_readsT (ρ := Tryz.lays196_ren) (Go.Proofs.U8Types.of196 Tryz.lays196) u8X (Pinned.utf8First_eq ▸ Lib.laidMet.reads h (.tail _ (.tail _ (.head _)))) (accept_eq ▸ Lib.laidMet.reads h (.head _))
/-- the table of tens, out of the row's condition -/
theorem tens_of_laid {W : World} (h : laidMet Tryz.prog Rows.fnExactTabCmpRow.laid W) : Tens W := by
  have hT : Lib.TabIs Tryz.prog W "loop.example/sistab/impl.natTens" .u64 [1, 10, 100, 1000, 10000, 100000, 1000000, 10000000, 100000000] := by
    obtain ⟨g, t, cs, fuel, p, h1, h2, h3, h4⟩ := Lib.laidMet.reads h (.tail _ (.head _))
    obtain rfl := Option.some.inj (gTens.symm.trans h1)
    obtain rfl := Option.some.inj (gTensType.symm.trans h2)
    rw [tens_data] at h4
    have e := Lib.cells_of_tab Tryz.underlying238 Tryz.underlying173 cellsWord cellsTens h4
    unfold Lib.TabIs
    rw [h3, ← e]
  intro j hj
  have h0 := hT.cell gTens j (by simpa using hj)
  rw [h0]
  match j, hj with
  | 0, _ => rfl
  | 1, _ => rfl
  | 2, _ => rfl
  | 3, _ => rfl
  | 4, _ => rfl
  | 5, _ => rfl
  | 6, _ => rfl
  | 7, _ => rfl
  | 8, _ => rfl

set_option maxRecDepth 100000 in
theorem cmp_lifted (os : Os) (started : os.Started) (H : Type) (enc : TypeId × Value → H) :
    ReturnsInHanded {} Tryz.checked os 5 .any (fun w args => (Rows.fnExactTabCmpSpec.pre enc Tryz.prog Tryz.f5 [] false w args ∧ laidMetH Tryz.prog Rows.fnExactTabCmpRow.laid w) ∧ sizedMet enc Tryz.prog Tryz.f5 (OpenSpec.ofChange Rows.fnExactTabCmpSpec) false w args)
      (Rows.fnExactTabCmpSpec.post enc Tryz.prog Tryz.f5 false true false false) := by
  refine returnsInHanded_of_change_and (C := Tryz.checked) (X := fun w _ => laidMetH Tryz.prog Rows.fnExactTabCmpRow.laid w) (fun _ _ _ hh h => h.of_heap hh) own started (by kernel_rfl) Tryz.func5
    (ChangeSpec.witness_shaped (enc := enc) (C := Tryz.checked) (os := os) (X := fun w _ => laidMetH Tryz.prog Rows.fnExactTabCmpRow.laid w) false (World.laidAll Tryz.prog os Rows.fnExactTabCmpRow.laid) #[.agg #[.slice none 0 0, .slice none 0 0], .agg #[.slice none 0 0, .slice none 0 0]] 8 (World.laidAll_os _ _ _)
      (World.shaped_of_ZipB (by kernel_rfl) (by kernel_rfl)) (by kernel_rfl) (by kernel_rfl) (by kernel_rfl)
      (by rw [MakeChecks.laidMetH_plain _ _ _ (by kernel_rfl)]; exact laidMet_laidAll _ (by kernel_rfl) (by kernel_rfl))) ?_
  intro W base args ds gs before hval0 hW _ _ hL _
  have hval : ∀ (j : Nat) t v, Tryz.f5.params[j]? = some t → args[j]? = some v → Value.okWide Tryz.prog W .any base t v := hval0
  have hW' := hW
  obtain ⟨p, q, hA0, hV0, rfl, _, _⟩ := hW
  have hA : DataW.TrodAll enc Tryz.prog W 0 (fun _ => true) true Tryz.f5.params.toList args.toList ds p := hA0
  have hV : DataW.TrodVars enc Tryz.prog W (fun _ => true) ["loop.example/sistab/impl.natTens"] gs q := hV0
  rw [Tryz.params5] at hA hval
  obtain ⟨v0, vs0, d0, ds0, p0, q0, hargs, rfl, rfl, h0, r0⟩ := trodAll_cons hA
  obtain ⟨v1, vs1, d1, ds1, p1, q1, rfl, rfl, rfl, h1, r1⟩ := trodAll_cons r0
  obtain ⟨rfl, rfl, rfl⟩ := trodAll_nil r1
  obtain rfl : args = #[v0, v1] := by cases args; simp_all
  obtain ⟨g, t, cs, fuel, d, p', rfl, hg, ht, hvar, hd, rfl⟩ := trodVars_one hV
  obtain rfl := Option.some.inj (gTens.symm.trans hg)
  obtain rfl := Option.some.inj (gTensType.symm.trans ht)
  have k0 := h0
  have k1 := h1
  have lt0 : ∀ x ∈ p0, x.block < W.heap.size := by obtain ⟨m, hm⟩ := k0; exact DataW.trod_lt m _ _ _ hm
  have lt1 : ∀ x ∈ p1, x.block < W.heap.size := by obtain ⟨m, hm⟩ := k1; exact DataW.trod_lt m _ _ _ hm
  have ltv : ∀ x ∈ p', x.block < W.heap.size := DataW.trod_lt fuel _ _ _ hd
  obtain ⟨c0, c1, y0, y1, m0, rfl, hd0, hp0, hy0, hy1⟩ := open_agg2 Tryz.underlying42 (by kernel_rfl) cellsData (hval 0 42 v0 rfl rfl) h0
  obtain ⟨e0, e1, z0, z1, m1, rfl, hd1, hp1, hz0, hz1⟩ := open_agg2 Tryz.underlying42 (by kernel_rfl) cellsData (hval 1 42 v1 rfl rfl) h1
  obtain ⟨ns, hns, _⟩ := nodes_in hy0
  obtain ⟨rs, hrs⟩ := ints_in hy1
  obtain ⟨ms, hms, _⟩ := nodes_in hz0
  obtain ⟨ss, hss⟩ := ints_in hz1
  have hL' := hL
  rw [MakeChecks.laidMetH_plain _ _ _ (by kernel_rfl)] at hL'
  have hT := tens_of_laid hL'
  have hZ := tabs_of_laid hL'
  have hgl : 3 < W.heap.size := World.block_lt_of_cell? W _ (hT 0 (by omega))
  clear hA0 hval0 hV0
  refine (lawTabCmp_c c0 c1 e0 e1 (ns, rs) (ms, ss) W ⟨c0, c1, rfl, hns, hrs⟩ ⟨e0, e1, rfl, hms, hss⟩ hZ hT hgl).mono fun e W' ⟨he, bel⟩ => ?_
  subst he
  obtain ⟨fuel', hd'⟩ := Below.trod laidOut (by kernel_rfl) (of_decide_eq_true (by kernel_rfl)) (v := .agg cs) (⟨fuel, by simpa [Value.cells] using hd⟩ : DataW.Trod enc Tryz.prog W 0 (fun _ => true) true 238 (.agg cs) d p') bel ltv
  have hv' := trodVars_mk1 (enc := enc) (spare := fun b => decide (b < W.heap.size)) hg ht (var_below bel hg hgl hvar) (by simpa [Value.cells] using hd')
  exact ⟨_, rfl, _, _, _, [], _, _, hW', trodAll_mk1 (shut_bool Tryz.underlying4 _), (trodAll_cons_mk (Below.trod laidOut (by kernel_rfl) (of_decide_eq_true (by kernel_rfl)) k0 bel lt0) (trodAll_cons_mk (Below.trod laidOut (by kernel_rfl) (of_decide_eq_true (by kernel_rfl)) k1 bel lt1) trodAll_mk0)), hv', bel.frame _, fun h => by cases h⟩

theorem cmp_holds : Rows.FnExactTabCmpSaid :=
  OpenClaim.holds_of_wide 5 Tryz.f5 rfl rfl rfl rfl rfl rfl rfl ⟨rfl, rfl, rfl, rfl, rfl⟩ rfl rfl rfl rfl rfl (by kernel_rfl) Tryz.func5 (by kernel_rfl)
    (of_decide_eq_true (by kernel_rfl)) (by unfold Func.isWrapper; first | (rw [if_pos (by decide +kernel)]; kernel_rfl) | (rw [if_neg (by decide +kernel)]; exact ⟨rfl, rfl⟩))
    (fun os started H enc _ => cmp_lifted os started H enc)
theorem fnExactTabCmp_card : Rows.FnExactTabCmpCardSaid :=
  Claim7.holds_tied_plain_at .later [] [.data, .data, .pinned] true Rows.fnExactTabCmpCard.stood.harness false cmp_holds (fun _ h => by cases h) (by kernel_rfl) (fun _ h => by cases h) fnExactTabCmp_row_tie rfl ⟨rfl, rfl⟩ (by kernel_rfl) rfl
    (fun f fn hf hfn => by
      obtain rfl : f = 5 := Option.some.inj ((show Tryz.prog.funcNamed "loop.example/sistab/laws.FnExactTabCmp" = some 5 by kernel_rfl).symm.trans hf) |>.symm
      obtain rfl : fn = Tryz.f5 := (Option.some.inj (Tryz.func5.symm.trans hfn)).symm
      exact ⟨by kernel_rfl, fun j t ht => by
        rw [Tryz.params5] at ht
        have hm : t ∈ [42, 42] := by simpa using Array.mem_of_getElem? ht
        have hall : ([42, 42].all fun u => !Tryz.prog.wantsStandIn u) = true := by kernel_rfl
        exact (show Tryz.prog.wantsStandIn t = false by simpa using List.all_eq_true.1 hall t hm)⟩)
    (by kernel_rfl)
#print axioms fnExactTabCmp_card
end Go.Proofs.YtpbnmhnbkfnaeaaGreatDoor
