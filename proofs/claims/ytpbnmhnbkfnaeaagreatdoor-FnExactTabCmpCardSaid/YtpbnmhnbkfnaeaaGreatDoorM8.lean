/- A part of the proof, put together out of smaller texts: each piece says what it is for. -/
import Derived.Test.YtpbnmhnbkfnaeaaGreatDoorM7
import Derived.Shelf.Small.Utf8
import Derived.Shelf.Small.Strs
import Derived.Shelf.Utf8.RuneCount
import Derived.Shelf.Strings.Runes
import Derived.RangeFuncNested
import Derived.RangeFuncBound
import Derived.RangeFuncCalls
import Derived.RangeFuncLeaves
import Derived.Shelf.Abstract
import Derived.Shelf.RegionOpen
import Derived.WalkKit
import Derived.OwnWalkIn
import Derived.TacticsInMore
import Derived.LoopNIn
import Derived.LoopIn
import Derived.Deep.QuietTactic
import Derived.BigQuiet
import Derived.Laws.StructEq
import Derived.Deep.Cut
import Derived.Deep.CutRange
import Derived.Deep.RegionHeld3
import Derived.Deep.AppendLies
/- The specification's nodes held against each other. -/
namespace Go.Proofs.YtpbnmhnbkfnaeaaGreatDoor
open Go.RowKit Nt

theorem numTx_small (t : List UInt8) : smallT (numTx t) := by
  have h := ans_len t 10
  unfold numTx smallT
  cases e : parseM t 10 with
  | none => simp [nilT]
  | some p =>
    rw [e] at h
    obtain ⟨n, u, d⟩ := p
    simp only [ansU, ansD] at h
    exact ⟨by simp only [putT]; omega, by simp only [putT]; omega⟩
theorem lab_sort {a b : Nd} (h : a.1 ≠ b.1) : labCmp a b = cmpI a.1 b.1 := by unfold labCmp; rw [if_pos h]
theorem lab_num {a b : Nd} (h : a.1 = b.1) (h1 : a.1 = 1) : labCmp a b = cmpT (numTx a.2.1) (numTx b.2.1) := by unfold labCmp; rw [if_neg (by simp [h]), if_pos h1]
theorem lab_text {a b : Nd} (h : a.1 = b.1) (h1 : a.1 ≠ 1) (h2 : a.2.1 ≠ b.2.1) : labCmp a b = Lib.compareBytes a.2.1 b.2.1 := by unfold labCmp; rw [if_neg (by simp [h]), if_neg h1, if_pos h2]
theorem lab_len {a b : Nd} (h : a.1 = b.1) (h1 : a.1 ≠ 1) (h2 : a.2.1 = b.2.1) : labCmp a b = cmpI a.2.2.length b.2.2.length := by unfold labCmp; rw [if_neg (by simp [h]), if_neg h1, if_neg (by simp [h2])]

set_option maxRecDepth 100000 in
set_option maxHeartbeats 4000000 in
theorem l21Node_c (a b : Nd) (a1 a2 : Option Addr) (c1 c2 : Nat) (w : World) (ht1 : a.2.1.length ≤ 1048576) (ht2 : b.2.1.length ≤ 1048576) (hk1 : a.2.2.length ≤ 1048576) (hk2 : b.2.2.length ≤ 1048576) :
    Calls Tryz.prog 63 #[.agg #[.int .i64 a.1, .string (B a.2.1), .slice a1 a.2.2.length c1], .agg #[.int .i64 b.1, .string (B b.2.1), .slice a2 b.2.2.length c2]] w fun e w' => e = .returned (.int .i64 (labCmp a b)) ∧ Below w.heap.size w w' := by
  obtain ⟨R, hR⟩ : ∃ R, labCmp a b = R := ⟨_, rfl⟩
  rw [hR]
  by_cases hs : a.1 = b.1
  · by_cases h1 : a.1 = 1
    · have HQ := hide ((lab_num hs h1).symm.trans hR)
      clear hR
      -- $1 the function: two nodes in their boxes
      obtain ⟨s1, t1, k1⟩ := a
      obtain ⟨s2, t2, k2⟩ := b
      simp only at *
      have HB := hide (below_two w (.int .i64 s1) (.string (B t1)) (.slice a1 k1.length c1) (.int .i64 s2) (.string (B t2)) (.slice a2 k2.length c2) 56)
      have HA1 := hide ((AtC3.new w (.int .i64 s1) (.string (B t1)) (.slice a1 k1.length c1) 56).below (step_a (Below.refl _ _) (.cells #[.int .i64 s2, .string (B t2), .slice a2 k2.length c2] 56)))
      have HA2 := hide (AtC3.new (w.alloc (.cells #[.int .i64 s1, .string (B t1), .slice a1 k1.length c1] 56)) (.int .i64 s2) (.string (B t2)) (.slice a2 k2.length c2) 56)
      rw [World.size_alloc] at HA2
      subst h1
      subst hs
      have hP1 := specNumParse_c t1 10
      have hP2 := specNumParse_c t2 10
      unfold numAns at hP1 hP2
      rw [numO_tx] at hP1 hP2
      have hc := fun W => specNumCmp_c (numTx t1) (numTx t2) W (numTx_small t1) (numTx_small t2)
      rw [unhide HQ] at hc
      obtain ⟨X1, hX1⟩ : ∃ X, numTx t1 = X := ⟨_, rfl⟩
      obtain ⟨X2, hX2⟩ : ∃ X, numTx t2 = X := ⟨_, rfl⟩
      rw [hX1] at hP1 hc
      rw [hX2] at hP2 hc
      clear hX1 hX2
      obtain ⟨n1, u1, d1⟩ := X1
      obtain ⟨n2, u2, d2⟩ := X2
      unfold numT at hP1 hP2 hc
      simp only at hP1 hP2 hc
      have HP1 := hide hP1
      have HP2 := hide hP2
      have HC := hide hc
      clear hP1 hP2 hc
      go_enter Tryz.func63, Tryz.ntmps63
      go_wp2_with fail
      obtain ⟨W, hW⟩ : ∃ W, (w.alloc (.cells #[.int .i64 1, .string (B t1), .slice a1 k1.length c1] 56)).alloc (.cells #[.int .i64 1, .string (B t2), .slice a2 k2.length c2] 56) = W := ⟨_, rfl⟩
      rw [hW] at HB HA1 HA2 ⊢
      clear hW
      refine (unhide HP1 W (by omega)).mono ?_
      rintro e w1 ⟨rfl, hb1⟩
      have HA3 := hide ((unhide HA2).below (hb1.trans ((step_a (Below.refl _ _) (.cells #[.bool n1, .string (B u1), .string (B d1)] 79)).mono hb1.size)))
      have HN1 := hide (AtC3.new w1 (.bool n1) (.string (B u1)) (.string (B d1)) 79)
      have HB1 := hide (step_a (step_b (unhide HB) hb1) (.cells #[.bool n1, .string (B u1), .string (B d1)] 79))
      have q1 := (unhide HA3).n1
      clear hb1 HB HA1 HA2
      go_wp2_with fail
      obtain ⟨W1, hW⟩ : ∃ W1, w1.alloc (.cells #[.bool n1, .string (B u1), .string (B d1)] 79) = W1 := ⟨_, rfl⟩
      rw [hW] at HB1 HN1 HA3 q1 ⊢
      clear hW
      refine (unhide HP2 W1 (by omega)).mono ?_
      rintro e w2 ⟨rfl, hb2⟩
      have HN2 := hide (AtC3.new w2 (.bool n2) (.string (B u2)) (.string (B d2)) 79)
      have HN3 := hide (((unhide HN1).below hb2).below (step_a (Below.refl _ _) (.cells #[.bool n2, .string (B u2), .string (B d2)] 79)))
      have HB2 := hide (step_a (step_b (unhide HB1) hb2) (.cells #[.bool n2, .string (B u2), .string (B d2)] 79))
      have x0 := (unhide HN3).n0
      have x1 := (unhide HN3).n1
      have x2 := (unhide HN3).n2
      clear hb2 HB1 HN1 HA3 q1
      go_wp2_with fail
      obtain ⟨W2, hW⟩ : ∃ W2, w2.alloc (.cells #[.bool n2, .string (B u2), .string (B d2)] 79) = W2 := ⟨_, rfl⟩
      rw [hW] at HB2 ⊢
      refine (unhide HC W2).mono ?_
      rintro e w3 ⟨rfl, hb3⟩
      have HB3 := hide (step_b (unhide HB2) hb3)
      clear hb3
      go_wp2_with fail
      go_ret
      exact ⟨rfl, unhide HB3⟩
    · by_cases h2 : a.2.1 = b.2.1
      · have HQ := hide ((lab_len hs h1 h2).symm.trans hR)
        clear hR
        -- $1 the function: two nodes in their boxes
        obtain ⟨s1, t1, k1⟩ := a
        obtain ⟨s2, t2, k2⟩ := b
        simp only at *
        have HB := hide (below_two w (.int .i64 s1) (.string (B t1)) (.slice a1 k1.length c1) (.int .i64 s2) (.string (B t2)) (.slice a2 k2.length c2) 56)
        have HA1 := hide ((AtC3.new w (.int .i64 s1) (.string (B t1)) (.slice a1 k1.length c1) 56).below (step_a (Below.refl _ _) (.cells #[.int .i64 s2, .string (B t2), .slice a2 k2.length c2] 56)))
        have HA2 := hide (AtC3.new (w.alloc (.cells #[.int .i64 s1, .string (B t1), .slice a1 k1.length c1] 56)) (.int .i64 s2) (.string (B t2)) (.slice a2 k2.length c2) 56)
        rw [World.size_alloc] at HA2
        subst hs
        subst h2
        have e1 : (s1 == 1) = false := beq_eq_false_iff_ne.2 h1
        have e2 : ((B t1).toList == (B t1).toList) = true := by simp
        have HI := hide (fun W => l21Ints_c (k1.length : Int) (k2.length : Int) W)
        rw [unhide HQ] at HI
        clear h1 HQ
        go_enter Tryz.func63, Tryz.ntmps63
        go_wp2_with fail
        refine (unhide HI _).mono ?_
        rintro e w1 ⟨rfl, rfl⟩
        go_wp2_with fail
        go_ret
        exact ⟨rfl, unhide HB⟩
      · have HQ := hide ((lab_text hs h1 h2).symm.trans hR)
        clear hR
        -- $1 the function: two nodes in their boxes
        obtain ⟨s1, t1, k1⟩ := a
        obtain ⟨s2, t2, k2⟩ := b
        simp only at *
        have HB := hide (below_two w (.int .i64 s1) (.string (B t1)) (.slice a1 k1.length c1) (.int .i64 s2) (.string (B t2)) (.slice a2 k2.length c2) 56)
        have HA1 := hide ((AtC3.new w (.int .i64 s1) (.string (B t1)) (.slice a1 k1.length c1) 56).below (step_a (Below.refl _ _) (.cells #[.int .i64 s2, .string (B t2), .slice a2 k2.length c2] 56)))
        have HA2 := hide (AtC3.new (w.alloc (.cells #[.int .i64 s1, .string (B t1), .slice a1 k1.length c1] 56)) (.int .i64 s2) (.string (B t2)) (.slice a2 k2.length c2) 56)
        rw [World.size_alloc] at HA2
        subst hs
        have e1 : (s1 == 1) = false := beq_eq_false_iff_ne.2 h1
        have e2 : ((B t1).toList == (B t2).toList) = false := by rw [B_tl, B_tl, beq_eq_false_iff_ne]; exact h2
        have HI := hide (fun W => l21Texts_c t1 t2 W)
        rw [unhide HQ] at HI
        clear h1 h2 HQ
        go_enter Tryz.func63, Tryz.ntmps63
        go_wp2_with fail
        refine (unhide HI _).mono ?_
        rintro e w1 ⟨rfl, rfl⟩
        go_wp2_with fail
        go_ret
        exact ⟨rfl, unhide HB⟩
  · have HQ := hide ((lab_sort hs).symm.trans hR)
    clear hR
    -- $1 the function: two nodes in their boxes
    obtain ⟨s1, t1, k1⟩ := a
    obtain ⟨s2, t2, k2⟩ := b
    simp only at *
    have HB := hide (below_two w (.int .i64 s1) (.string (B t1)) (.slice a1 k1.length c1) (.int .i64 s2) (.string (B t2)) (.slice a2 k2.length c2) 56)
    have HA1 := hide ((AtC3.new w (.int .i64 s1) (.string (B t1)) (.slice a1 k1.length c1) 56).below (step_a (Below.refl _ _) (.cells #[.int .i64 s2, .string (B t2), .slice a2 k2.length c2] 56)))
    have HA2 := hide (AtC3.new (w.alloc (.cells #[.int .i64 s1, .string (B t1), .slice a1 k1.length c1] 56)) (.int .i64 s2) (.string (B t2)) (.slice a2 k2.length c2) 56)
    rw [World.size_alloc] at HA2
    have e1 : (s1 == s2) = false := beq_eq_false_iff_ne.2 hs
    have HI := hide (fun W => l21Ints_c s1 s2 W)
    rw [unhide HQ] at HI
    clear hs HQ
    go_enter Tryz.func63, Tryz.ntmps63
    go_wp2_with fail
    refine (unhide HI _).mono ?_
    rintro e w1 ⟨rfl, rfl⟩
    go_wp2_with fail
    go_ret
    exact ⟨rfl, unhide HB⟩
end Go.Proofs.YtpbnmhnbkfnaeaaGreatDoor
/- Contracts of Go's library at this program: as the kit's lay-shelf.mjs and lay-plain.mjs print them (the numbers are this seat's: lay anew at another). -/
namespace Go.Proofs.YtpbnmhnbkfnaeaaGreatDoor
open Go.Shelf
def Tryz.lays119_ren : Go.Shelf.Ren := ⟨fun | 119 => 229 | n => n, fun | 21 => 21 | 4 => 4 | n => n, fun | n => n⟩
theorem Tryz.lays119 : Go.Proofs.Lays.n119 Tryz.prog Tryz.lays119_ren := {
  mixed := by kernel_rfl
  f119 := Tryz.func229.trans (congrArg some (by kernel_rfl))
  t4 := Tryz.underlying4
  a4 := Tryz.isAgg4
  z4 := Tryz.sizeOf4
  v4 := Tryz.zeroValue4
  t21 := Tryz.underlying21
  a21 := Tryz.isAgg21
  z21 := Tryz.sizeOf21
  v21 := Tryz.zeroValue21 }
/-- utf8.ValidRune: "ValidRune reports whether r can be legally encoded as UTF-8. Code points that are out of range or a surrogate half are illegal.": IT RETURNS 'Lib.validRune r'; the world is as it was. (LAID: no walk: one application.) -/
theorem Tryz.utf8_ValidRune (r : Int) (w : World) :
    Calls Tryz.prog 229 #[.int .i32 r] w fun e w' => e = .returned (.bool (Lib.validRune r)) ∧ w' = w := Any.utf8_ValidRune Tryz.lays119 r w
def Tryz.lays213_ren : Go.Shelf.Ren := ⟨fun | 213 => 154 | 265 => 177 | n => n, fun | 9 => 9 | 3 => 3 | n => n, fun | n => n⟩
theorem Tryz.lays213 : Go.Proofs.Lays.n213 Tryz.prog Tryz.lays213_ren := {
  mixed := by kernel_rfl
  f213 := Tryz.func154.trans (congrArg some (by kernel_rfl))
  f265 := Tryz.func177.trans (congrArg some (by kernel_rfl))
  t3 := Tryz.underlying3
  a3 := Tryz.isAgg3
  z3 := Tryz.sizeOf3
  v3 := Tryz.zeroValue3
  t9 := Tryz.underlying9
  a9 := Tryz.isAgg9
  z9 := Tryz.sizeOf9
  v9 := Tryz.zeroValue9 }
open Go.RowKit in
/-- internal/bytealg.CompareString (what strings.Compare calls): IT RETURNS 'Lib.compareBytes a b'; the world is as it was. (LAID: no walk: one application.) -/
theorem Tryz.bytealg_CompareString (a b : ByteArray) (w : World) :
    Calls Tryz.prog 154 #[.string a, .string b] w fun e w' => e = .returned (.int .i64 (Lib.compareBytes a.data.toList b.data.toList)) ∧ w' = w := Any.bytealg_CompareString Tryz.lays213 a b w
def Tryz.lays106_ren : Go.Shelf.Ren := ⟨fun | 106 => 127 | 213 => 154 | 265 => 177 | n => n, fun | 9 => 9 | 3 => 3 | n => n, fun | n => n⟩
theorem Tryz.lays106 : Go.Proofs.Lays.n106 Tryz.prog Tryz.lays106_ren := {
  mixed := by kernel_rfl
  f106 := Tryz.func127.trans (congrArg some (by kernel_rfl))
  f213 := Tryz.func154.trans (congrArg some (by kernel_rfl))
  f265 := Tryz.func177.trans (congrArg some (by kernel_rfl))
  t3 := Tryz.underlying3
  a3 := Tryz.isAgg3
  z3 := Tryz.sizeOf3
  v3 := Tryz.zeroValue3
  t9 := Tryz.underlying9
  a9 := Tryz.isAgg9
  z9 := Tryz.sizeOf9
  v9 := Tryz.zeroValue9 }
open Go.RowKit in
/-- strings.Compare: "Compare returns an integer comparing two strings lexicographically. The result will be 0 if a == b, -1 if a < b, and +1 if a > b.": IT RETURNS 'Lib.compareBytes a b'; the world is as it was. (LAID: no walk: one application.) -/
theorem Tryz.strings_Compare (a b : ByteArray) (w : World) :
    Calls Tryz.prog 127 #[.string a, .string b] w fun e w' => e = .returned (.int .i64 (Lib.compareBytes a.data.toList b.data.toList)) ∧ w' = w := Any.strings_Compare Tryz.lays106 a b w
def Tryz.lays137_ren : Go.Shelf.Ren := ⟨fun | 137 => 228 | 217 => 221 | 266 => 226 | n => n, fun | 9 => 9 | 5 => 5 | 3 => 3 | n => n, fun | n => n⟩
theorem Tryz.lays137 : Go.Proofs.Lays.n137 Tryz.prog Tryz.lays137_ren := {
  mixed := by kernel_rfl
  f137 := Tryz.func228.trans (congrArg some (by kernel_rfl))
  f217 := Tryz.func221.trans (congrArg some (by kernel_rfl))
  f266 := Tryz.func226.trans (congrArg some (by kernel_rfl))
  t3 := Tryz.underlying3
  a3 := Tryz.isAgg3
  z3 := Tryz.sizeOf3
  v3 := Tryz.zeroValue3
  t5 := Tryz.underlying5
  a5 := Tryz.isAgg5
  z5 := Tryz.sizeOf5
  v5 := Tryz.zeroValue5
  t9 := Tryz.underlying9
  a9 := Tryz.isAgg9
  z9 := Tryz.sizeOf9
  v9 := Tryz.zeroValue9 }
open Go.RowKit in
/-- strings.IndexByte: "IndexByte returns the index of the first instance of c in s, or -1 if c is not present in s.": IT RETURNS 'Lib.indexByte s c'; the world is as it was. (LAID: no walk: one application.) -/
theorem Tryz.strings_IndexByte (s : ByteArray) (c : Int) (w : World) :
    Calls Tryz.prog 228 #[.string s, .int .u8 c] w fun e w' => e = .returned (.int .i64 (Lib.indexByte s.data.toList c.toNat.toUInt8)) ∧ w' = w := Any.strings_IndexByte Tryz.lays137 s c w
def Tryz.lays195_ren : Go.Shelf.Ren := ⟨fun | 195 => 168 | n => n, fun | 9 => 9 | 3 => 3 | 0 => 0 | 4 => 4 | n => n, fun | n => n⟩
theorem Tryz.lays195 : Go.Proofs.Lays.n195 Tryz.prog Tryz.lays195_ren := {
  mixed := by kernel_rfl
  f195 := Tryz.func168.trans (congrArg some (by kernel_rfl))
  t0 := Tryz.underlying0
  a0 := Tryz.isAgg0
  z0 := Tryz.sizeOf0
  v0 := Tryz.zeroValue0
  t3 := Tryz.underlying3
  a3 := Tryz.isAgg3
  z3 := Tryz.sizeOf3
  v3 := Tryz.zeroValue3
  t4 := Tryz.underlying4
  a4 := Tryz.isAgg4
  z4 := Tryz.sizeOf4
  v4 := Tryz.zeroValue4
  t9 := Tryz.underlying9
  a9 := Tryz.isAgg9
  z9 := Tryz.sizeOf9
  v9 := Tryz.zeroValue9 }
open Go.RowKit in
/-- unicode/utf8.RuneCountInString: "RuneCountInString is like RuneCount but its input is a string." ("RuneCount returns the number of runes in p. Erroneous and short encodings are treated as single runes of width 1 byte."): EVERY STRING, valid UTF-8 or not: 'Lib.runeCount s' (plain Lean over the model's own 'Utf8.decode'; 'Lib.runeCount_le': at most len(s); 'Lib.runeCount_ascii': on ASCII: len(s)). THE ONE CONDITION: len(s) below 2^63 - 1 (the counter does not wrap): the form's reach pays it. THE WORLD BEHIND THE CALL: ONE BLOCK MORE: the model's iterator over s, at its end: all else as it was. (LAID: no walk: one application.) -/
theorem Tryz.utf8_RuneCountInString (s : ByteArray) (w : World) (hs : s.size < 9223372036854775807) :
    Calls Tryz.prog 168 #[.string s] w fun e w' => e = .returned (.int .i64 (Lib.runeCount s)) ∧ ∃ pos, w' = w.iter s pos := Any.utf8_RuneCountInString Tryz.lays195 s w hs
def Tryz.lays152_ren : Go.Shelf.Ren := ⟨fun | 152 => 225 | 137 => 228 | 119 => 229 | 224 => 223 | 225 => 222 | 217 => 221 | 266 => 226 | n => n, fun | 9 => 9 | 21 => 21 | 3 => 3 | 4 => 4 | 5 => 5 | 0 => 0 | 46 => 150 | n => n, fun | n => n⟩
theorem Tryz.lays152 : Go.Proofs.Lays.n152 Tryz.prog Tryz.lays152_ren := {
  mixed := by kernel_rfl
  f119 := Tryz.func229.trans (congrArg some (by kernel_rfl))
  f137 := Tryz.func228.trans (congrArg some (by kernel_rfl))
  f152 := Tryz.func225.trans (congrArg some (by kernel_rfl))
  f217 := Tryz.func221.trans (congrArg some (by kernel_rfl))
  f224 := Tryz.func223.trans (congrArg some (by kernel_rfl))
  f225 := Tryz.func222.trans (congrArg some (by kernel_rfl))
  f266 := Tryz.func226.trans (congrArg some (by kernel_rfl))
  t0 := Tryz.underlying0
  a0 := Tryz.isAgg0
  z0 := Tryz.sizeOf0
  v0 := Tryz.zeroValue0
  t3 := Tryz.underlying3
  a3 := Tryz.isAgg3
  z3 := Tryz.sizeOf3
  v3 := Tryz.zeroValue3
  t4 := Tryz.underlying4
  a4 := Tryz.isAgg4
  z4 := Tryz.sizeOf4
  v4 := Tryz.zeroValue4
  t5 := Tryz.underlying5
  a5 := Tryz.isAgg5
  z5 := Tryz.sizeOf5
  v5 := Tryz.zeroValue5
  t9 := Tryz.underlying9
  a9 := Tryz.isAgg9
  z9 := Tryz.sizeOf9
  v9 := Tryz.zeroValue9
  t21 := Tryz.underlying21
  a21 := Tryz.isAgg21
  z21 := Tryz.sizeOf21
  v21 := Tryz.zeroValue21
  t46 := Tryz.underlying150
  a46 := Tryz.isAgg150
  z46 := Tryz.sizeOf150
  v46 := Tryz.zeroValue150 }
open Go.RowKit Go.Lib in
theorem Tryz.strings_IndexRune_ascii (s : ByteArray) (r : Int) (w : World) (h0 : 0 ≤ r) (h1 : r < 128) :
    Calls Tryz.prog 225 #[.string s, .int .i32 r] w fun e w' => e = .returned (.int .i64 (Lib.indexByte s.data.toList r.toNat.toUInt8)) ∧ w' = w := Any.strings_IndexRune_ascii Tryz.lays152 s r w h0 h1
def Tryz.lays151_ren : Go.Shelf.Ren := ⟨fun | 151 => 218 | 152 => 225 | 137 => 228 | 119 => 229 | 224 => 223 | 225 => 222 | 217 => 221 | 266 => 226 | n => n, fun | 9 => 9 | 21 => 21 | 4 => 4 | 3 => 3 | 5 => 5 | 0 => 0 | 46 => 150 | n => n, fun | n => n⟩
theorem Tryz.lays151 : Go.Proofs.Lays.n151 Tryz.prog Tryz.lays151_ren := {
  mixed := by kernel_rfl
  f119 := Tryz.func229.trans (congrArg some (by kernel_rfl))
  f137 := Tryz.func228.trans (congrArg some (by kernel_rfl))
  f151 := Tryz.func218.trans (congrArg some (by kernel_rfl))
  f152 := Tryz.func225.trans (congrArg some (by kernel_rfl))
  f217 := Tryz.func221.trans (congrArg some (by kernel_rfl))
  f224 := Tryz.func223.trans (congrArg some (by kernel_rfl))
  f225 := Tryz.func222.trans (congrArg some (by kernel_rfl))
  f266 := Tryz.func226.trans (congrArg some (by kernel_rfl))
  t0 := Tryz.underlying0
  a0 := Tryz.isAgg0
  z0 := Tryz.sizeOf0
  v0 := Tryz.zeroValue0
  t3 := Tryz.underlying3
  a3 := Tryz.isAgg3
  z3 := Tryz.sizeOf3
  v3 := Tryz.zeroValue3
  t4 := Tryz.underlying4
  a4 := Tryz.isAgg4
  z4 := Tryz.sizeOf4
  v4 := Tryz.zeroValue4
  t5 := Tryz.underlying5
  a5 := Tryz.isAgg5
  z5 := Tryz.sizeOf5
  v5 := Tryz.zeroValue5
  t9 := Tryz.underlying9
  a9 := Tryz.isAgg9
  z9 := Tryz.sizeOf9
  v9 := Tryz.zeroValue9
  t21 := Tryz.underlying21
  a21 := Tryz.isAgg21
  z21 := Tryz.sizeOf21
  v21 := Tryz.zeroValue21
  t46 := Tryz.underlying150
  a46 := Tryz.isAgg150
  z46 := Tryz.sizeOf150
  v46 := Tryz.zeroValue150 }
open Go.RowKit Go.Lib in
theorem Tryz.strings_ContainsRune_ascii (s : ByteArray) (r : Int) (w : World) (h0 : 0 ≤ r) (h1 : r < 128) :
    Calls Tryz.prog 218 #[.string s, .int .i32 r] w fun e w' => e = .returned (.bool (decide (0 ≤ Lib.indexByte s.data.toList r.toNat.toUInt8))) ∧ w' = w := Any.strings_ContainsRune_ascii Tryz.lays151 s r w h0 h1
end Go.Proofs.YtpbnmhnbkfnaeaaGreatDoor
/- The specification's symbols. -/
namespace Go.Proofs.YtpbnmhnbkfnaeaaGreatDoor
open Go.RowKit Nt

theorem numO_form (o : Option (Bool × Nat × Nat)) : ∃ b u d, numO o = .agg #[.bool b, .string u, .string d] := by
  cases o with
  | none => exact ⟨_, _, _, rfl⟩
  | some p => obtain ⟨a, b, c⟩ := p; exact ⟨_, _, _, rfl⟩

theorem B_ne (l m : List UInt8) (h : l ≠ m) : ((B l).toList == m) = false := by
  rw [B_tl, beq_eq_false_iff_ne]; exact h
theorem B_eqq (l : List UInt8) : ((B l).toList == l) = true := by
  rw [B_tl]; simp
theorem B_head (c : UInt8) (r : List UInt8) (h : 0 < (B (c :: r)).size) : (B (c :: r))[0]'h = c := by rw [B_get]; rfl

theorem all_bad {l : List UInt8} {k : Nat} (h : k < l.length) (hb : badN (l[k]'h).toNat = true) : (l.all fun c => !badN c.toNat) = false := by
  rw [List.all_eq_false]; exact ⟨l[k]'h, List.getElem_mem h, by simp [hb]⟩
theorem all_good {l : List UInt8} (h : ∀ i (hi : i < l.length), badN (l[i]'hi).toNat = false) : (l.all fun c => !badN c.toNat) = true := by
  rw [List.all_eq_true]
  intro c hc
  obtain ⟨i, hi, rfl⟩ := List.mem_iff_getElem.1 hc
  simp [h i hi]
theorem neI {a : Nat} {b : Nat} (h : a ≠ b) : ((a : Int) == (b : Int)) = false := by rw [beq_eq_false_iff_ne]; omega
theorem bad_cases {n : Nat} (h : badN n = true) : endN n = true ∨ (endN n = false ∧ n < 33) ∨ (endN n = false ∧ ¬ n < 33 ∧ (n = 127 ∨ n = 92 ∨ n = 124)) := by
  unfold badN at h
  cases he : endN n with
  | true => exact .inl rfl
  | false =>
    rw [he] at h
    simp only [Bool.false_or, Bool.or_eq_true, decide_eq_true_eq, beq_iff_eq] at h
    by_cases h3 : n < 33
    · exact .inr (.inl ⟨rfl, h3⟩)
    · exact .inr (.inr ⟨rfl, h3, by omega⟩)
theorem good_parts {n : Nat} (h : badN n = false) : endN n = false ∧ ¬ n < 33 ∧ n ≠ 127 ∧ n ≠ 92 ∧ n ≠ 124 := by
  unfold badN at h
  simp only [Bool.or_eq_false_iff, decide_eq_false_iff_not, beq_eq_false_iff_ne] at h
  obtain ⟨⟨⟨⟨a, b⟩, c⟩, d⟩, e⟩ := h
  exact ⟨a, b, c, d, e⟩

set_option maxHeartbeats 4000000 in
set_option maxRecDepth 100000 in
theorem l11SymbolOk_c (t : List UInt8) (w : World) (hs : t.length ≤ 1048576) :
    Calls Tryz.prog 65 #[.string (B t)] w fun e w' => e = .returned (.bool (symM t)) ∧ Below w.heap.size w w' := by
  obtain ⟨nb, nu, nd, hN⟩ := numO_form (parseM t 10)
  have h1 := specNumParse_c t 10 w (by omega)
  unfold numAns at h1
  rw [hN] at h1
  obtain ⟨K, hK⟩ : ∃ K, (parseM t 10).isSome = K := ⟨_, rfl⟩
  rw [hK] at h1
  have H1 := hide h1
  have hnone : (parseM t 10).isNone = !K := by rw [← hK]; cases parseM t 10 <;> rfl
  have HNO := hide hnone
  have HA := hide (fun (W : World) => step_a (Below.refl W.heap.size W) (.cells #[.bool nb, .string nu, .string nd] 79))
  clear h1 hN hK hnone
  by_cases hne : t = []
  · subst hne
    have HR : Hid (symM [] = false) := hide (by unfold symM wordM; simp)
    have e0 : ((B []).toList == []) = true := B_eqq []
    go_enter Tryz.func65, Tryz.ntmps65
    go_wp2_with fail
    refine (unhide H1).mono ?_
    rintro e w1 ⟨rfl, hb1⟩
    have HB := hide (hb1.trans ((unhide HA w1).mono hb1.size))
    clear hb1
    go_wp2_with fail
    go_ret
    exact ⟨by rw [unhide HR]; rfl, unhide HB⟩
  · obtain ⟨c, r, hcr⟩ : ∃ c r, t = c :: r := by cases t with | nil => exact absurd rfl hne | cons c r => exact ⟨c, r, rfl⟩
    have HW : Hid (wordM t = (!headN c.toNat && decide (t.length ≤ 200) && Lib.validD t && t.all fun c => !badN c.toNat)) := hide (by rw [hcr]; rfl)
    have hz : 0 < (B t).size := by rw [B_size, hcr]; simp
    have hc : (B t)[0]'hz = c := by subst hcr; exact B_head c r hz
    clear hcr
    have e0 : ((B t).toList == []) = false := B_ne _ _ hne
    clear hne
    by_cases h46 : t = [46]
    · have HR : Hid (symM t = false) := hide (by unfold symM; simp [h46])
      have e1 : ((B t).toList == [46]) = true := by rw [h46]; exact B_eqq _
      clear h46
      go_enter Tryz.func65, Tryz.ntmps65
      go_wp2_with fail
      refine (unhide H1).mono ?_
      rintro e w1 ⟨rfl, hb1⟩
      have HB := hide (hb1.trans ((unhide HA w1).mono hb1.size))
      clear hb1
      go_wp2_with fail
      go_ret
      exact ⟨by rw [unhide HR]; rfl, unhide HB⟩
    · have e1 : ((B t).toList == [46]) = false := B_ne _ _ h46
      cases K with
      | true =>
        have HR : Hid (symM t = false) := hide (by unfold symM; rw [unhide HNO]; rfl)
        clear h46
        go_enter Tryz.func65, Tryz.ntmps65
        go_wp2_with fail
        refine (unhide H1).mono ?_
        rintro e w1 ⟨rfl, hb1⟩
        have HB := hide (hb1.trans ((unhide HA w1).mono hb1.size))
        clear hb1
        go_wp2_with fail
        go_ret
        exact ⟨by rw [unhide HR]; rfl, unhide HB⟩
      | false =>
        have HS : Hid (symM t = wordM t) := hide (by unfold symM; rw [unhide HNO]; simp [h46])
        obtain ⟨n, hn⟩ : ∃ n, c.toNat = n := ⟨_, rfl⟩
        have hn256 : n < 256 := by rw [← hn]; exact c.toNat_lt
        have hw : wrap64 (n : Int) = n := by unfold wrap64; omega
        clear hn256
        have HHEAD : Hid (headN n = true → symM t = false) := hide (fun h => by rw [unhide HS, unhide HW, hn, h]; rfl)
        clear h46
        by_cases h3 : n = 35 ∨ n = 44 ∨ n = 96
        · have HR : Hid (symM t = false) := hide (unhide HHEAD (by rcases h3 with rfl | rfl | rfl <;> rfl))
          rcases h3 with rfl | rfl | rfl
          all_goals
            go_enter Tryz.func65, Tryz.ntmps65
            go_wp2_with fail
            refine (unhide H1).mono ?_
            rintro e w1 ⟨rfl, hb1⟩
            have HB := hide (hb1.trans ((unhide HA w1).mono hb1.size))
            clear hb1
            go_wp2_with fail
            go_ret
            exact ⟨by rw [unhide HR]; rfl, unhide HB⟩
        · have n1 : ((n : Int) == 35) = false := neI (b := 35) (by omega)
          have n2 : ((n : Int) == 44) = false := neI (b := 44) (by omega)
          have n3 : ((n : Int) == 96) = false := neI (b := 96) (by omega)
          by_cases hd : (decide ((48 : Int) ≤ n) && decide ((n : Int) ≤ 57)) = true
          · have HR : Hid (symM t = false) := hide (unhide HHEAD (by
              unfold headN
              simp only [Bool.and_eq_true, decide_eq_true_eq] at hd
              have : (decide (48 ≤ n) && decide (n ≤ 57)) = true := by simp only [Bool.and_eq_true, decide_eq_true_eq]; omega
              rw [this, Bool.or_true]))
            have HD := hide hd
            clear h3 hd
            go_enter Tryz.func65, Tryz.ntmps65
            go_wp2_with fail
            refine (unhide H1).mono ?_
            rintro e w1 ⟨rfl, hb1⟩
            have HB := hide (hb1.trans ((unhide HA w1).mono hb1.size))
            clear hb1
            go_wp2_with fail
            refine (l1In_g n 48 57 _).mono ?_
            rintro e w2 ⟨rfl, rfl⟩
            rw [unhide HD]
            go_wp2_with fail
            go_ret
            exact ⟨by rw [unhide HR]; rfl, unhide HB⟩
          · have hd : (decide ((48 : Int) ≤ n) && decide ((n : Int) ≤ 57)) = false := by simpa using hd
            have HH : Hid (headN n = false) := hide (by
              have : (decide (48 ≤ n) && decide (n ≤ 57)) = false := by
                simp only [Bool.and_eq_false_iff, decide_eq_false_iff_not] at hd ⊢; omega
              unfold headN
              rw [this, Bool.or_false]
              simp only [Bool.or_eq_false_iff, beq_eq_false_iff_ne]
              omega)
            have HD := hide hd
            clear h3 hd
            by_cases hl : t.length ≤ 200
            · have hl' : ¬ (200 : Int) < ((B t).size : Int) := by rw [B_size]; omega
              have HV := hide (l11Runes_c t)
              cases hv : Lib.validD t with
              | false =>
                have HR : Hid (symM t = false) := hide (by rw [unhide HS, unhide HW, hv, Bool.and_false]; rfl)
                rw [hv] at HV
                clear hl hv
                go_enter Tryz.func65, Tryz.ntmps65
                go_wp2_with fail
                refine (unhide H1).mono ?_
                rintro e w1 ⟨rfl, hb1⟩
                have HB := hide (hb1.trans ((unhide HA w1).mono hb1.size))
                clear hb1
                go_wp2_with fail
                refine (l1In_g n 48 57 _).mono ?_
                rintro e w2 ⟨rfl, rfl⟩
                rw [unhide HD]
                go_wp2_with fail
                refine (unhide HV _ hs).mono ?_
                rintro e w2 ⟨rfl, hb2⟩
                have HB2 := hide (step_b (unhide HB) hb2)
                clear hb2
                go_wp2_with fail
                go_ret
                exact ⟨by rw [unhide HR]; rfl, unhide HB2⟩
              | true =>
                have HALL : Hid (symM t = (t.all fun c => !badN c.toNat)) := hide (by rw [unhide HS, unhide HW, hv, hn, unhide HH, decide_eq_true hl]; rfl)
                rw [hv] at HV
                clear hl hv
                go_enter Tryz.func65, Tryz.ntmps65
                go_wp2_with fail
                refine (unhide H1).mono ?_
                rintro e w1 ⟨rfl, hb1⟩
                have HB := hide (hb1.trans ((unhide HA w1).mono hb1.size))
                clear hb1
                go_wp2_with fail
                refine (l1In_g n 48 57 _).mono ?_
                rintro e w2 ⟨rfl, rfl⟩
                rw [unhide HD]
                go_wp2_with fail
                refine (unhide HV _ hs).mono ?_
                rintro e w2 ⟨rfl, hb2⟩
                have HB2 := hide (step_b (unhide HB) hb2)
                clear hb2
                go_wp2_with fail
                clear e0 e1 hc hn hw n1 n2 n3 hl' HD HH HHEAD HB
                have HSZ := hide (B_size t)
                go_loopw [5] (fun i wr => ∃ k : Nat, k ≤ t.length ∧ i = .int .i64 k ∧ Hid (∀ j (hj : j < t.length), j < k → badN (t[j]'hj).toNat = false) ∧ Hid (Below w.heap.size w wr)) (fun i _ => t.length - (intOf i).toNat)
                case atStart => exact ⟨0, Nat.zero_le _, rfl, hide (fun j _ h => by omega), HB2⟩
                case round =>
                  clear HB2
                  obtain ⟨k, hk, rfl, HG, HB2⟩ := hrel
                  by_cases hlt : k < t.length
                  · have hlt' : k < (B t).size := by rw [unhide HSZ]; exact hlt
                    obtain ⟨d, hd⟩ : ∃ d, t[k]'hlt = d := ⟨_, rfl⟩
                    have hg : (B t)[k]'hlt' = d := (B_get t k hlt').trans hd
                    have HD := hide hd
                    clear hd
                    obtain ⟨n, hn⟩ : ∃ n, d.toNat = n := ⟨_, rfl⟩
                    have HE := hide (l11Ends_c n wr)
                    rcases Bool.eq_false_or_eq_true (badN n) with hb | hb
                    ·
                      have hbk : badN (t[k]'hlt).toNat = true := by rw [unhide HD, hn]; exact hb
                      have HR : Hid (symM t = false) := hide ((unhide HALL).trans (all_bad hlt hbk))
                      clear hbk
                      rcases bad_cases hb with he | ⟨he, h3⟩ | ⟨he, h3, h4⟩
                      · rw [he] at HE
                        clear hb he
                        go_wp2_with fail
                        refine (unhide HE).mono ?_
                        rintro e w3 ⟨rfl, rfl⟩
                        go_wp2_with fail
                        go_ret
                        exact ⟨by rw [unhide HR]; rfl, unhide HB2⟩
                      · rw [he] at HE
                        have h3' : (n : Int) < 33 := by omega
                        clear hb he h3
                        go_wp2_with fail
                        refine (unhide HE).mono ?_
                        rintro e w3 ⟨rfl, rfl⟩
                        go_wp2_with fail
                        go_ret
                        exact ⟨by rw [unhide HR]; rfl, unhide HB2⟩
                      · rw [he] at HE
                        clear hb he
                        rcases h4 with h4 | h4 | h4
                        all_goals
                          rw [h4] at HE hn
                          clear h4 h3
                          go_wp2_with fail
                          refine (unhide HE).mono ?_
                          rintro e w3 ⟨rfl, rfl⟩
                          go_wp2_with fail
                          go_ret
                          exact ⟨by rw [unhide HR]; rfl, unhide HB2⟩
                    ·
                      obtain ⟨he, h3, h127, h92, h124⟩ := good_parts hb
                      have HG2 : Hid (∀ j (hj : j < t.length), j < k + 1 → badN (t[j]'hj).toNat = false) := hide (fun j hj h => by
                        by_cases hjk : j = k
                        · subst hjk; rw [unhide HD, hn]; exact hb
                        · exact unhide HG j hj (by omega))
                      rw [he] at HE
                      have h3' : ¬ (n : Int) < 33 := by omega
                      have n1 : ((n : Int) == 127) = false := neI (b := 127) h127
                      have n2 : ((n : Int) == 92) = false := neI (b := 92) h92
                      have n3 : ((n : Int) == 124) = false := neI (b := 124) h124
                      clear hb he h3 h127 h92 h124
                      go_wp2_with fail
                      refine (unhide HE).mono ?_
                      rintro e w3 ⟨rfl, rfl⟩
                      go_wp2_with fail
                      go_roundw
                      case rel => exact ⟨k + 1, by omega, by go_num, HG2, HB2⟩
                      case measure => simp [intOf]; omega
                  · have hnl : ¬ (k : Int) < ((B t).size : Int) := by rw [unhide HSZ]; omega
                    obtain rfl : k = t.length := by omega
                    have HR : Hid (symM t = true) := hide (by rw [unhide HALL]; exact all_good (fun i hi => unhide HG i hi hi))
                    go_wp2_with fail
                    go_ret
                    exact ⟨by rw [unhide HR]; rfl, unhide HB2⟩
            · have hl' : (200 : Int) < ((B t).size : Int) := by rw [B_size]; omega
              have HR : Hid (symM t = false) := hide (by rw [unhide HS, unhide HW, decide_eq_false hl, Bool.and_false]; rfl)
              clear hl
              go_enter Tryz.func65, Tryz.ntmps65
              go_wp2_with fail
              refine (unhide H1).mono ?_
              rintro e w1 ⟨rfl, hb1⟩
              have HB := hide (hb1.trans ((unhide HA w1).mono hb1.size))
              clear hb1
              go_wp2_with fail
              refine (l1In_g n 48 57 _).mono ?_
              rintro e w2 ⟨rfl, rfl⟩
              rw [unhide HD]
              go_wp2_with fail
              go_ret
              exact ⟨by rw [unhide HR]; rfl, unhide HB⟩
end Go.Proofs.YtpbnmhnbkfnaeaaGreatDoor
/- cmp.Compare on ints; nodes held against each other by the program. -/
namespace Go.Proofs.YtpbnmhnbkfnaeaaGreatDoor
open Go.RowKit Nt

theorem isNaN_c (a : Int) (w : World) : Calls Tryz.prog 126 #[.int .i64 a] w fun e w' => e = .returned (.bool false) ∧ w' = w := by
  go_enter Tryz.func126, Tryz.ntmps126
  go_wp2_with fail
  go_ret
  exact ⟨rfl, rfl⟩
theorem cmpInt_c (a b : Int) (w : World) : Calls Tryz.prog 99 #[.int .i64 a, .int .i64 b] w fun e w' => e = .returned (.int .i64 (cmpI a b)) ∧ w' = w := by
  obtain ⟨c, hc⟩ : ∃ c, cmpI a b = c := ⟨_, rfl⟩
  rw [hc]
  unfold cmpI at hc
  have HC := hide hc
  clear hc
  go_enter Tryz.func99, Tryz.ntmps99
  go_wp2_with fail
  refine (isNaN_c a w).mono ?_
  rintro e w' ⟨rfl, rfl⟩
  go_wp2_with fail
  refine (isNaN_c b _).mono ?_
  rintro e w' ⟨rfl, rfl⟩
  by_cases h1 : a < b
  · have k1 : decide (a < b) = true := decide_eq_true h1
    obtain rfl : c = -1 := by have := unhide HC; rw [if_pos h1] at this; exact this.symm
    clear HC
    go_wp2_with fail
    go_ret
    exact ⟨rfl, rfl⟩
  · have k1 : decide (a < b) = false := decide_eq_false h1
    by_cases h2 : b < a
    · have k2 : decide (b < a) = true := decide_eq_true h2
      obtain rfl : c = 1 := by have := unhide HC; rw [if_neg h1, if_pos h2] at this; exact this.symm
      clear HC
      go_wp2_with fail
      go_ret
      exact ⟨rfl, rfl⟩
    · have k2 : decide (b < a) = false := decide_eq_false h2
      obtain rfl : c = 0 := by have := unhide HC; rw [if_neg h1, if_neg h2] at this; exact this.symm
      clear HC
      go_wp2_with fail
      go_ret
      exact ⟨rfl, rfl⟩

/-- what two texts of one sort say -/
def texC (k : Int) (t s : List UInt8) : Int := if k ≠ 1 ∨ t = s then Lib.compareBytes t s else cmpT (numTx t) (numTx s)
set_option maxRecDepth 100000 in
set_option maxHeartbeats 4000000 in
theorem textCmp_c (k m : Int) (t s : List UInt8) (p q : Option Addr) (l r c d : Nat) (w : World) (hsT : t.length ≤ 1000) (hsS : s.length ≤ 1000) (hT : Tens w) (h3 : 3 < w.heap.size) :
    Calls Tryz.prog 100 #[.agg #[.int .i64 k, .string (B t), .slice p l c], .agg #[.int .i64 m, .string (B s), .slice q r d]] w fun e w' => e = .returned (.int .i64 (texC k t s)) ∧ Below w.heap.size w w' := by
  have HB := hide (below_two w (.int .i64 k) (.string (B t)) (.slice p l c) (.int .i64 m) (.string (B s)) (.slice q r d) 56)
  have HA1 := hide ((AtC3.new w (.int .i64 k) (.string (B t)) (.slice p l c) 56).below (step_a (Below.refl _ _) (.cells #[.int .i64 m, .string (B s), .slice q r d] 56)))
  have HA2 := hide (AtC3.new (w.alloc (.cells #[.int .i64 k, .string (B t), .slice p l c] 56)) (.int .i64 m) (.string (B s)) (.slice q r d) 56)
  rw [World.size_alloc] at HA2
  have HT := hide (fun W h => hT.belowB (w' := W) h h3)
  have HP1 := hide (fun W h => implNumParse_c t 10 W (by omega) h)
  have HP2 := hide (fun W h => implNumParse_c s 10 W (by omega) h)
  by_cases hk : k = 1
  · subst hk
    by_cases hts : t = s
    · obtain rfl := hts
      have HR := hide (show texC 1 t t = _ from if_pos (Or.inr rfl))
      obtain ⟨R, hR⟩ : ∃ R, texC 1 t t = R := ⟨_, rfl⟩
      rw [hR] at HR ⊢
      clear hR hsT hsS hT h3
      -- 1 the first's sort, t the second's text
      go_enter Tryz.func100, Tryz.ntmps100
      go_wp2_with fail
      obtain ⟨W, hW⟩ : ∃ W, (w.alloc (.cells #[.int .i64 1, .string (B t), .slice p l c] 56)).alloc (.cells #[.int .i64 m, .string (B t), .slice q r d] 56) = W := ⟨_, rfl⟩
      rw [hW] at HB HA1 HA2 ⊢
      clear hW
      have a0 := (unhide HA1).n0
      have a1 := (unhide HA1).n1
      have a2 := (unhide HA1).n2
      have b0 := (unhide HA2).n0
      have b1 := (unhide HA2).n1
      have b2 := (unhide HA2).n2
      refine (Tryz.strings_Compare (B t) (B t) W).mono ?_
      rintro e w' ⟨rfl, rfl⟩
      obtain rfl := unhide HR
      go_wp2_with fail
      go_ret
      exact ⟨by simp [B], unhide HB⟩
    · have HR := hide (show texC 1 t s = _ from if_neg (by rintro (h | h); exact h rfl; exact hts h))
      obtain ⟨R, hR⟩ : ∃ R, texC 1 t s = R := ⟨_, rfl⟩
      rw [hR] at HR ⊢
      obtain ⟨n1, u1, d1, z1⟩ : ∃ n u d, numTx t = (n, u, d) := ⟨_, _, _, rfl⟩
      obtain ⟨n2, u2, d2, z2⟩ : ∃ n u d, numTx s = (n, u, d) := ⟨_, _, _, rfl⟩
      obtain ⟨v1, hv1⟩ : ∃ v, (parseM t 10).isSome = v := ⟨_, rfl⟩
      obtain ⟨v2, hv2⟩ : ∃ v, (parseM s 10).isSome = v := ⟨_, rfl⟩
      have HQ1 : Hid (∀ W, Tens W → Calls Tryz.prog 128 #[.string (B t), .int .i64 10] W fun e w' => e = .returned (.tuple #[.agg #[.bool n1, .string (B u1), .string (B d1)], .bool v1]) ∧ Below W.heap.size W w') := hide (fun W h => by
        have := unhide HP1 W h
        unfold numAns at this
        rw [numO_tx, z1, hv1] at this
        exact this)
      have HQ2 : Hid (∀ W, Tens W → Calls Tryz.prog 128 #[.string (B s), .int .i64 10] W fun e w' => e = .returned (.tuple #[.agg #[.bool n2, .string (B u2), .string (B d2)], .bool v2]) ∧ Below W.heap.size W w') := hide (fun W h => by
        have := unhide HP2 W h
        unfold numAns at this
        rw [numO_tx, z2, hv2] at this
        exact this)
      have HC : Hid (∀ W, Below w.heap.size w W → Calls Tryz.prog 129 #[.agg #[.bool n1, .string (B u1), .string (B d1)], .agg #[.bool n2, .string (B u2), .string (B d2)]] W fun e w' => e = .returned (.int .i64 R) ∧ Below W.heap.size W w') := hide (fun W h => by
        have := implNumCmp_c (numTx t) (numTx s) W (numTx_small t) (numTx_small s) (unhide HT W h) (Nat.lt_of_lt_of_le h3 h.size)
        rw [← unhide HR, z1, z2] at this
        exact this)
      have e1 : ((B t).toList == (B s).toList) = false := by rw [B_tl s]; exact B_ne _ _ hts
      clear hsT hsS hT h3 hts z1 z2 hv1 hv2 HP1 HP2 HR
      -- 1 the first's sort, s the second's text
      go_enter Tryz.func100, Tryz.ntmps100
      go_wp2_with fail
      obtain ⟨W, hW⟩ : ∃ W, (w.alloc (.cells #[.int .i64 1, .string (B t), .slice p l c] 56)).alloc (.cells #[.int .i64 m, .string (B s), .slice q r d] 56) = W := ⟨_, rfl⟩
      rw [hW] at HB HA1 HA2 ⊢
      clear hW
      have a0 := (unhide HA1).n0
      have a1 := (unhide HA1).n1
      have a2 := (unhide HA1).n2
      have b0 := (unhide HA2).n0
      have b1 := (unhide HA2).n1
      have b2 := (unhide HA2).n2
      refine (unhide HQ1 W (unhide HT W (unhide HB))).mono ?_
      rintro e w1 ⟨rfl, hb1⟩
      have HB1 := hide (step_b (unhide HB) hb1)
      have HD2 := hide ((unhide HA2).below hb1)
      have q1 := fun o => ((unhide HD2).below (step_a (Below.refl _ _) o)).n1
      have HN1 := hide (AtC3.new w1 (.bool n1) (.string (B u1)) (.string (B d1)) 79)
      have HB1' := hide (step_a (unhide HB1) (.cells #[.bool n1, .string (B u1), .string (B d1)] 79))
      clear hb1
      go_wp2_with fail
      refine (unhide HQ2 _ (unhide HT _ (unhide HB1'))).mono ?_
      rintro e w2 ⟨rfl, hb2⟩
      have HB2 := hide (step_b (unhide HB1') hb2)
      have HN2 := hide ((unhide HN1).below hb2)
      have HB3 := hide (step_a (unhide HB2) (.cells #[.bool n2, .string (B u2), .string (B d2)] 79))
      have HN3 := hide ((unhide HN2).below (step_a (Below.refl _ _) (.cells #[.bool n2, .string (B u2), .string (B d2)] 79)))
      have x0 := (unhide HN3).n0
      have x1 := (unhide HN3).n1
      have x2 := (unhide HN3).n2
      clear hb2 q1
      go_wp2_with fail
      refine (unhide HC _ (unhide HB3)).mono ?_
      rintro e w3 ⟨rfl, hb3⟩
      have HB4 := hide (step_b (unhide HB3) hb3)
      clear hb3
      go_wp2_with fail
      go_ret
      exact ⟨rfl, unhide HB4⟩
  · have HR := hide (show texC k t s = _ from if_pos (Or.inl hk))
    obtain ⟨R, hR⟩ : ∃ R, texC k t s = R := ⟨_, rfl⟩
    rw [hR] at HR ⊢
    have hk1 : (k == 1) = false := by simp [hk]
    have hk2 : (k != 1) = true := by simp [hk]
    clear hR hsT hsS hT h3
    -- k the first's sort, s the second's text
    go_enter Tryz.func100, Tryz.ntmps100
    go_wp2_with fail
    obtain ⟨W, hW⟩ : ∃ W, (w.alloc (.cells #[.int .i64 k, .string (B t), .slice p l c] 56)).alloc (.cells #[.int .i64 m, .string (B s), .slice q r d] 56) = W := ⟨_, rfl⟩
    rw [hW] at HB HA1 HA2 ⊢
    clear hW
    have a0 := (unhide HA1).n0
    have a1 := (unhide HA1).n1
    have a2 := (unhide HA1).n2
    have b0 := (unhide HA2).n0
    have b1 := (unhide HA2).n1
    have b2 := (unhide HA2).n2
    refine (Tryz.strings_Compare (B t) (B s) W).mono ?_
    rintro e w' ⟨rfl, rfl⟩
    obtain rfl := unhide HR
    go_wp2_with fail
    go_ret
    exact ⟨by simp [B], unhide HB⟩
end Go.Proofs.YtpbnmhnbkfnaeaaGreatDoor
/- Nodes held against each other by the program. -/
namespace Go.Proofs.YtpbnmhnbkfnaeaaGreatDoor
open Go.RowKit Nt

def KidOk (a : Nd) : Prop := a.1 = 1 → a.2.2 = []
theorem kidOk_of {n : Nat} {a : Nd} (h : ndOk n a = true) : KidOk a := by
  intro h1
  have c := ok_cnt h
  rw [h1] at c
  exact List.length_eq_zero_iff.1 (cnt_num c)
theorem nd_lab {a b : Nd} (ha : KidOk a) (hb : KidOk b) : labCmp a b = if cmpI a.1 b.1 ≠ 0 then cmpI a.1 b.1 else if texC a.1 a.2.1 b.2.1 ≠ 0 then texC a.1 a.2.1 b.2.1 else cmpI a.2.2.length b.2.2.length := by
  by_cases hs : a.1 = b.1
  · rw [if_neg (by simpa using cmpI_eq.2 hs)]
    by_cases h1 : a.1 = 1
    · have e : cmpI a.2.2.length b.2.2.length = 0 := by rw [ha h1, hb (hs ▸ h1)]; rfl
      rw [lab_num hs h1, e]
      by_cases ht : a.2.1 = b.2.1
      · rw [ht, cmpT_self]
        have : texC a.1 b.2.1 b.2.1 = 0 := by unfold texC; rw [if_pos (.inr rfl)]; exact (less_cmp _ _).2.2.1.2 rfl
        rw [this]; rfl
      · have : texC a.1 a.2.1 b.2.1 = cmpT (numTx a.2.1) (numTx b.2.1) := by unfold texC; rw [if_neg (by rintro (h | h); exact h h1; exact ht h)]
        rw [this]
        split
        · rfl
        · omega
    · have ht' : texC a.1 a.2.1 b.2.1 = Lib.compareBytes a.2.1 b.2.1 := by unfold texC; rw [if_pos (.inl h1)]
      rw [ht']
      by_cases ht : a.2.1 = b.2.1
      · rw [lab_len hs h1 ht, if_neg (by simpa using (less_cmp _ _).2.2.1.2 ht)]
      · rw [lab_text hs h1 ht, if_pos (fun e => ht ((less_cmp _ _).2.2.1.1 e))]
  · rw [lab_sort hs, if_pos (fun e => hs (cmpI_eq.1 e))]

set_option maxRecDepth 100000 in
set_option maxHeartbeats 4000000 in
theorem nodeCmp_c (a b : Nd) (a1 a2 : Option Addr) (c1 c2 : Nat) (w : World) (ha : KidOk a) (hb : KidOk b) (ht1 : a.2.1.length ≤ 1000) (ht2 : b.2.1.length ≤ 1000) (hT : Tens w) (h3 : 3 < w.heap.size) :
    Calls Tryz.prog 62 #[.agg #[.int .i64 a.1, .string (B a.2.1), .slice a1 a.2.2.length c1], .agg #[.int .i64 b.1, .string (B b.2.1), .slice a2 b.2.2.length c2]] w fun e w' => e = .returned (.int .i64 (labCmp a b)) ∧ Below w.heap.size w w' := by
  have HQ := hide (nd_lab ha hb)
  obtain ⟨R, hR⟩ : ∃ R, labCmp a b = R := ⟨_, rfl⟩
  rw [hR] at HQ ⊢
  clear hR ha hb
  -- $1 the function: two nodes in their boxes
  obtain ⟨s1, t1, k1⟩ := a
  obtain ⟨s2, t2, k2⟩ := b
  simp only at *
  have HB := hide (below_two w (.int .i64 s1) (.string (B t1)) (.slice a1 k1.length c1) (.int .i64 s2) (.string (B t2)) (.slice a2 k2.length c2) 56)
  have HA1 := hide ((AtC3.new w (.int .i64 s1) (.string (B t1)) (.slice a1 k1.length c1) 56).below (step_a (Below.refl _ _) (.cells #[.int .i64 s2, .string (B t2), .slice a2 k2.length c2] 56)))
  have HA2 := hide (AtC3.new (w.alloc (.cells #[.int .i64 s1, .string (B t1), .slice a1 k1.length c1] 56)) (.int .i64 s2) (.string (B t2)) (.slice a2 k2.length c2) 56)
  rw [World.size_alloc] at HA2
  have HT := hide (fun W h => (⟨hT.belowB (w' := W) h h3, Nat.lt_of_lt_of_le h3 h.size⟩ : Tens W ∧ 3 < W.heap.size))
  have HX := hide (fun W h => textCmp_c s1 s2 t1 t2 a1 a2 k1.length k2.length c1 c2 W ht1 ht2 (unhide HT W h).1 (unhide HT W h).2)
  have HI := hide (fun W => cmpInt_c s1 s2 W)
  have HL := hide (fun W => cmpInt_c k1.length k2.length W)
  obtain ⟨x, hx⟩ : ∃ x, cmpI s1 s2 = x := ⟨_, rfl⟩
  obtain ⟨y, hy⟩ : ∃ y, texC s1 t1 t2 = y := ⟨_, rfl⟩
  obtain ⟨z, hz⟩ : ∃ z, cmpI k1.length k2.length = z := ⟨_, rfl⟩
  rw [hx] at HI
  rw [hy] at HX
  rw [hz] at HL
  rw [hx, hy, hz] at HQ
  obtain ⟨m1, hm1⟩ : ∃ m, k1.length = m := ⟨_, rfl⟩
  obtain ⟨m2, hm2⟩ : ∃ m, k2.length = m := ⟨_, rfl⟩
  rw [hm1] at HB HA1 HA2 HX HL ⊢
  rw [hm2] at HB HA1 HA2 HX HL ⊢
  clear hx hy hz hm1 hm2 hT h3 ht1 ht2 HT
  go_enter Tryz.func62, Tryz.ntmps62
  go_wp2_with fail
  obtain ⟨W, hW⟩ : ∃ W, (w.alloc (.cells #[.int .i64 s1, .string (B t1), .slice a1 m1 c1] 56)).alloc (.cells #[.int .i64 s2, .string (B t2), .slice a2 m2 c2] 56) = W := ⟨_, rfl⟩
  rw [hW] at HB HA1 HA2 ⊢
  clear hW
  refine (unhide HI W).mono ?_
  rintro e w' ⟨rfl, rfl⟩
  by_cases hx0 : x = 0
  · subst hx0
    have p0 := (unhide HA1).n0
    have p1 := (unhide HA1).n1
    have p2 := (unhide HA1).n2
    have q0 := (unhide HA2).n0
    have q1 := (unhide HA2).n1
    have q2 := (unhide HA2).n2
    go_wp2_with fail
    refine (unhide HX w' (unhide HB)).mono ?_
    rintro e w2 ⟨rfl, hb2⟩
    have HB2 := hide (step_b (unhide HB) hb2)
    have r2 := ((unhide HA1).below hb2).n2
    have u2 := ((unhide HA2).below hb2).n2
    clear p0 p1 p2 q0 q1 q2 hb2
    by_cases hy0 : y = 0
    · subst hy0
      obtain rfl : R = z := by simpa using unhide HQ
      clear HQ
      go_wp2_with fail
      refine (unhide HL w2).mono ?_
      rintro e w3 ⟨rfl, rfl⟩
      go_wp2_with fail
      go_ret
      exact ⟨rfl, unhide HB2⟩
    · have k : (y != 0) = true := by simp [hy0]
      obtain rfl : R = y := by simpa [hy0] using unhide HQ
      clear HQ
      go_wp2_with fail
      go_ret
      exact ⟨rfl, unhide HB2⟩
  · have k : (x != 0) = true := by simp [hx0]
    obtain rfl : R = x := by simpa [hx0] using unhide HQ
    clear HQ
    go_wp2_with fail
    go_ret
    exact ⟨rfl, unhide HB⟩
end Go.Proofs.YtpbnmhnbkfnaeaaGreatDoor
/- impl.ReadNode.beside: an iterator over a node's kids. -/
namespace Go.Proofs.YtpbnmhnbkfnaeaaGreatDoor
open Go.RowKit Go.Shelf Nt
attribute [local go_sem] Oper.semAt_some

/-- a slice of ints whose cells lie below a block -/
def IntsIn (n₀ : Nat) (W : World) (v : Value) (zs : List Int) : Prop :=
  ∃ a cap, v = .slice a zs.length cap ∧ zs.length ≤ cap ∧ cap ≤ maxLen ∧ (0 < zs.length → ∃ b off, a = some ⟨b, off, none⟩ ∧ b < n₀ ∧ ∀ j x, zs[j]? = some x → W.cell? ⟨b, off + j, none⟩ = some (.int .i64 x))
theorem IntsIn.below {n₀ : Nat} {A B : World} {v : Value} {zs : List Int} (h : IntsIn n₀ A v zs) (k : Below n₀ A B) : IntsIn n₀ B v zs := by
  obtain ⟨a, cap, rfl, h1, h2, h3⟩ := h
  refine ⟨a, cap, rfl, h1, h2, fun h0 => ?_⟩
  obtain ⟨b, off, rfl, hb, hc⟩ := h3 h0
  exact ⟨b, off, rfl, hb, fun j x hx => (k.cell (p := ⟨b, off + j, none⟩) hb).trans (hc j x hx)⟩
theorem IntsAt.in {W : World} {v : Value} {zs : List Int} (h : IntsAt W v zs) : IntsIn W.heap.size W v zs := h
theorem IntsIn.mono {n₀ n₁ : Nat} {W : World} {v : Value} {zs : List Int} (h : IntsIn n₀ W v zs) (hn : n₀ ≤ n₁) : IntsIn n₁ W v zs := by
  obtain ⟨a, cap, rfl, h1, h2, h3⟩ := h
  refine ⟨a, cap, rfl, h1, h2, fun h0 => ?_⟩
  obtain ⟨b, off, rfl, hb, hc⟩ := h3 h0
  exact ⟨b, off, rfl, Nat.lt_of_lt_of_le hb hn, hc⟩

set_option maxRecDepth 100000 in
set_option maxHeartbeats 2000000 in
theorem beside1_in (F : Fence) (n : Nat) (hF : F.fn 117) (hro : F.round = none) (hn : 1 ≤ n) (l Bs n₀ : Nat) (kv : Value) (zs : List Int) (hreach : zs.length ≤ 140737488355328) (J Jx : List Int → World → Prop)
    (hY : ∀ pre x W, J pre W → pre.length < zs.length → YieldAt F (n - 1) Tryz.prog l #[.int .i64 x] W fun e W' =>
      (e = .returned (.bool true) ∧ J (pre ++ [x]) W' ∧ Below n₀ W W') ∨ (e = .returned (.bool false) ∧ Jx (pre ++ [x]) W'))
    (W : World) (hBs : W.cell? ⟨Bs, 2, none⟩ = some kv) (hI : IntsIn n₀ W kv zs) (h0 : J [] W) :
    CallsIn F n Tryz.prog 117 #[.func (.yield l) #[] #[], .pointer (some ⟨Bs, 0, none⟩)] W fun e W' => (∃ v, e = .returned v) ∧ (J zs W' ∨ (∃ pre, pre <+: zs ∧ Jx pre W')) := by
  have HI := hide hI
  obtain ⟨a, cap, rfl, h1, h2, _⟩ := hI
  unfold maxLen at h2
  refine callsIn_of_wp Tryz.func117 rfl hF ?_ hro
  simp only [Tryz.ntmps117, List.size_toArray, List.length_cons, List.length_nil, Nat.reduceAdd, Nat.reduceSub, Array.replicate_succ, Array.replicate_zero, List.push_toArray, List.append_toArray, List.nil_append, List.cons_append]
  gi_wp2
  gi_loopw [8] (fun i wr => ∃ k : Nat, k ≤ zs.length ∧ i = .int .i64 k ∧ J (zs.take k) wr ∧ Below n₀ W wr)
    (fun i _ => zs.length - (intOf i).toNat)
  case atStart => exact ⟨0, Nat.zero_le _, rfl, by simpa using h0, Below.refl _ _⟩
  case round =>
    obtain ⟨k, hk, rfl, hJs, hnx⟩ := hrel
    by_cases hlt : k < zs.length
    · obtain ⟨x, hx⟩ : ∃ x, zs[k]? = some x := ⟨_, List.getElem?_eq_getElem hlt⟩
      obtain ⟨a', cap', e1, _, _, h3⟩ := (unhide HI).below hnx
      injection e1 with e2 e3 e4
      obtain ⟨b, off, e5, hb, hcs⟩ := h3 (by omega)
      rw [← e2] at e5
      subst e5
      have hcx := hcs k x hx
      obtain ⟨fn, tmps, assign, body, hy, hR⟩ := hY _ x wr hJs (by simp; omega)
      have HX := hide (show zs.take (k + 1) = zs.take k ++ [x] by rw [List.take_add_one, hx]; rfl)
      clear e2 e4 h3 hcs hx
      gi_wp2
      refine hR.mono ?_
      rintro e W3 (⟨rfl, hJ3, hk3⟩ | ⟨rfl, hJx3⟩)
      · gi_wp2
        go_roundw
        case rel => exact ⟨k + 1, by omega, by go_num, by rw [unhide HX]; exact hJ3, hnx.trans hk3⟩
        case measure => simp [intOf]; omega
      · gi_wp2
        refine bodyPost_ret (results_none rfl _ _ _) rfl ?_
        exact ⟨⟨_, rfl⟩, .inr ⟨_, List.take_prefix (k + 1) zs, by rw [unhide HX]; exact hJx3⟩⟩
    · obtain rfl : k = zs.length := by omega
      rw [List.take_of_length_le (Nat.le_refl _)] at hJs
      gi_wp2
      go_end0
      exact ⟨⟨_, rfl⟩, .inl hJs⟩

/-- what beside hands back tells the kids, whatever the loop's body does above a block -/
theorem beside_stops (F : Fence) (n : Nat) (hF : F.fn 117) (hro : F.round = none) (hn : 1 ≤ n) (Bs n₀ : Nat) (kv : Value) (zs : List Int) (hreach : zs.length ≤ 140737488355328) (w : World) (hBs : Bs < w.heap.size) (hn₀ : n₀ ≤ w.heap.size)
    (hc : w.cell? ⟨Bs, 2, none⟩ = some kv) (hI : IntsIn n₀ w kv zs) :
    SeqStopsK F n Tryz.prog 117 #[.pointer (some ⟨Bs, 0, none⟩)] (fun x : Int => #[Value.int .i64 x]) (Below n₀) (fun ys => ys = zs) (fun pre => pre <+: zs) zs.length w := fun l J Jx W hW _ _ hY h0 => by
  have hc' := (hW.cell (p := ⟨Bs, 2, none⟩) hBs).trans hc
  refine (beside1_in F n hF hro hn l Bs n₀ kv zs hreach J Jx hY W hc' (hI.below (hW.mono hn₀)) h0).mono ?_
  rintro e W' ⟨he, hj | hj⟩
  · exact ⟨he, .inl ⟨_, rfl, hj⟩⟩
  · exact ⟨he, .inr hj⟩

set_option maxHeartbeats 1000000 in
theorem beside_c (s : Int) (t : ByteArray) (kv : Value) (w : World) :
    Calls Tryz.prog 82 #[.agg #[.int .i64 s, .string t, kv]] w fun e w' => e = .returned (.func (.func 117) #[] #[.pointer (some ⟨w.heap.size, 0, none⟩)]) ∧ w' = w.alloc (.cells #[.int .i64 s, .string t, kv] 56) := by
  go_enter Tryz.func82, Tryz.ntmps82
  go_wp2
  go_ret
  exact ⟨rfl, rfl⟩
end Go.Proofs.YtpbnmhnbkfnaeaaGreatDoor
/- A range over a function whose iterator keeps cells of its own (the library's laws speak of iterators that keep none): what the loop's invariant says must abide the turn of any block laid since. -/
namespace Go.Proofs.YtpbnmhnbkfnaeaaGreatDoor
open Go.RowKit Nt

/-- all cells lie as they lay -/
structure KC (W W' : World) : Prop where
  size : W.heap.size ≤ W'.heap.size
  cells : ∀ (b : Nat) (o : Obj), W.heap[b]? = some o → o.isCells = true → W'.heap[b]? = some o
theorem KC.refl (W : World) : KC W W := ⟨Nat.le_refl _, fun _ _ h _ => h⟩
theorem KC.trans {A B C : World} (h : KC A B) (k : KC B C) : KC A C := ⟨Nat.le_trans h.size k.size, fun b o e ho => k.cells b o (h.cells b o e ho) ho⟩
theorem KC.of_below {W W' : World} (h : Below W.heap.size W W') : KC W W' := ⟨h.size, fun b _ e _ => (h.block b (Array.getElem?_eq_some_iff.1 e).1).trans e⟩
theorem KC.put {W : World} {l : Nat} {o o' : Obj} (h : W.heap[l]? = some o) (ho : o.isCells = false) : KC W (W.putObj l o') :=
  ⟨by simp, fun b p e hp => by
    refine (World.putObj_heap_other (fun q => ?_)).trans e
    rw [q, h] at e
    cases e
    rw [ho] at hp
    cases hp⟩
/-- what is said abides the turn of a block from B on -/
def Turns {β : Type} (B : Nat) (J : β → World → Prop) : Prop := ∀ s W W' row, J s W → W.grownBy W' row → (∀ r, row = some r → B ≤ r) → J s W'
/-- .. of a block of cells, or of a walk's -/
def TurnsC {β : Type} (B : Nat) (J : β → World → Prop) : Prop := ∀ s W W' row, J s W → W.grownBy W' row → (∀ r, row = some r → B ≤ r ∧ ∃ o, W.heap[r]? = some o ∧ o.isCells = true) → J s W'
theorem Turns.and {β : Type} {B : Nat} {I J : β → World → Prop} (h : Turns B I) (k : Turns B J) : Turns B (fun s W => I s W ∧ J s W) := fun s W W' row hs hg hr => ⟨h s W W' row hs.1 hg hr, k s W W' row hs.2 hg hr⟩
theorem Turns.pure {β : Type} (B : Nat) (p : β → Prop) : Turns B (fun s (_ : World) => p s) := fun _ _ _ _ hs _ _ => hs
theorem Turns.below {β : Type} {n₀ B : Nat} {w₀ : World} (hn : n₀ ≤ w₀.heap.size) (hB : n₀ ≤ B) : Turns B (fun (_ : β) W => Below n₀ w₀ W) :=
  fun _ _ _ _ hs hg hr => hs.grown hg (Nat.le_trans hn hs.size) (fun k e => Nat.le_trans hB (hr k e))
theorem Turns.block {β : Type} {B b : Nat} {f : β → Obj} (hb : b < B) : Turns B (fun s W => W.heap[b]? = some (f s)) :=
  fun s W W' row hs hg hr => (hg.block b (Array.getElem?_eq_some_iff.1 hs).1 (fun e => by have := hr b e.symm; omega)).trans hs

variable {F : Fence} {n : Nat} {P : Program}
/-- an iterator that tells the list L, or as much of it as it is let -/
def SeqC {α : Type} (F : Fence) (n : Nat) (P : Program) (g : Nat) (lb : Array Value) (encs : α → Array Value) (L : List α) (w : World) : Prop :=
  ∀ (l : Nat) (J Jx : List α → World → Prop) (W : World), Below w.heap.size w W → TurnsC W.heap.size J → TurnsC W.heap.size Jx →
    (∀ pre x W1, J pre W1 → (pre ++ [x]) <+: L → YieldAt F (n - 1) P l (encs x) W1 fun e W' =>
      (e = .returned (.bool true) ∧ J (pre ++ [x]) W' ∧ KC W1 W') ∨ (e = .returned (.bool false) ∧ Jx (pre ++ [x]) W')) →
    J [] W →
    CallsIn F n P g (#[.func (.yield l) #[] #[]] ++ lb) W fun e W' => (∃ v, e = .returned v) ∧ (J L W' ∨ (∃ pre, pre <+: L ∧ Jx pre W'))
/-- how a round's body may be left: on, or by 'return' -/
def LeftC {α : Type} (B : Nat) (I Ix : List α → World → Prop) (xs : List α) (W : World) : Exit → Act → World → Prop
  | .normal, _, W' => KeepsFrom B W W' ∧ KC W W' ∧ I xs W'
  | .ret, _, W' => KeepsFrom B W W' ∧ Ix xs W'
  | .exit _, _, _ => False
  | .goto _, _, _ => False
  | .panic _, _, _ => False
  | .outgrown, _, _ => False
/-- the loop's record and the block of its rounds' deferred calls -/
def Recs (W : World) (D l : Nat) (r : Loop) : Prop := W.heap[l]? = some (.loop r) ∧ W.heap[D]? = some (.deferred (some []))
theorem Recs.put {W : World} {D l : Nat} {r : Loop} (h : Recs W D l r) (hne : D ≠ l) (r' : Loop) : Recs (W.putObj l (.loop r')) D l r' :=
  ⟨World.putObj_heap_same (Array.getElem?_eq_some_iff.1 h.1).1, (World.putObj_heap_other hne).trans h.2⟩
theorem Recs.from {W W' : World} {B D l : Nat} {r : Loop} (h : Recs W D l r) (k : KeepsFrom B W W') (hD : B ≤ D) (hl : B ≤ l) : Recs W' D l r :=
  ⟨k.same _ _ hl h.1 rfl, k.same _ _ hD h.2 rfl⟩
theorem Recs.turn {W W' : World} {D l : Nat} {r : Loop} {row : Option Nat} (h : Recs W D l r) (hg : W.grownBy W' row) (hr : ∀ k, row = some k → ∃ o, W.heap[k]? = some o ∧ o.isCells = true) : Recs W' D l r := by
  have hk : ∀ {b : Nat} {o : Obj}, W.heap[b]? = some o → o.isCells = false → W'.heap[b]? = some o := fun {b o} e ho => by
    refine (hg.block b (Array.getElem?_eq_some_iff.1 e).1 (fun q => ?_)).trans e
    obtain ⟨p, hp, hc⟩ := hr b q.symm
    rw [e] at hp
    cases hp
    rw [ho] at hc
    cases hc
  exact ⟨hk h.1 rfl, hk h.2 rfl⟩
theorem Turns.put {β : Type} {B : Nat} {I : β → World → Prop} (h : Turns B I) {s : β} {W : World} {l : Nat} (hl : B ≤ l) (hs : I s W) (o : Obj) : I s (W.putObj l o) :=
  h s W _ (some l) hs (grownBy_putObj' W l o) (fun r e => by cases e; exact hl)
theorem Turns.new {β : Type} {B : Nat} {I : β → World → Prop} (h : Turns B I) {s : β} {W : World} (hs : I s W) (o : Obj) : I s (W.alloc o) :=
  h s W _ none hs (World.grownBy_alloc W o none) (fun r e => by cases e)

theorem wpIn_range_cells {α : Type} {g : Operand} {ps : Array Tmp} {assign body : Code} {Q : Exit → Act → World → Prop} {a : Act} {w : World}
    (hro : F.round = none) (h1 : 1 ≤ n) {gf : Nat} {lb : Array Value} (hg : a.eval g = .func (.func gf) #[] lb) (hFg : F.fn gf) (eg : ∀ args w, (callFunc gf args).run P w = .ok (.enter gf args) w)
    {encs : α → Array Value} {L : List α} (hseq : SeqC F (n - 1) P gf lb encs L w) (hps : ∀ x, (encs x).size = ps.size)
    (I Ix : List α → World → Prop) (hI : Turns w.heap.size I) (hIx : Turns w.heap.size Ix) (h0 : I [] w) (a₁ : α → Act)
    (hassign : ∀ (l : Nat) (x : α) (W : World) (K : Act → World → Prop), K (a₁ x) W →
      assign.wpIn (F.inRound l) (n - 1 - 1) P (Exit.then K (fun _ _ _ => False)) { tmps := (ps.zip (encs x)).foldl (fun t (p, v) => t.setIfInBounds p v) a.tmps, defers := [] } W)
    (hbody : ∀ (l : Nat) (pre : List α) (x : α) (W : World), I pre W → (pre ++ [x]) <+: L → body.wpIn (F.inRound l) (n - 1 - 1) P (LeftC w.heap.size I Ix (pre ++ [x]) W) (a₁ x) W)
    (hdone : ∀ (D : Nat) (W : World), w.heap.size ≤ D → I L W → W.heap[D]? = some (.deferred (some [])) → Q .normal { a with defers := { target := .collected D, args := #[] } :: a.defers } W)
    (hstop : ∀ (D : Nat) (pre : List α) (W : World), w.heap.size ≤ D → pre <+: L → Ix pre W → W.heap[D]? = some (.deferred (some [])) → Code.ret.wpIn F n P Q { a with defers := { target := .collected D, args := #[] } :: a.defers } W) :
    (Code.rangeFunc g ps assign body).wpIn F n P Q a w := by
  refine wpIn_rangeFunc (fun fn hfn => ?_)
  rw [hro]
  obtain ⟨R, hR⟩ : ∃ R : LoopState → Option Code → Loop, ∀ s p, R s p = { state := s, pending := p, fn, tmps := a.tmps, params := ps, assign, body, defers := w.heap.size } := ⟨_, fun _ _ => rfl⟩
  have hne : w.heap.size ≠ w.heap.size + 1 := by omega
  have hrec : Recs ((w.alloc (.deferred (some []))).alloc (.loop (R .ready none))) w.heap.size (w.heap.size + 1) (R .ready none) := by
    refine ⟨?_, (Below.heap_alloc _ _ _ (by simp)).trans (World.alloc_heap_new w _)⟩
    have h := World.alloc_heap_new (w.alloc (.deferred (some []))) (.loop (R .ready none))
    rwa [World.size_alloc] at h
  have hin : I [] ((w.alloc (.deferred (some []))).alloc (.loop (R .ready none))) := hI.new (hI.new h0 _) _
  have hbel := step_a (step_a (Below.refl w.heap.size w) (.deferred (some []))) (.loop (R .ready none))
  have hent : (Instr.enterLoop fn a.tmps ps assign body none).run P w = .ok (w.heap.size + 1, [{ target := .collected w.heap.size, args := #[] }]) ((w.alloc (.deferred (some []))).alloc (.loop (R .ready none))) := by
    rw [hR]; exact run_enterLoop_outer _ _ _ _ _
  have hsz : w.heap.size + 2 = ((w.alloc (.deferred (some []))).alloc (.loop (R .ready none))).heap.size := by simp
  obtain ⟨W1, hW1⟩ : ∃ W1, (w.alloc (.deferred (some []))).alloc (.loop (R .ready none)) = W1 := ⟨_, rfl⟩
  rw [hW1] at hrec hin hbel hent hsz
  have turn : ∀ {β : Type} {K : β → World → Prop}, Turns w.heap.size K → TurnsC W1.heap.size K := fun hK s A B row hs hg' hr => hK s A B row hs hg' (fun r e => by have := (hr r e).1; omega)
  refine ⟨w.heap.size + 1, _, W1, { target := .fn (.func gf) lb, args := #[.func (.yield (w.heap.size + 1)) #[] #[]] }, W1, gf, #[.func (.yield (w.heap.size + 1)) #[] #[]] ++ lb, W1, hent, ?_, ?_, ?_, fun _ => h1, ?_⟩
  · simp only [resolve, hg]
    simp [go_sem]
  · intro f' hf'
    simp [Target.leads] at hf'
    subst hf'
    exact hFg
  · simp [invoke, go_sem, eg]
  refine (hseq (w.heap.size + 1) (fun pre W => I pre W ∧ Recs W w.heap.size (w.heap.size + 1) (R .ready none)) (fun pre W => Ix pre W ∧ Recs W w.heap.size (w.heap.size + 1) (R .done (some .ret))) W1 hbel
    (fun s A B row hs hg' hr => ⟨turn hI s A B row hs.1 hg' hr, hs.2.turn hg' (fun k e => (hr k e).2)⟩)
    (fun s A B row hs hg' hr => ⟨turn hIx s A B row hs.1 hg' hr, hs.2.turn hg' (fun k e => (hr k e).2)⟩)
    ?_ ⟨hin, hrec⟩).mono ?_
  · rintro pre x W ⟨hi, hr⟩ hpx
    have hy := run_yield (P := P) (args := encs x) hr.1 (by rw [hR]; exact hps x)
    rw [hR] at hy
    refine ⟨fn, _, assign, body, hy, roundIn_of_wpIn hfn (hassign _ x W _ ⟨_, run_beginRound hr.1 (by rw [hR]), ?_⟩)⟩
    have hr2 := hr.put hne { R .ready none with state := .busy }
    refine wpIn_mono (hbody _ pre x _ (hI.put (by omega) hi _) hpx) ?_
    have kc := KC.put (o' := .loop { R .ready none with state := .busy }) hr.1 rfl
    obtain ⟨W2, hW2⟩ : ∃ W2, W.putObj (w.heap.size + 1) (.loop { R .ready none with state := .busy }) = W2 := ⟨_, rfl⟩
    rw [hW2] at hr2 kc ⊢
    rintro e a3 W3 hp
    cases e with
    | normal =>
      obtain ⟨k1, k2, k3⟩ := hp
      have hr3 := hr2.from k1 (by omega) (by omega)
      have he := run_endRound (P := P) none hr3.1
      have hr4 := hr3.put hne (R .ready none)
      rw [hR] at he hr4 ⊢
      exact ⟨_, _, he, .inl ⟨rfl, ⟨hI.put (by omega) k3 _, hr4⟩, (kc.trans k2).trans (KC.put hr3.1 rfl)⟩⟩
    | ret =>
      obtain ⟨k1, k3⟩ := hp
      have hr3 := hr2.from k1 (by omega) (by omega)
      have he := run_endRound (P := P) (some .ret) hr3.1
      have hr4 := hr3.put hne (R .done (some .ret))
      rw [hR] at he
      rw [hR] at hr4
      exact ⟨_, _, he, .inr ⟨rfl, hIx.put (by omega) k3 _, by rw [hR]; exact hr4⟩⟩
    | exit id => exact hp.elim
    | goto t => exact hp.elim
    | panic ch => exact hp.elim
    | outgrown => exact hp.elim
  · rintro e W2 ⟨⟨v, rfl⟩, (⟨hi, hr⟩ | ⟨pre, hp, hi, hr⟩)⟩
    · have he := run_endLoop (P := P) hr.1 (by rw [hR]; simp)
      have hr4 := hr.put hne { R .ready none with state := .exhausted }
      rw [hR] at he hr4
      exact ⟨none, _, he, hdone _ _ (Nat.le_refl _) (hI.put (by omega) hi _) hr4.2⟩
    · have he := run_endLoop (P := P) hr.1 (by rw [hR]; simp)
      have hr4 := hr.put hne { R .done (some .ret) with state := .exhausted }
      rw [hR] at he hr4
      exact ⟨some .ret, _, he, hstop _ pre _ (Nat.le_refl _) hp (hIx.put (by omega) hi _) hr4.2⟩
end Go.Proofs.YtpbnmhnbkfnaeaaGreatDoor
/- The specification's walk over pairs: what the rows of pairs are, plain; l21Cmp. -/
namespace Go.Proofs.YtpbnmhnbkfnaeaaGreatDoor
open Go.RowKit Nt

theorem Tryz.infoPair : (Tryz.prog.info? 87).map (fun i => (i.zero, i.size, i.bytes)) = some (some (.agg #[.int .i64 0, .int .i64 0]), 2, 16) := by kernel_rfl
def pv (l : List (Int × Int)) : List Value := l.flatMap fun p => [.int .i64 p.1, .int .i64 p.2]
theorem pv_len (l : List (Int × Int)) : (pv l).length = l.length * 2 := by
  induction l with
  | nil => rfl
  | cons x r ih => unfold pv at ih ⊢; rw [List.flatMap_cons, List.length_append, ih, List.length_cons]; simp; omega
theorem pv_snoc (l : List (Int × Int)) (x : Int × Int) : pv (l ++ [x]) = pv l ++ [.int .i64 x.1, .int .i64 x.2] := by unfold pv; rw [List.flatMap_append]; rfl
theorem pv_get : ∀ {l : List (Int × Int)} {j : Nat} {x : Int × Int}, l[j]? = some x → (pv l)[j * 2]? = some (.int .i64 x.1) ∧ (pv l)[j * 2 + 1]? = some (.int .i64 x.2)
  | [], j, x, h => by simp at h
  | y :: r, 0, x, h => by
    simp at h
    subst h
    exact ⟨rfl, rfl⟩
  | y :: r, j + 1, x, h => by
    simp only [List.getElem?_cons_succ] at h
    obtain ⟨a, b⟩ := pv_get h
    have e : ∀ i, (pv (y :: r))[(j + 1) * 2 + i]? = (pv r)[j * 2 + i]? := fun i => by
      show ([Value.int .i64 y.1, .int .i64 y.2] ++ pv r)[(j + 1) * 2 + i]? = _
      rw [List.getElem?_append_right (by simp; omega)]
      congr 1
      simp; omega
    exact ⟨by have := e 0; simp only [Nat.add_zero] at this; rw [this]; exact a, by rw [e]; exact b⟩
/-- a row of pairs that is the call's own -/
abbrev RowP (w : World) (base : Nat) (T : TypeId) (v : Value) (l : List (Int × Int)) : Prop := w.ownsRow base T 2 v l.length (pv l)
theorem RowP.form {w : World} {base : Nat} {T : TypeId} {v : Value} {l : List (Int × Int)} (h : RowP w base T v l) (h0 : 0 < l.length) : ∃ g cap, v = .slice (some ⟨g, 0, none⟩) l.length cap ∧ l.length ≤ cap ∧ cap ≤ maxLen ∧ base ≤ g ∧
    ∀ j x, l[j]? = some x → w.cell? ⟨g, j * 2, none⟩ = some (.int .i64 x.1) ∧ w.cell? ⟨g, j * 2 + 1, none⟩ = some (.int .i64 x.2) := by
  have hr := h
  rcases h.2 with ⟨rfl, h1⟩ | ⟨g, cap, cur, rfl, hb, hg, h1, h2, h3, h4⟩
  · omega
  · refine ⟨g, cap, rfl, h1, h2, hb, fun j x hx => ?_⟩
    obtain ⟨a, b⟩ := pv_get hx
    have hj := (List.getElem?_eq_some_iff.1 hx).1
    exact ⟨by rw [hr.cellAt (j * 2) (by omega)]; exact a, by rw [hr.cellAt (j * 2 + 1) (by omega)]; exact b⟩

theorem nxt_take {l ks : List (Int × Int)} {k : Nat} {x : Int × Int} (h : ks[k]? = some x) : nxtP l (ks.take (k + 1)) = if x ∈ nxtP l (ks.take k) then nxtP l (ks.take k) else nxtP l (ks.take k) ++ [x] := by
  rw [List.take_add_one, h, nxtP_append]
  rfl
theorem mem_take {l : List (Int × Int)} {j : Nat} {y x : Int × Int} (h : l[j]? = some y) : decide (x ∈ l.take (j + 1)) = (decide (x ∈ l.take j) || decide (y = x)) := by
  rw [List.take_add_one, h, Bool.eq_iff_iff]
  simp only [Option.toList_some, List.mem_append, List.mem_singleton, Bool.or_eq_true, decide_eq_true_eq]
  constructor
  · rintro (h | h)
    · exact .inl h
    · exact .inr h.symm
  · rintro (h | h)
    · exact .inl h
    · exact .inr h.symm
/-- from the place i of the list on -/
def From (ns ms : List Nd) (R : Int) (i : Nat) (l : List (Int × Int)) : Prop := ∀ f, ns.length * ms.length < f + i → walkP (labP ns ms) (kidsP ns ms) f i l = R
theorem From.start {ns ms : List Nd} (hn : ns.all (ndOk ns.length) = true) (hm : ms.all (ndOk ms.length) = true) {a b : Int} (hab : InP ns.length ms.length (a, b)) : From ns ms (cmpAt ns ms a b) 0 [(a, b)] := fun f hf =>
  walkP_fuel (kidsP_in hn hm) (by simp) (fun x hx => by
    have : x = (a, b) := by simpa using hx
    rw [this]; exact hab) (by omega) (by omega)
theorem From.done {ns ms : List Nd} {R : Int} {l : List (Int × Int)} (h : From ns ms R l.length l) : R = 0 := by
  rw [← h (ns.length * ms.length + 1) (by omega)]
  unfold walkP
  rw [List.getElem?_eq_none (Nat.le_refl _)]
theorem From.stop {ns ms : List Nd} {R : Int} {i : Nat} {l : List (Int × Int)} (h : From ns ms R i l) {a b : Int} (hx : l[i]? = some (a, b)) (hne : labP ns ms a b ≠ 0) : R = labP ns ms a b := by
  rw [← h (ns.length * ms.length + 1) (by omega)]
  unfold walkP
  rw [hx]
  simp only
  rw [if_neg hne]
theorem From.next {ns ms : List Nd} {R : Int} {i : Nat} {l : List (Int × Int)} (h : From ns ms R i l) {a b : Int} (hx : l[i]? = some (a, b)) (h0 : labP ns ms a b = 0) : From ns ms R (i + 1) (nxtP l (kidsP ns ms a b)) := fun f hf => by
  rw [← h (f + 1) (by omega)]
  conv => rhs; unfold walkP
  rw [hx]
  simp only
  rw [if_pos h0]
theorem inP_iff {n m : Nat} {a b : Int} : InP n m (a, b) ↔ (0 ≤ a ∧ a < n) ∧ 0 ≤ b ∧ b < m := Iff.rfl
end Go.Proofs.YtpbnmhnbkfnaeaaGreatDoor
/- Plain: the list of pairs that the program's walk tells; what is compared is the first of them that differs. -/
namespace Go.Proofs.YtpbnmhnbkfnaeaaGreatDoor

/-- the pairs, level by level, from the place i of the list on -/
def lstP (kids : Int → Int → List (Int × Int)) : Nat → Nat → List (Int × Int) → List (Int × Int)
  | 0, _, l => l
  | f + 1, i, l => match l[i]? with
    | none => l
    | some (a, b) => lstP kids f (i + 1) (nxtP l (kids a b))
def fstN (c : Int → Int → Int) : List (Int × Int) → Int
  | [] => 0
  | x :: r => if c x.1 x.2 = 0 then fstN c r else c x.1 x.2
theorem nxt_pre (l ks : List (Int × Int)) : l <+: nxtP l ks := by
  obtain ⟨r, hr⟩ := nxtP_pre (ks := ks) (l := l)
  exact ⟨r, hr.symm⟩
theorem lst_pre (kids : Int → Int → List (Int × Int)) : ∀ (f i : Nat) (l : List (Int × Int)), l <+: lstP kids f i l
  | 0, _, l => ⟨[], by simp [lstP]⟩
  | f + 1, i, l => by
    unfold lstP
    cases h : l[i]? with
    | none => exact ⟨[], by simp⟩
    | some x => exact (nxt_pre l (kids x.1 x.2)).trans (lst_pre kids f (i + 1) _)
theorem pre_get {α : Type} {l L : List α} (h : l <+: L) {i : Nat} {x : α} (hx : l[i]? = some x) : L[i]? = some x := by
  obtain ⟨r, rfl⟩ := h
  rw [List.getElem?_append_left (List.getElem?_eq_some_iff.1 hx).1, hx]
theorem walk_fst {c : Int → Int → Int} {kids : Int → Int → List (Int × Int)} {n m : Nat} (hk : ∀ a b, InP n m (a, b) → ∀ x ∈ kids a b, InP n m x) :
    ∀ {f i : Nat} {l : List (Int × Int)}, l.Nodup → (∀ x ∈ l, InP n m x) → i ≤ l.length → n * m < f + i → walkP c kids f i l = fstN c ((lstP kids f i l).drop i) ∧ (lstP kids f i l).Nodup ∧ (∀ x ∈ lstP kids f i l, InP n m x) := by
  intro f
  induction f with
  | zero =>
    intro i l hn hl hi hf
    have := pairs_few hn hl
    omega
  | succ f ih =>
    intro i l hn hl hi hf
    unfold walkP lstP
    cases h : l[i]? with
    | none =>
      have := List.getElem?_eq_none_iff.1 h
      simp only
      rw [List.drop_of_length_le this]
      exact ⟨rfl, hn, hl⟩
    | some x =>
      obtain ⟨a, b⟩ := x
      simp only
      have hab := hl _ (List.mem_of_getElem? h)
      obtain ⟨h1, h2, r, hr⟩ := nxtP_ok hn hl (hk a b hab)
      have hlen : i + 1 ≤ (nxtP l (kids a b)).length := by
        have := (List.getElem?_eq_some_iff.1 h).1
        rw [hr, List.length_append]; omega
      obtain ⟨w1, w2, w3⟩ := ih h1 h2 hlen (by omega)
      have hg : (lstP kids f (i + 1) (nxtP l (kids a b)))[i]? = some (a, b) := pre_get ((nxt_pre l _).trans (lst_pre kids f (i + 1) _)) h
      have hd : (lstP kids f (i + 1) (nxtP l (kids a b))).drop i = (a, b) :: (lstP kids f (i + 1) (nxtP l (kids a b))).drop (i + 1) := by
        obtain ⟨hlt, e⟩ := List.getElem?_eq_some_iff.1 hg
        rw [List.drop_eq_getElem_cons hlt, e]
      refine ⟨?_, w2, w3⟩
      have e : ∀ r, fstN c ((a, b) :: r) = if c a b = 0 then fstN c r else c a b := fun _ => rfl
      rw [hd, w1, e]
theorem fst_zero {c : Int → Int → Int} : ∀ {l : List (Int × Int)}, (∀ x ∈ l, c x.1 x.2 = 0) → fstN c l = 0
  | [], _ => rfl
  | x :: r, h => by
    unfold fstN
    rw [if_pos (h x List.mem_cons_self)]
    exact fst_zero (fun y hy => h y (List.mem_cons_of_mem _ hy))
theorem fst_at {c : Int → Int → Int} {x : Int × Int} (hx : c x.1 x.2 ≠ 0) : ∀ {pre L : List (Int × Int)}, (pre ++ [x]) <+: L → (∀ y ∈ pre, c y.1 y.2 = 0) → fstN c L = c x.1 x.2
  | [], L, ⟨r, hr⟩, _ => by
    subst hr
    show fstN c (x :: r) = _
    unfold fstN
    rw [if_neg hx]
  | y :: pre, L, ⟨r, hr⟩, h => by
    subst hr
    show fstN c (y :: (pre ++ [x] ++ r)) = _
    unfold fstN
    rw [if_pos (h y List.mem_cons_self)]
    exact fst_at hx ⟨r, rfl⟩ (fun z hz => h z (List.mem_cons_of_mem _ hz))
/-- all pairs that are told -/
def allL (ns ms : List Nd) (a b : Int) : List (Int × Int) := lstP (kidsP ns ms) (ns.length * ms.length + 1) 0 [(a, b)]
theorem cmpAt_fst {ns ms : List Nd} (hn : ns.all (ndOk ns.length) = true) (hm : ms.all (ndOk ms.length) = true) {a b : Int} (hab : InP ns.length ms.length (a, b)) :
    cmpAt ns ms a b = fstN (labP ns ms) (allL ns ms a b) ∧ ∀ x ∈ allL ns ms a b, InP ns.length ms.length x := by
  have h := walk_fst (c := labP ns ms) (kidsP_in hn hm) (f := ns.length * ms.length + 1) (i := 0) (l := [(a, b)]) (by simp) (fun x hx => by
    have : x = (a, b) := by simpa using hx
    rw [this]; exact hab) (by simp) (by omega)
  exact ⟨h.1, h.2.2⟩
/-- from the place i on it is the list L that is told -/
def Lst (ns ms : List Nd) (L : List (Int × Int)) (i : Nat) (l : List (Int × Int)) : Prop := ∀ f, ns.length * ms.length < f + i → lstP (kidsP ns ms) f i l = L
theorem lst_fuel {kids : Int → Int → List (Int × Int)} {n m : Nat} (hk : ∀ a b, InP n m (a, b) → ∀ x ∈ kids a b, InP n m x) :
    ∀ {f g i : Nat} {l : List (Int × Int)}, l.Nodup → (∀ x ∈ l, InP n m x) → n * m < f + i → n * m < g + i → lstP kids f i l = lstP kids g i l := by
  intro f
  induction f with
  | zero =>
    intro g i l hn hl hf hg
    have := pairs_few hn hl
    cases g with
    | zero => rfl
    | succ g =>
      unfold lstP
      rw [List.getElem?_eq_none (by omega)]
  | succ f ih =>
    intro g i l hn hl hf hg
    cases g with
    | zero =>
      have := pairs_few hn hl
      unfold lstP
      rw [List.getElem?_eq_none (by omega)]
    | succ g =>
      unfold lstP
      cases h : l[i]? with
      | none => rfl
      | some x =>
        obtain ⟨a, b⟩ := x
        simp only
        obtain ⟨h1, h2, _⟩ := nxtP_ok hn hl (hk a b (hl _ (List.mem_of_getElem? h)))
        exact ih h1 h2 (by omega) (by omega)
theorem Lst.start {ns ms : List Nd} (hn : ns.all (ndOk ns.length) = true) (hm : ms.all (ndOk ms.length) = true) {a b : Int} (hab : InP ns.length ms.length (a, b)) : Lst ns ms (allL ns ms a b) 0 [(a, b)] := fun f hf =>
  lst_fuel (kidsP_in hn hm) (by simp) (fun x hx => by
    have : x = (a, b) := by simpa using hx
    rw [this]; exact hab) (by omega) (by omega)
theorem Lst.done {ns ms : List Nd} {L : List (Int × Int)} {l : List (Int × Int)} (h : Lst ns ms L l.length l) : L = l := by
  rw [← h (ns.length * ms.length + 1) (by omega)]
  unfold lstP
  rw [List.getElem?_eq_none (Nat.le_refl _)]
theorem Lst.pre {ns ms : List Nd} {L : List (Int × Int)} {i : Nat} {l : List (Int × Int)} (h : Lst ns ms L i l) : l <+: L := by
  rw [← h (ns.length * ms.length + 1) (by omega)]
  exact lst_pre _ _ _ _
theorem Lst.next {ns ms : List Nd} {L : List (Int × Int)} {i : Nat} {l : List (Int × Int)} (h : Lst ns ms L i l) {a b : Int} (hx : l[i]? = some (a, b)) : Lst ns ms L (i + 1) (nxtP l (kidsP ns ms a b)) := fun f hf => by
  rw [← h (f + 1) (by omega)]
  conv => rhs; unfold lstP
  rw [hx]
theorem Lst.take {ns ms : List Nd} {L : List (Int × Int)} {i : Nat} {l : List (Int × Int)} (h : Lst ns ms L i l) {x : Int × Int} (hx : l[i]? = some x) : l.take i ++ [x] = L.take (i + 1) := by
  have hlt := (List.getElem?_eq_some_iff.1 hx).1
  obtain ⟨r, hr⟩ := h.pre
  rw [← hr, List.take_append_of_le_length (by omega), List.take_add_one, hx]
  rfl
end Go.Proofs.YtpbnmhnbkfnaeaaGreatDoor
/- Two pairs, two tokens held against each other, as Go's '==' does. -/
namespace Go.Proofs.YtpbnmhnbkfnaeaaGreatDoor
open Go.RowKit Nt

theorem pair_guard (W : World) (x y : Operand) (xs ys : Array Value) : (eqGuard .eql 87 x y (.agg xs) (.agg ys)).run Tryz.prog W = .ok () W := run_eqGuard_agg W .eql 87 x y xs ys (by kernel_rfl)
theorem pair_eq (W : World) (p q x y : Int) : (binOp .eql 87 (.agg #[.int .i64 p, .int .i64 q]) (.agg #[.int .i64 x, .int .i64 y])).run Tryz.prog W = .ok (.bool (decide ((p, q) = (x, y)))) W := by
  have hp : Tryz.prog.stoodInHeld 87 = false := by kernel_rfl
  rw [run_eql_struct]
  rw [show (10000 : Nat) = 9999 + 1 from rfl, run_equalIn_agg W 9999 87 _ _ (by kernel_rfl) hp]
  simp [go_sem, Op.eqFields, Program.fieldsOf, Tryz.underlying87, part, Tryz.underlying3]
  by_cases h1 : p = x <;> by_cases h2 : q = y <;> simp [h1, h2]
end Go.Proofs.YtpbnmhnbkfnaeaaGreatDoor
/- The specification's walk over pairs. -/
namespace Go.Proofs.YtpbnmhnbkfnaeaaGreatDoor
open Go.RowKit Nt

theorem row_first (w : World) (a b : Int) (T : TypeId) : RowP (w.alloc (.cells #[.int .i64 a, .int .i64 b] T)) w.heap.size T (.slice (some ⟨w.heap.size, 0, none⟩) 1 1) [(a, b)] :=
  ⟨rfl, .inr ⟨w.heap.size, 1, _, rfl, Nat.le_refl _, heap_alloc_new w _, Nat.le_refl _, by unfold maxLen; omega, rfl, rfl⟩⟩
theorem own_form {w : World} {base size : Nat} {T : TypeId} {v : Value} {n : Nat} {xs : List Value} (h : w.ownsRow base T size v n xs) : ∃ p cap, v = .slice p n cap := by
  rcases h.2 with ⟨rfl, h1⟩ | ⟨g, cap, cur, rfl, _⟩
  · exact ⟨none, 0, by rw [h1]⟩
  · exact ⟨_, _, rfl⟩
theorem cell_below {w w' : World} (k : Below w.heap.size w w') {a : Addr} {v : Value} (h : w.cell? a = some v) : w'.cell? a = some v := (k.cell (World.block_lt_of_cell? _ _ h)).trans h
theorem own_ne3 {w : World} {b base n size : Nat} {x y z kv : Value} {T e : TypeId} {xs : List Value} (h : AtC3 w b x y z T) (ho : w.ownsRow base e size kv n xs) (hne : e ≠ T) : kv.ownBlock ≠ some b := by
  unfold AtC3 at h
  rcases ho.2 with ⟨rfl, _⟩ | ⟨g1, c1, k1, rfl, _, hg1, _⟩
  · intro e; simp [Value.ownBlock] at e
  · intro e
    simp [Value.ownBlock] at e
    subst e
    rw [hg1] at h
    simp at h
    exact hne h.2
theorem AtC3.grown {w w' : World} {b : Nat} {x y z : Value} {T : TypeId} {row : Option Nat} (h : AtC3 w b x y z T) (hg : w.grownBy w' row) (hne : row ≠ some b) : AtC3 w' b x y z T :=
  (hg.block b h.lt (Ne.symm hne)).trans h
theorem small_nd {ns : List Nd} (hs : NsSmall ns) {x : Int} {nd : Nd} (h : ns[x.toNat]? = some nd) : nd.2.1.length ≤ 1048576 ∧ nd.2.2.length ≤ 1048576 := hs nd (List.mem_of_getElem? h)

set_option maxRecDepth 100000 in
set_option maxHeartbeats 8000000 in
theorem l21Cmp_c (ns ms : List Nd) (a b : Int) (xv yv : Value) (w : World) (hx : NodesAt w xv ns) (hy : NodesAt w yv ms) (okn : ns.all (ndOk ns.length) = true) (okm : ms.all (ndOk ms.length) = true)
    (hab : InP ns.length ms.length (a, b)) (hsn : NsSmall ns) (hsm : NsSmall ms) (hl1 : ns.length ≤ 80) (hl2 : ms.length ≤ 80) :
    Calls Tryz.prog 33 #[xv, .int .i64 a, yv, .int .i64 b] w fun e w' => e = .returned (.int .i64 (cmpAt ns ms a b)) ∧ Below w.heap.size w w' := by
  obtain ⟨i0, hi, hz0, hz1, hz2⟩ := info_parts Tryz.infoPair
  have hF := From.start okn okm hab
  obtain ⟨R, hR⟩ : ∃ R, cmpAt ns ms a b = R := ⟨_, rfl⟩
  rw [hR] at hF ⊢
  have HF := hide hF
  have HX := hide hx
  have HY := hide hy
  obtain ⟨xa, xo, xc, rfl, hx1, hx2, _⟩ := hx.form (by have := hab.1; omega)
  obtain ⟨ya, yo, yc, rfl, hy1, hy2, _⟩ := hy.form (by have := hab.2; omega)
  unfold maxLen at hx2 hy2
  have hnm : ns.length * ms.length ≤ 6400 := Nat.mul_le_mul hl1 hl2
  have HNM := hide hnm
  have HOK := hide (And.intro okn okm)
  have HSN := hide hsn
  have HSM := hide hsm
  have HL0 : Hid ([(a, b)].Nodup ∧ ∀ x ∈ [(a, b)], InP ns.length ms.length x) := hide ⟨by simp, by
    intro x hx
    have : x = (a, b) := by simpa using hx
    rw [this]; exact hab⟩
  have HRW := hide (row_first w a b 87)
  have HB := hide (step_a (Below.refl w.heap.size w) (.cells #[.int .i64 a, .int .i64 b] 87))
  clear hF hR hx hy okn okm hsn hsm hab hnm
  go_enter Tryz.func33, Tryz.ntmps33
  go_wp2_with fail
  go_loopw [9, 10] (fun lv iv' wr => ∃ (l : List (Int × Int)) (i : Nat), i ≤ l.length ∧ iv' = .int .i64 i ∧ Hid (RowP wr w.heap.size 87 lv l) ∧ Hid (Below w.heap.size w wr) ∧ Hid (l.Nodup ∧ ∀ x ∈ l, InP ns.length ms.length x) ∧ Hid (From ns ms R i l))
    (fun _ iv' _ => 6400 - (intOf iv').toNat)
  case atStart => exact ⟨[(a, b)], 0, by simp, rfl, HRW, HB, HL0, HF⟩
  case round =>
    clear HRW HB HF HL0
    obtain ⟨l, i, hil, rfl, HRW, HB, HL, HF⟩ := hrel
    obtain ⟨Wi, hWi⟩ : ∃ Wi, Wi = wr := ⟨_, rfl⟩
    subst hWi
    have hll : l.length ≤ 6400 := Nat.le_trans (pairs_few (unhide HL).1 (unhide HL).2) (unhide HNM)
    by_cases hlt : i < l.length
    · obtain ⟨g, cap, rfl, hc1, hc2, hgb, hcell⟩ := (unhide HRW).form (by omega)
      obtain ⟨⟨pa, pb⟩, hp⟩ : ∃ p, l[i]? = some p := ⟨_, List.getElem?_eq_getElem hlt⟩
      obtain ⟨g0, g1⟩ := hcell i _ hp
      simp only at g0 g1
      have hpin := (unhide HL).2 _ (List.mem_of_getElem? hp)
      obtain ⟨⟨pa0, pa1⟩, pb0, pb1⟩ := inP_iff.1 hpin
      obtain ⟨na, hna⟩ : ∃ nd, ns[pa.toNat]? = some nd := ⟨_, List.getElem?_eq_getElem (by omega)⟩
      obtain ⟨nb, hnb⟩ : ∃ nd, ms[pb.toNat]? = some nd := ⟨_, List.getElem?_eq_getElem (by omega)⟩
      obtain ⟨kva, x0, x1, x2, _, hka⟩ := (unhide HX).node hna
      obtain ⟨kvb, y0, y1, y2, _, hkb⟩ := (unhide HY).node hnb
      have x0 := cell_below (unhide HB) x0
      have x1 := cell_below (unhide HB) x1
      have x2 := cell_below (unhide HB) x2
      have y0 := cell_below (unhide HB) y0
      have y1 := cell_below (unhide HB) y1
      have y2 := cell_below (unhide HB) y2
      have sa := small_nd (unhide HSN) hna
      have sb := small_nd (unhide HSM) hnb
      have HPI := hide hp
      have HPA : Hid (ndI ns pa = na) := hide (ndI_get hna)
      have HPB : Hid (ndI ms pb = nb) := hide (ndI_get hnb)
      have HKA := hide hka
      have HKB := hide hkb
      obtain ⟨aka, akc, rfl, ak1, ak2⟩ := hka.form
      obtain ⟨bka, bkc, rfl, bk1, bk2⟩ := hkb.form
      unfold maxLen at ak2 bk2 hc2
      have HOA : Hid (ndOk ns.length na = true) := hide (List.all_eq_true.1 (unhide HOK).1 _ (List.mem_of_getElem? hna))
      have HOB : Hid (ndOk ms.length nb = true) := hide (List.all_eq_true.1 (unhide HOK).2 _ (List.mem_of_getElem? hnb))
      obtain ⟨sa1, ta, ka⟩ := na
      obtain ⟨sb1, tb, kb⟩ := nb
      simp only at x0 x1 x2 y0 y1 y2 sa sb HKA HKB ak1 bk1
      have ei : ((i : Int)).toNat = i := by omega
      have pan : (pa.toNat : Int) = pa := by omega
      have pbn : (pb.toNat : Int) = pb := by omega
      clear hp hna hnb hka hkb hcell hpin
      have hb1 := step_a (Below.refl Wi.heap.size Wi) (.cells #[.int .i64 sa1, .string (B ta), .slice aka ka.length akc] 56)
      have hb2 := step_a hb1 (.cells #[.int .i64 sb1, .string (B tb), .slice bka kb.length bkc] 56)
      have g1' := cell_below hb1 g1
      have y0' := cell_below hb1 y0
      have y1' := cell_below hb1 y1
      have y2' := cell_below hb1 y2
      have HBB := hide hb2
      have HN1 := hide ((AtC3.new Wi (.int .i64 sa1) (.string (B ta)) (.slice aka ka.length akc) 56).below (step_a (Below.refl _ _) (.cells #[.int .i64 sb1, .string (B tb), .slice bka kb.length bkc] 56)))
      have HN2 := hide (AtC3.new (Wi.alloc (.cells #[.int .i64 sa1, .string (B ta), .slice aka ka.length akc] 56)) (.int .i64 sb1) (.string (B tb)) (.slice bka kb.length bkc) 56)
      rw [World.size_alloc] at HN2
      clear g1 y0 y1 y2 hb1 hb2
      go_wp2_with fail
      obtain ⟨W2, hW⟩ : ∃ W2, (Wi.alloc (.cells #[.int .i64 sa1, .string (B ta), .slice aka ka.length akc] 56)).alloc (.cells #[.int .i64 sb1, .string (B tb), .slice bka kb.length bkc] 56) = W2 := ⟨_, rfl⟩
      rw [hW] at HBB HN1 HN2 ⊢
      clear hW g0 g1' x0 x1 x2 y0' y1' y2'
      have h := l21Node_c (sa1, ta, ka) (sb1, tb, kb) aka bka akc bkc W2 sa.1 sb.1 sa.2 sb.2
      refine h.mono ?_
      clear h
      rintro e W3 ⟨rfl, hb3⟩
      have HB3 := hide (step_b (unhide HB) ((unhide HBB).trans (hb3.mono (unhide HBB).size)))
      have HRW3 := hide (own_below (unhide HRW) ((unhide HBB).trans (hb3.mono (unhide HBB).size)))
      have HM1 := hide ((unhide HN1).below hb3)
      have HM2 := hide ((unhide HN2).below hb3)
      have HLAB : Hid (labP ns ms pa pb = labCmp (sa1, ta, ka) (sb1, tb, kb)) := hide (by unfold labP; rw [unhide HPA, unhide HPB])
      have HKID : Hid (kidsP ns ms pa pb = ka.zip kb) := hide (by unfold kidsP; rw [unhide HPA, unhide HPB])
      clear hb3 HBB HN1 HN2 HB HRW
      obtain ⟨c, hc⟩ : ∃ c, labCmp (sa1, ta, ka) (sb1, tb, kb) = c := ⟨_, rfl⟩
      rw [hc] at HLAB ⊢
      have HC := hide hc
      clear hc
      by_cases hc0 : c = 0
      · subst hc0
        have hlen : ka.length = kb.length := labCmp_len (unhide HOA) (unhide HOB) (unhide HC)
        have HLEN := hide hlen
        have HST : Hid (l = nxtP l ((ka.zip kb).take 0)) := hide rfl
        have HBx := HB3
        clear hlen
        go_wp2_with fail
        go_loopw [9, 14] (fun lv kv wr => ∃ (k : Nat) (l' : List (Int × Int)), k ≤ ka.length ∧ kv = .int .i64 k ∧ Hid (l' = nxtP l ((ka.zip kb).take k)) ∧ Hid (RowP wr w.heap.size 87 lv l') ∧ Hid (Below w.heap.size w wr) ∧
            Hid (AtC3 wr Wi.heap.size (.int .i64 sa1) (.string (B ta)) (.slice aka ka.length akc) 56) ∧ Hid (AtC3 wr (Wi.heap.size + 1) (.int .i64 sb1) (.string (B tb)) (.slice bka kb.length bkc) 56))
          (fun _ kv _ => ka.length - (intOf kv).toNat)
        case atStart => exact ⟨0, l, by omega, rfl, HST, HRW3, HB3, HM1, HM2⟩
        case round =>
          clear HST HRW3 HB3 HM1 HM2
          obtain ⟨k, l', hkl, rfl, HLK, HRW, HB, HM1, HM2⟩ := hrel
          have m12 := (unhide HM1).n2
          have m22 := (unhide HM2).n2
          obtain ⟨Wk, hWk⟩ : ∃ Wk, Wk = wr := ⟨_, rfl⟩
          subst hWk
          by_cases hlt2 : k < ka.length
          · have hlb : k < kb.length := by have := unhide HLEN; omega
            obtain ⟨x, hx⟩ : ∃ x, ka[k]? = some x := ⟨_, List.getElem?_eq_getElem hlt2⟩
            obtain ⟨y, hy⟩ : ∃ y, kb[k]? = some y := ⟨_, List.getElem?_eq_getElem hlb⟩
            have HZ : Hid ((ka.zip kb)[k]? = some (x, y)) := hide (by rw [List.getElem?_zip_eq_some]; exact ⟨hx, hy⟩)
            obtain ⟨ga, oa, rfl, _, u0⟩ := ((unhide HKA).below (unhide HB)).cell hx
            obtain ⟨gb, ob, rfl, _, u1⟩ := ((unhide HKB).below (unhide HB)).cell hy
            have k0 : (0 : Int) ≤ (k : Int) := by omega
            have k1 : (k : Int) < (ka.length : Int) := by omega
            have k2 : (k : Int) < (kb.length : Int) := by omega
            have k3 : ((k : Int)).toNat = k := by omega
            have hal := step_a (Below.refl Wk.heap.size Wk) (.cells #[.int .i64 0, .int .i64 0] 87)
            have n12 := cell_below hal m12
            have n22 := cell_below hal m22
            have v0 := cell_below hal u0
            have v1 := cell_below hal u1
            have HAL := hide hal
            clear hx hy hal
            go_wp2_with fail
            go_region
            obtain ⟨W4, hW4⟩ : ∃ W4, (Wk.alloc (.cells #[.int .i64 x, .int .i64 y] 87)).drew = W4 := ⟨_, rfl⟩
            have hbk : Below Wk.heap.size Wk (Wk.alloc (.cells #[.int .i64 x, .int .i64 y] 87)).drew := (step_a (Below.refl _ _) _).drew
            have HBX : Hid (AtC2 (Wk.alloc (.cells #[.int .i64 x, .int .i64 y] 87)).drew Wk.heap.size (.int .i64 x) (.int .i64 y) 87) := hide ((AtC2.new Wk _ _ _).below (Below.refl _ _).drew)
            rw [hW4] at hbk HBX ⊢
            have HB4 := hide (step_b (unhide HB) hbk)
            have HRW4 := hide (own_below (unhide HRW) hbk)
            have HM14 := hide ((unhide HM1).below hbk)
            have HM24 := hide ((unhide HM2).below hbk)
            have hl0 : 0 < l'.length := by
              obtain ⟨r, hr⟩ := nxtP_pre (ks := (ka.zip kb).take k) (l := l)
              rw [unhide HLK, hr, List.length_append]; omega
            obtain ⟨g2, cap2, rfl, hd1, hd2, hgb2, hcell2⟩ := RowP.form (unhide HRW4) hl0
            unfold maxLen at hd2
            have HCELL := hide hcell2
            have hll2 : l'.length ≤ 6400 := by
              have := nxtP_ok (unhide HL).1 (unhide HL).2 (ks := (ka.zip kb).take k) (fun z hz => kidsP_in (unhide HOK).1 (unhide HOK).2 pa pb ((unhide HL).2 _ (List.mem_of_getElem? (unhide HPI))) z (by rw [unhide HKID]; exact List.mem_of_mem_take hz))
              rw [unhide HLK]
              exact Nat.le_trans (pairs_few this.1 this.2.1) (unhide HNM)
            clear hW4 hbk HAL n12 n22 v0 v1 u0 u1 m12 m22 HM1 HM2 HRW HB hcell2 hl0
            have hbase : Hid (Below W4.heap.size W4 W4) := hide (Below.refl _ _)
            go_wp2_with fail
            go_loopw [16, 17] (fun sv jv wr => ∃ j : Nat, j ≤ l'.length ∧ jv = .int .i64 j ∧ sv = .bool (decide ((x, y) ∈ l'.take j)) ∧ Hid (Below W4.heap.size W4 wr))
              (fun _ jv _ => l'.length - (intOf jv).toNat)
            case atStart => exact ⟨0, by omega, rfl, by simp, hbase⟩
            case round =>
              clear hbase
              obtain ⟨j, hjl, rfl, rfl, HBJ⟩ := hrel
              by_cases hjlt : j < l'.length
              · obtain ⟨⟨p, q⟩, hpq⟩ : ∃ z, l'[j]? = some z := ⟨_, List.getElem?_eq_getElem hjlt⟩
                obtain ⟨z0, z1⟩ := unhide HCELL j _ hpq
                simp only at z0 z1
                have z0 := cell_below (unhide HBJ) z0
                have z1 := cell_below (unhide HBJ) z1
                have e0 := ((unhide HBX).below (unhide HBJ)).n0
                have e1 := ((unhide HBX).below (unhide HBJ)).n1
                have HMT := hide (mem_take (x := (x, y)) hpq)
                have j0 : (0 : Int) ≤ (j : Int) := by omega
                have j1 : (j : Int) < (l'.length : Int) := by omega
                have j3 : ((j : Int)).toNat = j := by omega
                clear hpq
                go_wp2_with fail
                rcases Bool.eq_false_or_eq_true (decide ((x, y) ∈ l'.take j)) with hm | hm
                · rw [hm]
                  have HX : Hid (true = decide ((x, y) ∈ l'.take (j + 1))) := hide (by rw [unhide HMT, hm]; rfl)
                  clear hm
                  go_region
                  go_wp2_with fail
                  go_roundw
                  case rel => exact ⟨j + 1, by omega, by go_num, congrArg Value.bool (unhide HX), hide ((unhide HBJ).trans ((Below.refl _ _).drew))⟩
                  case measure => simp [intOf]; omega
                · rw [hm]
                  have HX : Hid ((decide (p = x) && decide (q = y)) = decide ((x, y) ∈ l'.take (j + 1))) := hide (by rw [unhide HMT, hm, Bool.false_or, Bool.eq_iff_iff]; simp)
                  have HDN := hide (below_drewN (unhide HBJ))
                  have hpg := pair_guard
                  have hpe := fun W => pair_eq W p q x y
                  clear hm
                  go_quiet (fail)
                  clear hpg hpe
                  go_wp2_with fail
                  go_roundw
                  case rel => exact ⟨j + 1, by omega, by go_num, congrArg Value.bool (unhide HX), hide (unhide HDN _)⟩
                  case measure => simp [intOf]; omega
              · obtain rfl : j = l'.length := by omega
                rw [List.take_of_length_le (Nat.le_refl _)]
                have HN := hide (nxt_take (l := l) (unhide HZ))
                have HRW5 := hide (own_below (unhide HRW4) (unhide HBJ))
                have HB5 := hide (step_b (unhide HB4) (unhide HBJ))
                have HM15 := hide ((unhide HM14).below (unhide HBJ))
                have HM25 := hide ((unhide HM24).below (unhide HBJ))
                have e0 := ((unhide HBX).below (unhide HBJ)).n0
                have e1 := ((unhide HBX).below (unhide HBJ)).n1
                clear HBX HRW4 HB4 HM14 HM24 HBJ
                by_cases hm : (x, y) ∈ l'
                · rw [decide_eq_true hm]
                  have HLK2 : Hid (l' = nxtP l ((ka.zip kb).take (k + 1))) := hide (by rw [unhide HN, ← unhide HLK, if_pos hm])
                  clear hm
                  go_wp2_with fail
                  go_roundw
                  case rel => exact ⟨k + 1, l', by omega, by go_num, HLK2, HRW5, HB5, HM15, HM25⟩
                  case measure => simp [intOf]; omega
                · rw [decide_eq_false hm]
                  have HLK2 : Hid (l' ++ [(x, y)] = nxtP l ((ka.zip kb).take (k + 1))) := hide (by rw [unhide HN, ← unhide HLK, if_neg hm])
                  have hal := step_a (Below.refl wr.heap.size wr) (.cells #[.int .i64 x, .int .i64 y] 87)
                  have HRW6 := hide (own_below (unhide HRW5) hal)
                  have HB6 := hide (step_b (unhide HB5) hal)
                  have HM16 := hide ((unhide HM15).below hal)
                  have HM26 := hide ((unhide HM25).below hal)
                  clear hm hal HRW5 HM15 HM25
                  go_wp2_with (at_builtin; refine wpList_append_own _ rfl (.tmp 85) (.tmp 87) 88 rfl w.heap.size 87 i0 (.agg #[.int .i64 0, .int .i64 0]) 2 16 Tryz.underlying88 hi hz0 hz1 hz2 rfl (by decide) _ l'.length (pv l') rfl (unhide HRW6) ⟨wr.heap.size, 0, none⟩ 1 1 [.int .i64 x, .int .i64 y] rfl rfl (World.news_of_block (cs := #[.int .i64 x, .int .i64 y]) (t := 87) (fr := (0, 0)) (heap_alloc_new wr _)) (by intro u hu; simp at hu; rcases hu with rfl | rfl <;> rfl) (by unfold maxLen; omega) (by omega) (by have := (unhide HB5).size; simp; omega) ?_; intro v' w7 hown7 hg7 hnil7; clear hnil7)
                  have HRW7 : Hid (RowP w7 w.heap.size 87 v' (l' ++ [(x, y)])) := hide (by unfold RowP; rw [pv_snoc, List.length_append]; exact hown7)
                  have HB7 := hide (below_grown (unhide HB6) (unhide HRW6) hg7 (unhide HB6).size)
                  have HM17 := hide ((unhide HM16).grown hg7 (own_ne3 (unhide HM16) (unhide HRW6) (by decide)))
                  have HM27 := hide ((unhide HM26).grown hg7 (own_ne3 (unhide HM26) (unhide HRW6) (by decide)))
                  obtain ⟨p7, c7, rfl⟩ := own_form hown7
                  clear hown7 hg7 HB6 HRW6 HM16 HM26
                  go_wp2_with fail
                  go_roundw
                  case rel => exact ⟨k + 1, _, by omega, by go_num, HLK2, HRW7, HB7, HM17, HM27⟩
                  case measure => simp [intOf]; omega
          · obtain rfl : k = ka.length := by omega
            have HK : Hid (l' = nxtP l (kidsP ns ms pa pb)) := hide (by rw [unhide HLK, unhide HKID, List.take_of_length_le (by rw [List.length_zip]; omega)])
            have hok := nxtP_ok (unhide HL).1 (unhide HL).2 (ks := kidsP ns ms pa pb) (fun z hz => kidsP_in (unhide HOK).1 (unhide HOK).2 pa pb ((unhide HL).2 _ (List.mem_of_getElem? (unhide HPI))) z hz)
            have hF2 := (unhide HF).next (unhide HPI) (unhide HLAB)
            rw [← unhide HK] at hok hF2
            have hpre : i + 1 ≤ l'.length := by
              obtain ⟨r, hr⟩ := nxtP_pre (ks := kidsP ns ms pa pb) (l := l)
              rw [unhide HK, hr, List.length_append]; omega
            have HL2 : Hid (l'.Nodup ∧ ∀ z ∈ l', InP ns.length ms.length z) := hide ⟨hok.1, hok.2.1⟩
            have HF2 := hide hF2
            obtain ⟨p8, c8, rfl⟩ := own_form (unhide HRW)
            clear hok hF2
            go_wp2_with fail
            go_roundw
            case rel => exact ⟨l', i + 1, hpre, by go_num, HRW, HB, HL2, HF2⟩
            case measure => simp [intOf]; omega
      · have hcz : (c == 0) = false := beq_eq_false_iff_ne.2 hc0
        have HQ := hide ((unhide HF).stop (unhide HPI) (by rw [unhide HLAB]; exact hc0))
        clear hc0
        go_wp2_with fail
        go_ret
        exact ⟨ret_int (by rw [unhide HQ, unhide HLAB]), unhide HB3⟩
    · obtain rfl : i = l.length := by omega
      have HQ := hide (unhide HF).done
      obtain ⟨p9, c9, rfl⟩ := own_form (unhide HRW)
      go_wp2_with fail
      go_ret
      exact ⟨ret_int (unhide HQ).symm, unhide HB⟩
end Go.Proofs.YtpbnmhnbkfnaeaaGreatDoor
/- tabCompared's closure meet: a pair that is met for the first time is marked and put behind those that wait. -/
namespace Go.Proofs.YtpbnmhnbkfnaeaaGreatDoor
open Go.RowKit Nt

/-- steps that turn blocks of cells from B on, one after another -/
structure Steps (B : Nat) (W W' : World) : Prop where
  bl : Below B W W'
  tr : ∀ {β : Type} (J : β → World → Prop) (s : β), TurnsC B J → J s W → J s W'
theorem Steps.refl (B : Nat) (W : World) : Steps B W W := ⟨Below.refl _ _, fun _ _ _ h => h⟩
theorem Steps.trans {B : Nat} {A C D : World} (h : Steps B A C) (k : Steps B C D) : Steps B A D := ⟨h.bl.trans k.bl, fun J s hJ hs => k.tr J s hJ (h.tr J s hJ hs)⟩
theorem Steps.below {B : Nat} {W W' : World} (hB : B ≤ W.heap.size) (h : Below W.heap.size W W') : Steps B W W' :=
  ⟨h.mono hB, fun J s hJ hs => hJ s W W' none hs ⟨h.os, h.tape, h.output, h.size, fun k hk _ => h.block k hk⟩ (fun r e => by cases e)⟩
theorem Steps.set {B : Nat} {W : World} {b i : Nat} {cs : Array Value} {T : TypeId} (h : AtC W b cs T) (hB : B ≤ b) (u : Value) : Steps B W (W.setCell ⟨b, i, none⟩ u) :=
  ⟨(Below.refl B W).setCell (p := ⟨b, i, none⟩) hB u, fun J s hJ hs => hJ s W _ (some b) hs ⟨rfl, rfl, rfl, by simp, fun k _ hk => Below.heap_setCell _ _ _ k (fun e => hk (by rw [e]))⟩ (fun r e => by cases e; exact ⟨hB, _, h, rfl⟩)⟩
theorem Steps.grown {B base size k : Nat} {W W' : World} {e : TypeId} {v : Value} {xs : List Value} (h : W.ownsRow base e size v k xs) (hg : W.grownBy W' v.ownBlock) (hB : B ≤ base) (hW : B ≤ W.heap.size) : Steps B W W' := by
  have hr : ∀ r, v.ownBlock = some r → B ≤ r ∧ ∃ o, W.heap[r]? = some o ∧ o.isCells = true := fun r e => by
    rcases h.2 with ⟨rfl, _⟩ | ⟨g, c, cur, rfl, hb, hg, _⟩
    · cases e
    · simp [Value.ownBlock] at e
      subst e
      exact ⟨by omega, _, hg, rfl⟩
  exact ⟨(Below.refl B W).grown hg hW (fun r e => (hr r e).1), fun J s hJ hs => hJ s W W' _ hs hg hr⟩

theorem AtC.put1 {w : World} {b i : Nat} {cs : Array Value} {T : TypeId} (h : AtC w b cs T) (u : Value) : AtC (w.setCell ⟨b, i, none⟩ u) b (cs.setIfInBounds i u) T := by
  show (w.heap.modify b _)[b]? = _
  rw [Array.getElem?_modify, if_pos rfl, show w.heap[b]? = _ from h]; rfl
/-- which pair is marked where -/
def metB (m : Nat) (l : List (Int × Int)) (k : Nat) : Bool := decide ((((k / m : Nat) : Int), ((k % m : Nat) : Int)) ∈ l)
def metA (m nm : Nat) (l : List (Int × Int)) : Array Value := ((List.range nm).map fun k => Value.bool (metB m l k)).toArray
theorem metA_get {m nm k : Nat} {l : List (Int × Int)} (h : k < nm) : (metA m nm l)[k]? = some (.bool (metB m l k)) := by
  unfold metA
  simp [h]
theorem metB_snoc (m : Nat) (l : List (Int × Int)) (k j : Nat) : metB m (l ++ [(((k / m : Nat) : Int), ((k % m : Nat) : Int))]) j = (metB m l j || decide (j = k)) := by
  have hq : (((j / m : Nat) : Int), ((j % m : Nat) : Int)) = (((k / m : Nat) : Int), ((k % m : Nat) : Int)) ↔ j = k := by
    constructor
    · intro q
      rw [Prod.mk.injEq] at q
      have h1 : j / m = k / m := by omega
      have h2 : j % m = k % m := by omega
      have h3 := Nat.div_add_mod j m
      have h4 := Nat.div_add_mod k m
      rw [h1, h2] at h3
      omega
    · rintro rfl; rfl
  unfold metB
  rw [Bool.eq_iff_iff, decide_eq_true_eq, Bool.or_eq_true, decide_eq_true_eq, decide_eq_true_eq, List.mem_append, List.mem_singleton, hq]
theorem metA_set {m nm k : Nat} {l : List (Int × Int)} (h : k < nm) : (metA m nm l).setIfInBounds k (.bool true) = metA m nm (l ++ [(((k / m : Nat) : Int), ((k % m : Nat) : Int))]) := by
  apply Array.ext_getElem?
  intro j
  rw [Array.getElem?_setIfInBounds]
  by_cases hj : j < nm
  · rw [metA_get hj, metA_get hj, metB_snoc]
    by_cases e : k = j
    · subst e
      rw [if_pos rfl, if_pos (by simpa [metA] using h), decide_eq_true rfl, Bool.or_true]
    · rw [if_neg e, decide_eq_false (fun q => e q.symm), Bool.or_false]
  · have e : ∀ l, (metA m nm l)[j]? = none := fun l => by simp [metA, Nat.le_of_not_lt hj]
    rw [e, e, if_neg (by omega)]
theorem met_at {m n : Nat} {x y : Int} (h : InP n m (x, y)) : ∃ k : Nat, k < n * m ∧ (k : Int) = x * m + y ∧ ((k / m : Nat) : Int) = x ∧ ((k % m : Nat) : Int) = y := by
  obtain ⟨⟨x0, x1⟩, y0, y1⟩ := h
  simp only at x0 x1 y0 y1
  obtain ⟨a, rfl⟩ := Int.eq_ofNat_of_zero_le x0
  obtain ⟨b, rfl⟩ := Int.eq_ofNat_of_zero_le y0
  have ha : a < n := by omega
  have hb : b < m := by omega
  refine ⟨a * m + b, ?_, by push_cast; rfl, ?_, ?_⟩
  · calc a * m + b < a * m + m := by omega
      _ = (a + 1) * m := by rw [Nat.succ_mul]
      _ ≤ n * m := Nat.mul_le_mul_right _ ha
  · rw [Nat.mul_comm, Nat.mul_add_div (by omega), Nat.div_eq_of_lt hb]; rfl
  · rw [Nat.mul_comm, Nat.mul_add_mod, Nat.mod_eq_of_lt hb]
/-- what the walk keeps: the marks, and the pairs in a row of its own -/
structure MeetS (W : World) (B g mB pB m nm : Nat) (l : List (Int × Int)) : Prop where
  gm : AtC W g (metA m nm l) 4
  mb : AtC W mB #[.slice (some ⟨g, 0, none⟩) nm nm] 126
  pb : ∃ v, AtC W pB #[v] 127 ∧ RowP W B 129 v l
  lg : B ≤ g
  lm : B ≤ mB
  lp : B ≤ pB
theorem MeetS.below {W W' : World} {B g mB pB m nm : Nat} {l : List (Int × Int)} (h : MeetS W B g mB pB m nm l) (k : Below W.heap.size W W') : MeetS W' B g mB pB m nm l := by
  obtain ⟨a, b, ⟨v, c, d⟩, e1, e2, e3⟩ := h
  exact ⟨a.below k, b.below k, ⟨v, c.below k, own_below d k⟩, e1, e2, e3⟩
theorem AtC.kc {w w' : World} {b : Nat} {cs : Array Value} {T : TypeId} (h : AtC w b cs T) (k : KC w w') : AtC w' b cs T := k.cells b _ h rfl
theorem own_kc {w w' : World} {base size n : Nat} {e : TypeId} {v : Value} {xs : List Value} (h : w.ownsRow base e size v n xs) (k : KC w w') : w'.ownsRow base e size v n xs := by
  refine ⟨h.1, ?_⟩
  rcases h.2 with ⟨rfl, h1⟩ | ⟨g, cap, cur, rfl, hb, hg, r⟩
  · exact .inl ⟨rfl, h1⟩
  · exact .inr ⟨g, cap, cur, rfl, hb, k.cells g _ hg rfl, r⟩
theorem MeetS.kc {W W' : World} {B g mB pB m nm : Nat} {l : List (Int × Int)} (h : MeetS W B g mB pB m nm l) (k : KC W W') : MeetS W' B g mB pB m nm l := by
  obtain ⟨a, b, ⟨v, c, d⟩, e1, e2, e3⟩ := h
  exact ⟨a.kc k, b.kc k, ⟨v, c.kc k, own_kc d k⟩, e1, e2, e3⟩
theorem Tryz.infoTabPair : (Tryz.prog.info? 129).map (fun i => (i.zero, i.size, i.bytes)) = some (some (.agg #[.int .i64 0, .int .i64 0]), 2, 16) := by kernel_rfl
end Go.Proofs.YtpbnmhnbkfnaeaaGreatDoor
/- tabCompared's closure meet, walked. -/
namespace Go.Proofs.YtpbnmhnbkfnaeaaGreatDoor
open Go.RowKit Nt

theorem atC_ne {w : World} {a b : Nat} {cs cs' : Array Value} {T T' : TypeId} (h : AtC w a cs T) (k : AtC w b cs' T') (hne : T ≠ T') : a ≠ b := by
  rintro rfl
  have e := (show w.heap[a]? = _ from h).symm.trans k
  simp at e
  exact hne e.2
theorem own_neC {w : World} {b base n size : Nat} {kv : Value} {T e : TypeId} {xs : List Value} {cs : Array Value} (h : AtC w b cs T) (ho : w.ownsRow base e size kv n xs) (hne : e ≠ T) : kv.ownBlock ≠ some b := by
  rcases ho.2 with ⟨rfl, _⟩ | ⟨g1, c1, k1, rfl, _, hg1, _⟩
  · intro e; simp [Value.ownBlock] at e
  · intro q
    simp [Value.ownBlock] at q
    subst q
    have q := (show w.heap[g1]? = _ from h).symm.trans hg1
    simp at q
    exact hne q.2.symm
theorem own_far1 {w : World} {b base n size i : Nat} {kv u : Value} {e : TypeId} {xs : List Value} (h : w.ownsRow base e size kv n xs) (hg : kv.ownBlock ≠ some b) : (w.setCell ⟨b, i, none⟩ u).ownsRow base e size kv n xs := by
  refine ⟨h.1, ?_⟩
  rcases h.2 with ⟨rfl, h1⟩ | ⟨g1, cap, cur, rfl, hb, hg1, r⟩
  · exact .inl ⟨rfl, h1⟩
  · refine .inr ⟨g1, cap, cur, rfl, hb, ?_, r⟩
    have : g1 ≠ b := fun e => hg (by rw [e]; rfl)
    rw [Below.heap_setCell _ _ _ _ this]
    exact hg1
theorem AtC.grown {w w' : World} {b : Nat} {cs : Array Value} {T : TypeId} {row : Option Nat} (h : AtC w b cs T) (hg : w.grownBy w' row) (hne : row ≠ some b) : AtC w' b cs T :=
  (hg.block b h.lt (Ne.symm hne)).trans h

set_option maxRecDepth 100000 in
set_option maxHeartbeats 4000000 in
theorem meet_c (x y : Int) (n m B bB g mB pB nc : Nat) (na : Option Addr) (l : List (Int × Int)) (W : World) (hin : InP n m (x, y)) (hn : n ≤ 80) (hm : m ≤ 80) (hl : l.length ≤ 6400) (hb : W.cell? ⟨bB, 0, none⟩ = some (.slice na m nc)) (hM : MeetS W B g mB pB m (n * m) l) (hBW : B ≤ W.heap.size) :
    Calls Tryz.prog 98 #[.int .i64 x, .int .i64 y, .pointer (some ⟨bB, 0, none⟩), .pointer (some ⟨mB, 0, none⟩), .pointer (some ⟨pB, 0, none⟩)] W fun e W' => (∃ v, e = .returned v) ∧ Steps B W W' ∧ MeetS W' B g mB pB m (n * m) (if (x, y) ∈ l then l else l ++ [(x, y)]) ∧ ∀ b cs, AtC W b cs 56 → AtC W' b cs 56 := by
  obtain ⟨i0, hi, hz0, hz1, hz2⟩ := info_parts Tryz.infoTabPair
  obtain ⟨k, hk, hk1, hk2, hk3⟩ := met_at hin
  have hmem : metB m l k = decide ((x, y) ∈ l) := by unfold metB; rw [hk2, hk3]
  have hnm : n * m ≤ 6400 := Nat.mul_le_mul hn hm
  have HSET := hide (metA_set (m := m) (l := l) hk)
  rw [hk2, hk3] at HSET
  have hx0 := hin.1.1
  have hx1 := hin.1.2
  have hy0 := hin.2.1
  have hy1 := hin.2.2
  simp only at hx0 hx1 hy0 hy1
  obtain ⟨p, hp⟩ : ∃ p : Int, x * m = p := ⟨_, rfl⟩
  rw [hp] at hk1
  have HP := hide hp
  have hp0 : 0 ≤ p := by rw [← hp]; exact Int.mul_nonneg hx0 (by omega)
  have hg0 := hM.gm.c k
  rw [metA_get hk, hmem] at hg0
  have hgf := hM.gm.f k
  have hmb := hM.mb.c 0
  obtain ⟨v, hpv, hrow⟩ := hM.pb
  have HPV := hide hpv
  have HRW := hide hrow
  have hpb := hpv.c 0
  have hpf := hpv.f 0
  obtain ⟨rp, rc, rfl⟩ := own_form hrow
  have HM := hide hM
  obtain ⟨nm, hnm'⟩ : ∃ q, n * m = q := ⟨_, rfl⟩
  rw [hnm'] at hk hnm HM HSET hmb ⊢
  simp only [List.getElem?_toArray, List.getElem?_cons_zero] at hmb hpb
  obtain rfl : k = (p + y).toNat := by omega
  have hpy : p + y < (nm : Int) := by omega
  have hnm2 : p + y ≤ 6400 := by omega
  clear hin hM hpv hrow hnm' hmem hp hn hk2 hk3 hk hk1
  go_enter Tryz.func98, Tryz.ntmps98
  have e1 : wrap64 (x * (m : Int)) = p := by rw [unhide HP]; unfold wrap64; omega
  by_cases hin : (x, y) ∈ l
  · rw [decide_eq_true hin] at hg0
    rw [if_pos hin]
    clear HSET
    go_wp2_with fail
    go_end0
    exact ⟨⟨_, rfl⟩, Steps.refl _ _, unhide HM, fun _ _ h => h⟩
  · rw [decide_eq_false hin] at hg0
    rw [if_neg hin]
    have hgm := (unhide HM).gm
    have hmm := (unhide HM).mb
    have n1 : pB ≠ g := atC_ne (unhide HPV) hgm (by decide)
    have n2 : mB ≠ g := atC_ne hmm hgm (by decide)
    have ho := own_neC hgm (unhide HRW) (by decide)
    have G5 := hgm.put1 (i := (p + y).toNat) (.bool true)
    rw [unhide HSET] at G5
    have M5 := hmm.far1 (i := (p + y).toNat) n2 (.bool true)
    have P5 := (unhide HPV).far1 (i := (p + y).toNat) n1 (.bool true)
    have R5 := own_far1 (i := (p + y).toNat) (u := .bool true) (unhide HRW) ho
    have S5 := Steps.set (i := (p + y).toNat) hgm (unhide HM).lg (.bool true)
    have z5 : (W.setCell ⟨g, (p + y).toNat, none⟩ (.bool true)).heap.size = W.heap.size := by simp
    have p5 := P5.c 0
    simp only [List.getElem?_toArray, List.getElem?_cons_zero] at p5
    obtain ⟨W5, hW5⟩ : ∃ W5, W.setCell ⟨g, (p + y).toNat, none⟩ (.bool true) = W5 := ⟨_, rfl⟩
    have HW5 := hide hW5
    have p5' : (W.setCell ⟨g, (p + y).toNat, none⟩ (.bool true)).cell? ⟨pB, 0, none⟩ = some (.slice rp l.length rc) := by rw [hW5]; rw [hW5] at p5; exact p5
    rw [hW5] at G5 M5 P5 R5 S5 z5
    have hal := step_a (Below.refl W5.heap.size W5) (.cells #[.int .i64 x, .int .i64 y] 129)
    have G6 := hide (G5.below hal)
    have M6 := hide (M5.below hal)
    have P6 := hide (P5.below hal)
    have R6 := hide (own_below R5 hal)
    have S6 := hide (S5.trans (Steps.below (by omega) hal))
    have HFAR : Hid (∀ b cs, AtC W b cs 56 → AtC (W5.alloc (.cells #[.int .i64 x, .int .i64 y] 129)) b cs 56) := hide (fun b cs h => by
      have h5 := h.far1 (i := (p + y).toNat) (atC_ne h hgm (by decide)) (.bool true)
      rw [hW5] at h5
      exact h5.below hal)
    have HLG := hide (And.intro (unhide HM).lg (And.intro (unhide HM).lm (unhide HM).lp))
    have hb5 : B ≤ W5.heap.size := by omega
    have HZ5 := hide z5
    have HNEW : Hid ((W5.alloc (.cells #[.int .i64 x, .int .i64 y] 129)).heap[W.heap.size]? = some (.cells #[.int .i64 x, .int .i64 y] 129 (0, 0))) := hide (by rw [← z5]; exact heap_alloc_new W5 _)
    clear hgm hmm n1 n2 ho G5 M5 P5 R5 S5 hal p5 z5 hW5 HM HPV HRW HSET
    go_wp2_with (at_builtin; rw [unhide HW5]; refine wpList_append_own _ rfl (.tmp 23) (.tmp 27) 127 rfl B 129 i0 (.agg #[.int .i64 0, .int .i64 0]) 2 16 Tryz.underlying127 hi hz0 hz1 hz2 rfl (by decide) _ l.length (pv l) rfl (unhide R6) ⟨W.heap.size, 0, none⟩ 1 1 [.int .i64 x, .int .i64 y] rfl rfl (World.news_of_block (cs := #[.int .i64 x, .int .i64 y]) (t := 129) (fr := (0, 0)) (unhide HNEW)) (by intro u hu; simp at hu; rcases hu with rfl | rfl <;> rfl) (by unfold maxLen; omega) (by omega) (by have := unhide HZ5; simp; omega) ?_; intro v' w7 hown7 hg7 hnil7; clear hnil7; have HP7 := hide ((unhide P6).grown hg7 (own_neC (unhide P6) (unhide R6) (by decide))); have p7c := (unhide HP7).c 0; have p7f := (unhide HP7).f 0; simp only [List.getElem?_toArray, List.getElem?_cons_zero] at p7c; have HOWN := hide hown7; have HGR := hide hg7; obtain ⟨p7, c7, rfl⟩ := own_form hown7; clear hown7 hg7 p5')
    go_end0
    have hg7 := unhide HGR
    have G7 := (unhide G6).grown hg7 (own_neC (unhide G6) (unhide R6) (by decide))
    have M7 := (unhide M6).grown hg7 (own_neC (unhide M6) (unhide R6) (by decide))
    have S7 := (unhide S6).trans (Steps.grown (unhide R6) hg7 (Nat.le_refl _) (Nat.le_trans hBW (unhide S6).bl.size))
    have n3 : g ≠ pB := atC_ne G7 (unhide HP7) (by decide)
    have n4 : mB ≠ pB := atC_ne M7 (unhide HP7) (by decide)
    have hR7 : RowP w7 B 129 (.slice p7 (l.length + 1) c7) (l ++ [(x, y)]) := by unfold RowP; rw [pv_snoc, List.length_append]; exact unhide HOWN
    obtain ⟨l1, l2, l3⟩ := unhide HLG
    exact ⟨⟨_, rfl⟩, S7.trans (Steps.set (i := 0) (unhide HP7) l3 _), ⟨G7.far1 n3 _, M7.far1 n4 _, ⟨_, (unhide HP7).put1 _, own_far1 hR7 (own_neC (unhide HP7) hR7 (by decide))⟩, l1, l2, l3⟩, fun b cs h => by
      have h6 := unhide HFAR b cs h
      have h7 := h6.grown hg7 (own_neC h6 (unhide R6) (by decide))
      exact h7.far1 (atC_ne h7 (unhide HP7) (by decide)) _⟩
end Go.Proofs.YtpbnmhnbkfnaeaaGreatDoor
