/- Texts put together: SizeB NewI InM InS SizeT NewS. -/
import Derived.Test.YtpcdjpfffanlbaaDoorZBase
import Derived.Test.YtpcdjpfffanlbaaDoorZScrL
/- sizeOK: a screen's size. -/
namespace Go.Proofs.YtpcdjpfffanlbaaDoor
open Go.ChangeShapes Go.WideShapes Go.ChangeAt Go.RowKit
def sizeB (w h : Int) : Bool := decide (2 ≤ w ∧ w ≤ 24 ∧ 2 ≤ h ∧ h ≤ 10)
set_option maxHeartbeats 400000 in
theorem isize (w0 h0 : Int) (w : World) : Calls Tryd.prog 31 #[.int .i64 w0, .int .i64 h0] w fun e w' => e = .returned (.bool (sizeB w0 h0)) ∧ w' = w := by
 have e : sizeB w0 h0 = (decide (2 ≤ w0) && (decide (w0 ≤ 24) && (decide (2 ≤ h0) && decide (h0 ≤ 10)))) := by unfold sizeB; simp only [Bool.decide_and]
 rw [e]
 clear e
 by_cases h1 : 2 ≤ w0
 ·by_cases h2 : w0 ≤ 24
  ·by_cases h3 : 2 ≤ h0
   ·by_cases h4 : h0 ≤ 10
    all_goals
     go_enter Tryd.func31, Tryd.ntmps31
     go_wp2_with fail
     go_ret
     exact ⟨ret_bool (by simp [*] <;> omega), rfl⟩
   ·go_enter Tryd.func31, Tryd.ntmps31
    go_wp2_with fail
    go_ret
    exact ⟨ret_bool (by simp [*] <;> omega), rfl⟩
  ·go_enter Tryd.func31, Tryd.ntmps31
   go_wp2_with fail
   go_ret
   exact ⟨ret_bool (by simp [*] <;> omega), rfl⟩
 ·go_enter Tryd.func31, Tryd.ntmps31
  go_wp2_with fail
  go_ret
  exact ⟨ret_bool (by simp [*] <;> omega), rfl⟩
end Go.Proofs.YtpcdjpfffanlbaaDoor

/- NewScreen: what the program answers. -/
namespace Go.Proofs.YtpcdjpfffanlbaaDoor
open Go.ChangeShapes Go.WideShapes Go.ChangeAt Go.RowKit
end Go.Proofs.YtpcdjpfffanlbaaDoor

/- Numbers within bounds, texts of bytes within bounds, runes. Plain mathematics. -/
namespace Go.Proofs.YtpcdjpfffanlbaaDoor
open Go.ChangeShapes Go.WideShapes Go.ChangeAt Go.RowKit
theorem b_true {p : Prop} [Decidable p] (h : p) : true = decide p := (decide_eq_true h).symm
theorem b_false {p : Prop} [Decidable p] (h : ¬ p) : false = decide p := (decide_eq_false h).symm
def inB (n a b : Int) : Bool := decide (a ≤ n ∧ n ≤ b)
theorem in_yes {n a b : Int} (h : a ≤ n ∧ n ≤ b) : inB n a b = true := decide_eq_true h
theorem in_no {n a b : Int} (h : ¬ (a ≤ n ∧ n ≤ b)) : inB n a b = false := decide_eq_false h
def byteIn (c : UInt8) : Bool := inB (c.toNat : Int) 32 126
def allText (t : List UInt8) : Bool := t.all byteIn
def titleB (t : List UInt8) : Bool := decide (t.length ≤ 40) && allText t
def runeB (n : Int) : Bool := decide (32 ≤ n ∧ n ≤ 1114111 ∧ n ≠ 127 ∧ ¬ (55296 ≤ n ∧ n ≤ 57343))
theorem text_take_all {t : ByteArray} (h : ∀ q (hq : q < t.size), inB (t[q].toNat : Int) 32 126 = true) : allText t.data.toList = true := by
 unfold allText; rw [List.all_eq_true]
 intro x hx
 obtain ⟨q, hq, rfl⟩ := List.mem_iff_getElem.1 hx
 exact h q (by simpa using hq)
theorem text_bad {t : ByteArray} {q : Nat} (hq : q < t.size) (h : inB (t[q].toNat : Int) 32 126 = false) : allText t.data.toList = false := by
 unfold allText; rw [List.all_eq_false]
 refine ⟨t.data.toList[q]'(by simpa using hq), List.getElem_mem _, ?_⟩
 have e : byteIn (t.data.toList[q]'(by simpa using hq)) = inB (t[q].toNat : Int) 32 126 := rfl
 rw [e, h]; decide
theorem text_len (t : ByteArray) : t.data.toList.length = t.size := by simp
end Go.Proofs.YtpcdjpfffanlbaaDoor

/- l01In, l03RuneOK: what the specification answers. -/
namespace Go.Proofs.YtpcdjpfffanlbaaDoor
open Go.ChangeShapes Go.WideShapes Go.ChangeAt Go.RowKit
set_option linter.unusedVariables false
theorem rune_parts (n : Int) : runeB n = (inB n 0 1114111 && !(inB n 55296 57343) && decide (32 ≤ n) && (n != 127)) := by
 unfold runeB inB; rw [Bool.eq_iff_iff]; simp; omega
set_option maxHeartbeats 400000 in
set_option maxRecDepth 100000 in
theorem sin (n a b : Int) (w : World) : Calls Tryd.prog 40 #[.int .i64 n, .int .i64 a, .int .i64 b] w fun e w' => e = .returned (.bool (inB n a b)) ∧ w' = w := by
 by_cases h : a ≤ n
 ·by_cases h2 : n ≤ b
  ·go_enter Tryd.func40, Tryd.ntmps40
   go_wp2_with fail
   go_ret
   exact ⟨ret_bool (b_true ⟨h, h2⟩), rfl⟩
  ·go_enter Tryd.func40, Tryd.ntmps40
   go_wp2_with fail
   go_ret
   exact ⟨ret_bool (b_false (by omega)), rfl⟩
 ·go_enter Tryd.func40, Tryd.ntmps40
  go_wp2_with fail
  go_ret
  exact ⟨ret_bool (b_false (by omega)), rfl⟩
set_option maxHeartbeats 400000 in
set_option maxRecDepth 100000 in
theorem sruneok (n : Int) (w : World) : Calls Tryd.prog 47 #[.int .i64 n] w fun e w' => e = .returned (.bool (inB n 0 1114111 && !(inB n 55296 57343))) ∧ w' = w := by
 cases h : inB n 0 1114111 <;> cases h2 : inB n 55296 57343
 all_goals
  go_enter Tryd.func47, Tryd.ntmps47
  go_wp2_with (go_at_call 40; refine (sin _ _ _ _).mono ?_; rintro e w2 ⟨rfl, hw⟩; subst w2; first | rw [h] | rw [h2])
  go_ret
  exact ⟨rfl, rfl⟩
end Go.Proofs.YtpcdjpfffanlbaaDoor

/- l04Size: a screen's size, what the specification answers. -/
namespace Go.Proofs.YtpcdjpfffanlbaaDoor
open Go.ChangeShapes Go.WideShapes Go.ChangeAt Go.RowKit
theorem size_in (a b : Int) : sizeB a b = (inB a 2 24 && inB b 2 10) := by
 unfold sizeB inB; simp only [Bool.decide_and]; cases decide (2 ≤ a) <;> cases decide (a ≤ 24) <;> simp
set_option maxHeartbeats 400000 in
theorem ssize (w0 h0 : Int) (w : World) : Calls Tryd.prog 24 #[.int .i64 w0, .int .i64 h0] w fun e w' => e = .returned (.bool (sizeB w0 h0)) ∧ w' = w := by
 rw [size_in]
 cases h1 : inB w0 2 24 <;> cases h2 : inB h0 2 10
 all_goals
  go_enter Tryd.func24, Tryd.ntmps24
  go_wp2_with (go_at_call 40; refine (sin _ _ _ _).mono ?_; rintro e w1 ⟨rfl, rfl⟩; first | rw [h1] | rw [h2])
  go_ret
  exact ⟨rfl, rfl⟩
end Go.Proofs.YtpcdjpfffanlbaaDoor

/- NewScreen: what the specification answers. -/
namespace Go.Proofs.YtpcdjpfffanlbaaDoor
open Go.ChangeShapes Go.WideShapes Go.ChangeAt Go.RowKit
end Go.Proofs.YtpcdjpfffanlbaaDoor
