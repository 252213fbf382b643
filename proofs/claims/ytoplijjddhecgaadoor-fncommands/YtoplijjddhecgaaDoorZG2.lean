/- Texts put together: InM SizeB CmdM. -/
import Derived.Test.YtoplijjddhecgaaDoorZBase
import Derived.Test.YtoplijjddhecgaaDoorZNameT
/- Numbers within bounds, texts of bytes within bounds, runes. Plain mathematics. -/
namespace Go.Proofs.YtoplijjddhecgaaDoor
open Go.ChangeShapes Go.WideShapes Go.ChangeAt Go.RowKit
theorem b_true {p : Prop} [Decidable p] (h : p) : true = decide p := (decide_eq_true h).symm
theorem b_false {p : Prop} [Decidable p] (h : ¬ p) : false = decide p := (decide_eq_false h).symm
def inB (n a b : Int) : Bool := decide (a ≤ n ∧ n ≤ b)
theorem in_yes {n a b : Int} (h : a ≤ n ∧ n ≤ b) : inB n a b = true := decide_eq_true h
theorem in_no {n a b : Int} (h : ¬ (a ≤ n ∧ n ≤ b)) : inB n a b = false := decide_eq_false h
def byteIn (c : UInt8) : Bool := inB (c.toNat : Int) 32 126
def allText (t : List UInt8) : Bool := t.all byteIn
def titleB (t : List UInt8) : Bool := decide (t.length ≤ 40) && allText t
def runeB (n : Int) : Bool := decide (32 ≤ n ∧ n ≤ 1114111 ∧ n ≠ 127 ∧ ¬ (55296 ≤ n ∧ n ≤ 57343))
theorem text_take_all {t : ByteArray} (h : ∀ q (hq : q < t.size), inB (t[q].toNat : Int) 32 126 = true) : allText t.data.toList = true := by
  unfold allText; rw [List.all_eq_true]
  intro x hx
  obtain ⟨q, hq, rfl⟩ := List.mem_iff_getElem.1 hx
  exact h q (by simpa using hq)
theorem text_bad {t : ByteArray} {q : Nat} (hq : q < t.size) (h : inB (t[q].toNat : Int) 32 126 = false) : allText t.data.toList = false := by
  unfold allText; rw [List.all_eq_false]
  refine ⟨t.data.toList[q]'(by simpa using hq), List.getElem_mem _, ?_⟩
  have e : byteIn (t.data.toList[q]'(by simpa using hq)) = inB (t[q].toNat : Int) 32 126 := rfl
  rw [e, h]; decide
theorem text_len (t : ByteArray) : t.data.toList.length = t.size := by simp
theorem text_empty {t : ByteArray} (h : t.size = 0) : t = ⟨#[]⟩ := by
  obtain ⟨d⟩ := t
  have : d = #[] := Array.eq_empty_of_size_eq_zero h
  rw [this]
end Go.Proofs.YtoplijjddhecgaaDoor

/- sizeOK: a screen's size. -/
namespace Go.Proofs.YtoplijjddhecgaaDoor
open Go.ChangeShapes Go.WideShapes Go.ChangeAt Go.RowKit
def sizeB (w h : Int) : Bool := decide (2 ≤ w ∧ w ≤ 24 ∧ 2 ≤ h ∧ h ≤ 10)
theorem dec_true {p : Prop} [Decidable p] (h : p) : true = decide p := (decide_eq_true h).symm
theorem dec_false {p : Prop} [Decidable p] (h : ¬ p) : false = decide p := (decide_eq_false h).symm
set_option maxHeartbeats 400000 in
theorem isize (w0 h0 : Int) (w : World) : Calls Tryd.prog 64 #[.int .i64 w0, .int .i64 h0] w fun e w' => e = .returned (.bool (sizeB w0 h0)) ∧ w' = w := by
  have e : sizeB w0 h0 = (decide (2 ≤ w0) && (decide (w0 ≤ 24) && (decide (2 ≤ h0) && decide (h0 ≤ 10)))) := by unfold sizeB; simp only [Bool.decide_and]
  rw [e]
  clear e
  by_cases h1 : 2 ≤ w0
  · by_cases h2 : w0 ≤ 24
    · by_cases h3 : 2 ≤ h0
      · by_cases h4 : h0 ≤ 10
        all_goals
          go_enter Tryd.func64, Tryd.ntmps64
          go_wp2_with fail
          go_ret
          exact ⟨ret_bool (by simp [*] <;> omega), rfl⟩
      · go_enter Tryd.func64, Tryd.ntmps64
        go_wp2_with fail
        go_ret
        exact ⟨ret_bool (by simp [*] <;> omega), rfl⟩
    · go_enter Tryd.func64, Tryd.ntmps64
      go_wp2_with fail
      go_ret
      exact ⟨ret_bool (by simp [*] <;> omega), rfl⟩
  · go_enter Tryd.func64, Tryd.ntmps64
    go_wp2_with fail
    go_ret
    exact ⟨ret_bool (by simp [*] <;> omega), rfl⟩
end Go.Proofs.YtoplijjddhecgaaDoor

/- Commands: what a right one is. -/
namespace Go.Proofs.YtoplijjddhecgaaDoor
open Go.ChangeShapes Go.WideShapes Go.ChangeAt Go.RowKit
def wnB (s : ByteArray) : Bool := decide (s.size ≤ 12) && nameB s
def jst (p n ep : Int) (r : Bool) (nm dt : ByteArray) (p2 n2 ep2 : Int) (r2 : Bool) (nm2 dt2 : ByteArray) : Bool := decide (p = p2 ∧ n = n2 ∧ ep = ep2 ∧ r = r2 ∧ nm.toList = nm2.toList ∧ dt.toList = dt2.toList)
def isWindowB (p n ep : Int) (r : Bool) (nm dt : ByteArray) : Bool := jst p n ep r nm dt 0 0 0 false nm ⟨#[]⟩ && wnB nm
def isSplitB (p n ep : Int) (r : Bool) (nm dt : ByteArray) : Bool := jst p n ep r nm dt p 0 0 r ⟨#[]⟩ ⟨#[]⟩ && inB p 1 1000
def isKillB (p n ep : Int) (r : Bool) (nm dt : ByteArray) : Bool := jst p n ep r nm dt p 0 0 false ⟨#[]⟩ ⟨#[]⟩ && inB p 1 1000
def isMoveB (p n ep : Int) (r : Bool) (nm dt : ByteArray) : Bool := jst p n ep r nm dt p n 0 false ⟨#[]⟩ ⟨#[]⟩ && (inB p 1 1000 && (inB n (-100) 100))
def isOutputB (p n ep : Int) (r : Bool) (nm dt : ByteArray) : Bool := jst p n ep r nm dt p 0 ep false ⟨#[]⟩ dt && (inB p 1 1000 && (inB ep 1 60000 && (inB dt.size 1 200)))
def isOwnB (p n ep : Int) (r : Bool) (nm dt : ByteArray) : Bool := jst p n ep r nm dt p n 0 false ⟨#[]⟩ ⟨#[]⟩ && (inB p 1 1000 && (inB n 0 200))
def isResizeB (p n ep : Int) (r : Bool) (nm dt : ByteArray) : Bool := jst p n ep r nm dt 0 n ep false ⟨#[]⟩ ⟨#[]⟩ && sizeB n ep
def isRenameB (p n ep : Int) (r : Bool) (nm dt : ByteArray) : Bool := jst p n ep r nm dt 0 0 0 false nm dt && (wnB nm && (wnB dt))
def kindB (k p n ep : Int) (r : Bool) (nm dt : ByteArray) : Bool :=
  if k = 1 then isWindowB p n ep r nm dt else if k = 2 then isSplitB p n ep r nm dt else if k = 3 then isKillB p n ep r nm dt else if k = 4 then isMoveB p n ep r nm dt else if k = 5 then isOutputB p n ep r nm dt else if k = 6 then isOwnB p n ep r nm dt else if k = 7 then isResizeB p n ep r nm dt else if k = 8 then isRenameB p n ep r nm dt else false
def cmdB (k cl sq p n ep : Int) (r : Bool) (nm dt : ByteArray) : Bool := inB cl 0 200 && (inB sq 1 60000 && kindB k p n ep r nm dt)
end Go.Proofs.YtoplijjddhecgaaDoor
