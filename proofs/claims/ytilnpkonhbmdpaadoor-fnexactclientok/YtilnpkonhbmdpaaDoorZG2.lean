/- Texts put together: InM WnM. -/
import Derived.Test.YtilnpkonhbmdpaaDoorZBase
import Derived.Test.YtilnpkonhbmdpaaDoorZNameT
/- Numbers within bounds, texts of bytes within bounds, runes. Plain mathematics. -/
namespace Go.Proofs.YtilnpkonhbmdpaaDoor
open Go.ChangeShapes Go.WideShapes Go.ChangeAt Go.RowKit
theorem b_true {p : Prop} [Decidable p] (h : p) : true = decide p := (decide_eq_true h).symm
theorem b_false {p : Prop} [Decidable p] (h : ¬ p) : false = decide p := (decide_eq_false h).symm
def inB (n a b : Int) : Bool := decide (a ≤ n ∧ n ≤ b)
def byteIn (c : UInt8) : Bool := inB (c.toNat : Int) 32 126
def allText (t : List UInt8) : Bool := t.all byteIn
def titleB (t : List UInt8) : Bool := decide (t.length ≤ 40) && allText t
def runeB (n : Int) : Bool := decide (32 ≤ n ∧ n ≤ 1114111 ∧ n ≠ 127 ∧ ¬ (55296 ≤ n ∧ n ≤ 57343))
end Go.Proofs.YtilnpkonhbmdpaaDoor

/- A window's name. -/
namespace Go.Proofs.YtilnpkonhbmdpaaDoor
open Go.ChangeShapes Go.WideShapes Go.ChangeAt Go.RowKit
def wnB (s : ByteArray) : Bool := decide (s.size ≤ 12) && nameB s
end Go.Proofs.YtilnpkonhbmdpaaDoor
