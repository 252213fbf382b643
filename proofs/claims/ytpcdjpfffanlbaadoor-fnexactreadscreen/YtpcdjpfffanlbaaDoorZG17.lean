/- Texts put together: IntS ReadNumM. -/
import Derived.Test.YtpcdjpfffanlbaaDoorZRowV
import Derived.Test.YtpcdjpfffanlbaaDoorZNumM
/- Rows of integers: the laws' own helpers. -/
namespace Go.Proofs.YtpcdjpfffanlbaaDoor
open Go.ChangeShapes Go.WideShapes Go.ChangeAt Go.RowKit
def cI (l : List Int) : List Value := l.map fun c => .int .i64 (c)
theorem cI_app (l m : List Int) : cI (l ++ m) = cI l ++ cI m := by simp [cI]
theorem cI_one (l : List Int) : ∀ u ∈ cI l, u.oneCell' = true := by
 intro u hu; simp [cI] at hu; obtain ⟨c, _, rfl⟩ := hu; rfl

end Go.Proofs.YtpcdjpfffanlbaaDoor

/- Bytes read as numbers: the plain mathematics. -/
namespace Go.Proofs.YtpcdjpfffanlbaaDoor
open Go.ChangeShapes Go.WideShapes Go.ChangeAt Go.RowKit
def chunk (l : List UInt8) (k : Nat) : List UInt8 := (l.drop (3 * k)).take 3
def numsR (l : List UInt8) (n : Nat) : List Int := (List.range n).map fun k => ((ofBE (chunk l k) : Nat) : Int) - 1
theorem numsR_len (l : List UInt8) (n : Nat) : (numsR l n).length = n := by simp [numsR]
theorem numsR_snoc (l : List UInt8) (k : Nat) : numsR l (k + 1) = numsR l k ++ [((ofBE (chunk l k) : Nat) : Int) - 1] := by
 unfold numsR; rw [List.range_succ, List.map_append]; rfl
def rnL (l : List UInt8) : List Int := if 65536 < l.length then [] else if l.length % 3 = 0 then (if 4096 < l.length / 3 then [] else numsR l (l.length / 3)) else []
def rnC (l : List UInt8) : Int := if 65536 < l.length then 2 else if l.length % 3 = 0 then (if 4096 < l.length / 3 then 6 else 0) else 3
theorem rn_long {l : List UInt8} (h : 65536 < l.length) : rnL l = [] ∧ rnC l = 2 := by unfold rnL rnC; rw [if_pos h, if_pos h]; exact ⟨rfl, rfl⟩
theorem rn_form {l : List UInt8} (h : ¬ 65536 < l.length) (h2 : ¬ l.length % 3 = 0) : rnL l = [] ∧ rnC l = 3 := by unfold rnL rnC; rw [if_neg h, if_neg h, if_neg h2, if_neg h2]; exact ⟨rfl, rfl⟩
theorem rn_many {l : List UInt8} (h : ¬ 65536 < l.length) (h2 : l.length % 3 = 0) (h3 : 4096 < l.length / 3) : rnL l = [] ∧ rnC l = 6 := by unfold rnL rnC; rw [if_neg h, if_neg h, if_pos h2, if_pos h2, if_pos h3, if_pos h3]; exact ⟨rfl, rfl⟩
theorem rn_ok {l : List UInt8} (h : ¬ 65536 < l.length) (h2 : l.length % 3 = 0) (h3 : ¬ 4096 < l.length / 3) : rnL l = numsR l (l.length / 3) ∧ rnC l = 0 := by unfold rnL rnC; rw [if_neg h, if_neg h, if_pos h2, if_pos h2, if_neg h3, if_neg h3]; exact ⟨rfl, rfl⟩
theorem nil_ownI (w : World) (base : Nat) (t : TypeId) : w.ownsRow base t 1 (.slice none 0 0) ([] : List Int).length (cI []) := World.ownsRow_nil w base t 1
theorem lit_emptyI (w : World) (base : Nat) (t : TypeId) (hb : base ≤ w.heap.size) : (w.alloc (.cells #[] t)).ownsRow base t 1 (.slice (some ⟨w.heap.size, 0, none⟩) 0 0) ([] : List Int).length (cI []) :=
 World.ownsRow_lit w #[] 0 hb (by decide) rfl
theorem own_appI {w : World} {base : Nat} {e : TypeId} {v : Value} {l m : List Int} {n : Nat} (h : w.ownsRow base e 1 v (l.length + n) (cI l ++ cI m)) (hn : m.length = n) : w.ownsRow base e 1 v (l ++ m).length (cI (l ++ m)) := by
 rw [cI_app, List.length_append, hn]; exact h
end Go.Proofs.YtpcdjpfffanlbaaDoor
