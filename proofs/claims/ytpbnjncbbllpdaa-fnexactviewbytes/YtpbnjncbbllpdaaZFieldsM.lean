/- Fields as bytes: the plain mathematics. -/
import Derived.Test.YtpbnjncbbllpdaaZNumM
import Derived.Test.YtpbnjncbbllpdaaZStrS
namespace Go.Proofs.Ytpbnjncbbllpdaa
open Go.ChangeShapes Go.WideShapes Go.ChangeAt Go.RowKit
def fieldB (s : ByteArray) : List UInt8 := be s.size 2 ++ s.data.toList
def fieldsL (l : List ByteArray) : List UInt8 := l.flatMap fieldB
def fsum (l : List ByteArray) : Nat := 1 + (fieldsL l).length
theorem fieldB_len (s : ByteArray) : (fieldB s).length = 2 + s.size := by unfold fieldB; rw [List.length_append, be_len, Array.length_toList]; rfl
theorem fieldsL_snoc (l : List ByteArray) (k : Nat) (h : k < l.length) : fieldsL (l.take (k + 1)) = fieldsL (l.take k) ++ fieldB l[k] := by
  unfold fieldsL; rw [List.take_succ_eq_append_getElem h, List.flatMap_append]; simp
theorem fsum_snoc (l : List ByteArray) (k : Nat) (h : k < l.length) : fsum (l.take (k + 1)) = fsum (l.take k) + (2 + l[k].size) := by
  unfold fsum; rw [fieldsL_snoc l k h, List.length_append, fieldB_len]; omega
theorem fsum_mono (l : List ByteArray) (k : Nat) : fsum (l.take k) ≤ fsum l := by
  have : fieldsL l = fieldsL (l.take k) ++ fieldsL (l.drop k) := by unfold fieldsL; rw [← List.flatMap_append, List.take_append_drop]
  unfold fsum; rw [this, List.length_append]; omega
def shortB (l : List ByteArray) : Bool := l.all fun s => decide (s.size ≤ 20000)
def allShort (l : List ByteArray) : Prop := ∀ k (h : k < l.length), l[k].size ≤ 20000
theorem shortB_iff (l : List ByteArray) : shortB l = true ↔ allShort l := by
  unfold shortB allShort
  rw [List.all_eq_true]
  constructor
  · intro h k hk; exact of_decide_eq_true (h _ (List.getElem_mem hk))
  · intro h x hx
    obtain ⟨k, hk, rfl⟩ := List.getElem_of_mem hx
    exact decide_eq_true (h k hk)
def ffC (l : List ByteArray) : Int := if 60 < l.length then 6 else if shortB l then (if 65536 < fsum l then 7 else 0) else 4
def fbC (l : List ByteArray) : Int := if 4096 < l.length then 2 else ffC l
def fbL (l : List ByteArray) : List UInt8 := if 60 < l.length then [] else if shortB l then (if 65536 < fsum l then [] else be l.length 1 ++ fieldsL l) else []
theorem fb_long {l : List ByteArray} (h : 4096 < l.length) : fbL l = [] ∧ fbC l = 2 := by unfold fbL fbC; rw [if_pos h, if_pos (by omega)]; exact ⟨rfl, rfl⟩
theorem ff_many {l : List ByteArray} (h : 60 < l.length) : ffC l = 6 := by unfold ffC; rw [if_pos h]
theorem ff_range {l : List ByteArray} (h : ¬ 60 < l.length) (h2 : ¬ allShort l) : ffC l = 4 := by
  have h3 : ¬ shortB l = true := fun e => h2 ((shortB_iff l).1 e); unfold ffC; rw [if_neg h, if_neg h3]
theorem ff_full {l : List ByteArray} (h : ¬ 60 < l.length) (h2 : allShort l) (h3 : 65536 < fsum l) : ffC l = 7 := by
  unfold ffC; rw [if_neg h, if_pos ((shortB_iff l).2 h2), if_pos h3]
theorem ff_ok {l : List ByteArray} (h : ¬ 60 < l.length) (h2 : allShort l) (h3 : ¬ 65536 < fsum l) : ffC l = 0 := by
  unfold ffC; rw [if_neg h, if_pos ((shortB_iff l).2 h2), if_neg h3]
theorem fb_many {l : List ByteArray} (h0 : ¬ 4096 < l.length) (h : 60 < l.length) : fbL l = [] ∧ fbC l = 6 := by
  refine ⟨?_, by unfold fbC; rw [if_neg h0, ff_many h]⟩; unfold fbL; rw [if_pos h]
theorem fb_range {l : List ByteArray} (h : ¬ 60 < l.length) (h2 : ¬ allShort l) : fbL l = [] ∧ fbC l = 4 := by
  refine ⟨?_, by unfold fbC; rw [if_neg (by omega), ff_range h h2]⟩
  have h3 : ¬ shortB l = true := fun e => h2 ((shortB_iff l).1 e); unfold fbL; rw [if_neg h, if_neg h3]
theorem fb_full {l : List ByteArray} (h : ¬ 60 < l.length) (h2 : allShort l) (h3 : 65536 < fsum l) : fbL l = [] ∧ fbC l = 7 := by
  refine ⟨?_, by unfold fbC; rw [if_neg (by omega), ff_full h h2 h3]⟩; unfold fbL; rw [if_neg h, if_pos ((shortB_iff l).2 h2), if_pos h3]
theorem fb_ok {l : List ByteArray} (h : ¬ 60 < l.length) (h2 : allShort l) (h3 : ¬ 65536 < fsum l) : fbL l = be l.length 1 ++ fieldsL l ∧ fbC l = 0 := by
  refine ⟨?_, by unfold fbC; rw [if_neg (by omega), ff_ok h h2 h3]⟩; unfold fbL; rw [if_neg h, if_pos ((shortB_iff l).2 h2), if_neg h3]
theorem nil_own8 (w : World) (base : Nat) (t : TypeId) : w.ownsRow base t 1 (.slice none 0 0) ([] : List UInt8).length (B8 []) := World.ownsRow_nil w base t 1
end Go.Proofs.Ytpbnjncbbllpdaa
