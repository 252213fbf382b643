/- Texts put together: TokM IssM CliM. -/
import Derived.Test.YtilnpkonhbmdpaaDoorZG2
import Derived.Test.YtilnpkonhbmdpaaDoorZG16
import Derived.Test.YtilnpkonhbmdpaaDoorZItoI
/- Tokens: plain mathematics. -/
namespace Go.Proofs.YtilnpkonhbmdpaaDoor
open Go.ChangeShapes Go.WideShapes Go.ChangeAt Go.RowKit
set_option linter.unusedVariables false
/-- Texts with a blank ahead of each but the first. -/
def bjL (x : List UInt8) (m : List ByteArray) : List UInt8 := x ++ m.flatMap fun t => 32 :: t.data.toList
def bjS (x : ByteArray) (m : List ByteArray) : ByteArray := ⟨(bjL x.data.toList m).toArray⟩
theorem bjL_snoc (x : List UInt8) (m : List ByteArray) (k : Nat) (h : k < m.length) : bjL x (m.take (k + 1)) = bjL x (m.take k) ++ [32] ++ m[k].data.toList := by
  unfold bjL
  rw [List.take_add_one, List.getElem?_eq_getElem h, Option.toList_some, List.flatMap_append, List.flatMap_singleton]
  simp
theorem bjL_len (x : List UInt8) (m : List ByteArray) (Y : Nat) (h : ∀ k (h : k < m.length), m[k].size ≤ Y) (k : Nat) : (bjL x (m.take k)).length ≤ x.length + k * (Y + 1) := by
  induction k with
  | zero => simp [bjL]
  | succ k ih =>
    by_cases hk : k < m.length
    · rw [bjL_snoc x m k hk]
      have e := h k hk
      have e2 : m[k].data.toList.length = m[k].size := Array.length_toList
      simp only [List.length_append, List.length_cons, List.length_nil]
      rw [e2, Nat.add_mul]
      omega
    · rw [List.take_of_length_le (by omega)]
      rw [List.take_of_length_le (by omega)] at ih
      rw [Nat.add_mul]; omega
def tokT : ByteArray := ⟨#[116, 111, 107, 101, 110]⟩
def blkT : ByteArray := ⟨#[32]⟩
/-- What the mark is of. -/
def hdT (c : Int) (win : ByteArray) (n : Int) : ByteArray := bjS tokT [zt c, win, zt n]
theorem hdT_spec (c : Int) (win : ByteArray) (n : Int) : ((((⟨#[116, 111, 107, 101, 110, 32]⟩ : ByteArray) ++ zt c) ++ blkT) ++ win) ++ blkT ++ zt n = hdT c win n := by
  unfold hdT bjS bjL tokT blkT
  apply ByteArray.ext
  apply Array.toList_inj.1
  simp
def tokB (c : Int) (win : ByteArray) (n : Int) : Bool := inB c 0 200 && (wnB win && inB n (-1) 60)
theorem tok_parts {c : Int} {win : ByteArray} {n : Int} (h : tokB c win n = true) : 0 ≤ c ∧ c ≤ 200 ∧ win.size ≤ 12 ∧ -1 ≤ n ∧ n ≤ 60 := by
  unfold tokB wnB inB at h
  simp only [Bool.and_eq_true, decide_eq_true_eq] at h
  omega
theorem hdT_size {c : Int} {win : ByteArray} {n : Int} (h : tokB c win n = true) : (hdT c win n).size ≤ 60 := by
  obtain ⟨h0, h1, h2, h3, h4⟩ := tok_parts h
  rw [← hdT_spec]
  simp only [ByteArray.size_append]
  have e1 := zt_size (n := c) (by omega) (by omega)
  have e2 := zt_size (n := n) (by omega) (by omega)
  have e3 : (⟨#[116, 111, 107, 101, 110, 32]⟩ : ByteArray).size = 6 := rfl
  have e4 : blkT.size = 1 := rfl
  omega
/-- A hash's first 32 digits. -/
def hexT (H : ByteArray) : ByteArray := ⟨(hexL H.data.toList).toArray⟩
def mkT (key : ByteArray) (c : Int) (win : ByteArray) (n : Int) : ByteArray := (hexT (hmacB key (hdT c win n))).extract 0 32
def tmL (key : ByteArray) (win : ByteArray) : Bool := decide (65536 < key.size ∨ 65536 < win.size)
def tmS (key : ByteArray) (c : Int) (win : ByteArray) (n : Int) : ByteArray := if tmL key win then ⟨#[]⟩ else if tokB c win n then mkT key c win n else ⟨#[]⟩
def tmC (key : ByteArray) (c : Int) (win : ByteArray) (n : Int) : Int := if tmL key win then 2 else if tokB c win n then 0 else 1
end Go.Proofs.YtilnpkonhbmdpaaDoor

/- A token. Plain mathematics. -/
namespace Go.Proofs.YtilnpkonhbmdpaaDoor
open Go.ChangeShapes Go.WideShapes Go.ChangeAt Go.RowKit
set_option linter.unusedVariables false
def issT (key : ByteArray) (c : Int) (win : ByteArray) (n : Int) : ByteArray := bjS (hdT c win n) [mkT key c win n]
theorem issT_spec (key : ByteArray) (c : Int) (win : ByteArray) (n : Int) : issT key c win n = (hdT c win n ++ ⟨#[32]⟩) ++ mkT key c win n := by
  unfold issT bjS bjL
  apply ByteArray.ext
  apply Array.toList_inj.1
  simp
theorem mkT_size (key : ByteArray) (c : Int) (win : ByteArray) (n : Int) : (mkT key c win n).size = 32 := by
  unfold mkT
  have h : (hexT (hmacB key (hdT c win n))).size = 64 := by
    show (hexL _).toArray.size = 64
    rw [List.size_toArray, hexL_len, show (hmacB key (hdT c win n)).data.toList.length = (hmacB key (hdT c win n)).size from Array.length_toList]
    rw [show (hmacB key (hdT c win n)).size = 32 from hash_size _]
  rw [ByteArray.size_extract, h]; rfl
def itkS (key : ByteArray) (c : Int) (win : ByteArray) (n : Int) : ByteArray := if tmL key win then ⟨#[]⟩ else if tokB c win n then issT key c win n else ⟨#[]⟩
end Go.Proofs.YtilnpkonhbmdpaaDoor

/- A new client. Plain mathematics. -/
namespace Go.Proofs.YtilnpkonhbmdpaaDoor
open Go.ChangeShapes Go.WideShapes Go.ChangeAt Go.RowKit
set_option linter.unusedVariables false
/-- What a new client is, told once: its token S and the code q as IssueToken's. -/
def NcIs (key : ByteArray) (id : Int) (win : ByteArray) (id2 : Int) (win2 S : ByteArray) (nb2 q : Int) : Prop :=
  S = itkS key id win (-1) ∧ q = tmC key id win (-1) ∧ (q = 0 → id2 = id ∧ win2 = win ∧ nb2 = -1) ∧ (q ≠ 0 → id2 = 0 ∧ win2 = ⟨#[]⟩ ∧ nb2 = 0)
theorem tm_parts {key : ByteArray} {c : Int} {win : ByteArray} {n : Int} (h : tmC key c win n = 0) : tmL key win = false ∧ tokB c win n = true := by
  unfold tmC at h
  split at h
  · cases h
  · split at h
    · refine ⟨by simp_all, by assumption⟩
    · cases h
end Go.Proofs.YtilnpkonhbmdpaaDoor
