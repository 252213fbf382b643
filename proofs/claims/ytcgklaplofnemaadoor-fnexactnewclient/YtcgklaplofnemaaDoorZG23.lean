/- Texts put together: IssM CliM. -/
import Derived.Test.YtcgklaplofnemaaDoorZTokM
/- A token. Plain mathematics. -/
namespace Go.Proofs.YtcgklaplofnemaaDoor
open Go.ChangeShapes Go.WideShapes Go.ChangeAt Go.RowKit
set_option linter.unusedVariables false
def issT (key : ByteArray) (c : Int) (win : ByteArray) (n : Int) : ByteArray := bjS (hdT c win n) [mkT key c win n]
theorem issT_spec (key : ByteArray) (c : Int) (win : ByteArray) (n : Int) : issT key c win n = (hdT c win n ++ ⟨#[32]⟩) ++ mkT key c win n := by
  unfold issT bjS bjL
  apply ByteArray.ext
  apply Array.toList_inj.1
  simp
theorem mkT_size (key : ByteArray) (c : Int) (win : ByteArray) (n : Int) : (mkT key c win n).size = 32 := by
  unfold mkT
  have h : (hexT (hmacB key (hdT c win n))).size = 64 := by
    show (hexL _).toArray.size = 64
    rw [List.size_toArray, hexL_len, show (hmacB key (hdT c win n)).data.toList.length = (hmacB key (hdT c win n)).size from Array.length_toList]
    rw [show (hmacB key (hdT c win n)).size = 32 from hash_size _]
  rw [ByteArray.size_extract, h]; rfl
def itkS (key : ByteArray) (c : Int) (win : ByteArray) (n : Int) : ByteArray := if tmL key win then ⟨#[]⟩ else if tokB c win n then issT key c win n else ⟨#[]⟩
end Go.Proofs.YtcgklaplofnemaaDoor

/- A new client. Plain mathematics. -/
namespace Go.Proofs.YtcgklaplofnemaaDoor
open Go.ChangeShapes Go.WideShapes Go.ChangeAt Go.RowKit
set_option linter.unusedVariables false
/-- What a new client is, told once: its token S and the code q as IssueToken's. -/
def NcIs (key : ByteArray) (id : Int) (win : ByteArray) (id2 : Int) (win2 S : ByteArray) (nb2 q : Int) : Prop :=
  S = itkS key id win (-1) ∧ q = tmC key id win (-1) ∧ (q = 0 → id2 = id ∧ win2 = win ∧ nb2 = -1) ∧ (q ≠ 0 → id2 = 0 ∧ win2 = ⟨#[]⟩ ∧ nb2 = 0)
theorem nc_ex (key : ByteArray) (id : Int) (win : ByteArray) : ∃ id2 win2 S nb2 q, NcIs key id win id2 win2 S nb2 q := by
  by_cases h : tmC key id win (-1) = 0
  · exact ⟨id, win, _, -1, _, rfl, rfl, fun _ => ⟨rfl, rfl, rfl⟩, fun h' => absurd h h'⟩
  · exact ⟨0, ⟨#[]⟩, _, 0, _, rfl, rfl, fun h' => absurd h' h, fun _ => ⟨rfl, rfl, rfl⟩⟩
theorem itk_no {key : ByteArray} {c : Int} {win : ByteArray} {n : Int} (h : tmC key c win n ≠ 0) : itkS key c win n = ⟨#[]⟩ := by
  unfold itkS
  unfold tmC at h
  split
  · rfl
  · rename_i h2
    rw [if_neg h2] at h
    split
    · rename_i h3; rw [if_pos h3] at h; exact absurd rfl h
    · rfl
theorem tok_m1 (c : Int) (win : ByteArray) : tokB c win 0 = tokB c win (-1) := by
  unfold tokB
  rw [show inB 0 (-1) 60 = inB (-1) (-1) 60 from by unfold inB; decide]
theorem tml_parts {key win : ByteArray} (h : tmL key win = false) : key.size ≤ 65536 ∧ win.size ≤ 65536 := by
  unfold tmL at h
  have := of_decide_eq_false h
  omega
end Go.Proofs.YtcgklaplofnemaaDoor
