/- A token. Plain mathematics. -/
import Derived.Test.YtagjhbogidldjaaDoorTokM
namespace Go.Proofs.YtagjhbogidldjaaDoor
open Go.ChangeShapes Go.WideShapes Go.ChangeAt Go.RowKit
set_option linter.unusedVariables false
def issT (key : ByteArray) (c : Int) (win : ByteArray) (n : Int) : ByteArray := bjS (hdT c win n) [mkT key c win n]
theorem issT_spec (key : ByteArray) (c : Int) (win : ByteArray) (n : Int) : issT key c win n = (hdT c win n ++ ⟨#[32]⟩) ++ mkT key c win n := by
  unfold issT bjS bjL
  apply ByteArray.ext
  apply Array.toList_inj.1
  simp
theorem mkT_size (key : ByteArray) (c : Int) (win : ByteArray) (n : Int) : (mkT key c win n).size = 32 := by
  unfold mkT
  have h : (hexT (hmacB key (hdT c win n))).size = 64 := by
    show (hexL _).toArray.size = 64
    rw [List.size_toArray, hexL_len, show (hmacB key (hdT c win n)).data.toList.length = (hmacB key (hdT c win n)).size from Array.length_toList]
    rw [show (hmacB key (hdT c win n)).size = 32 from hash_size _]
  rw [ByteArray.size_extract, h]; rfl
def itkS (key : ByteArray) (c : Int) (win : ByteArray) (n : Int) : ByteArray := if tmL key win then ⟨#[]⟩ else if tokB c win n then issT key c win n else ⟨#[]⟩
end Go.Proofs.YtagjhbogidldjaaDoor
