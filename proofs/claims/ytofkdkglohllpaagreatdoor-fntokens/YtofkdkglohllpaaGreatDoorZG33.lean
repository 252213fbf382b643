/- Texts put together: IssM FtkM. -/
import Derived.Test.YtofkdkglohllpaaGreatDoorZG20
import Derived.Test.YtofkdkglohllpaaGreatDoorZG32
/- A token. Plain mathematics. -/
namespace Go.Proofs.YtofkdkglohllpaaGreatDoor
open Go.ChangeShapes Go.WideShapes Go.ChangeAt Go.RowKit
set_option linter.unusedVariables false
def issT (key : ByteArray) (c : Int) (win : ByteArray) (n : Int) : ByteArray := bjS (hdT c win n) [mkT key c win n]
theorem issT_spec (key : ByteArray) (c : Int) (win : ByteArray) (n : Int) : issT key c win n = (hdT c win n ++ ⟨#[32]⟩) ++ mkT key c win n := by
  unfold issT bjS bjL
  apply ByteArray.ext
  apply Array.toList_inj.1
  simp
theorem mkT_size (key : ByteArray) (c : Int) (win : ByteArray) (n : Int) : (mkT key c win n).size = 32 := by
  unfold mkT
  have h : (hexT (hmacB key (hdT c win n))).size = 64 := by
    show (hexL _).toArray.size = 64
    rw [List.size_toArray, hexL_len, show (hmacB key (hdT c win n)).data.toList.length = (hmacB key (hdT c win n)).size from Array.length_toList]
    rw [show (hmacB key (hdT c win n)).size = 32 from hash_size _]
  rw [ByteArray.size_extract, h]; rfl
def itkS (key : ByteArray) (c : Int) (win : ByteArray) (n : Int) : ByteArray := if tmL key win then ⟨#[]⟩ else if tokB c win n then issT key c win n else ⟨#[]⟩
end Go.Proofs.YtofkdkglohllpaaGreatDoor

/- FnTokens. Plain mathematics. -/
namespace Go.Proofs.YtofkdkglohllpaaGreatDoor
open Go.ChangeShapes Go.WideShapes Go.ChangeAt Go.RowKit
set_option linter.unusedVariables false
def mainT : ByteArray := ⟨#[109, 97, 105, 110]⟩
theorem main_name : wnB mainT = true := by
  unfold wnB
  rw [Bool.and_eq_true]
  refine ⟨by decide, name_yes (by decide) (by decide) (by decide +kernel) ?_⟩
  have h : ∀ k : Fin 4, wordB (bAt mainT k.val) = true := by decide +kernel
  intro i hi
  exact h ⟨i, hi⟩
theorem tok_main {c n : Int} (h0 : 0 ≤ c) (h1 : c ≤ 200) (h2 : -1 ≤ n) (h3 : n ≤ 60) : tokB c mainT n = true := by
  unfold tokB
  rw [main_name, in_yes ⟨h0, h1⟩, in_yes ⟨h2, h3⟩]; rfl
theorem hexL_no (l : List UInt8) : (32 : UInt8) ∉ hexL l := by
  have hd : ∀ k : Fin 256, ¬ (hexDig (k.val / 16) = 32 ∨ hexDig (k.val % 16) = 32) := by decide +kernel
  intro h
  unfold hexL at h
  obtain ⟨b, _, hb⟩ := List.mem_flatMap.1 h
  have := hd ⟨b.toNat, b.toNat_lt⟩
  unfold hexTwo at hb
  simp only [List.mem_cons, List.not_mem_nil, or_false] at hb
  exact this (by rcases hb with h | h; exact .inl h.symm; exact .inr h.symm)
theorem mkT_no (key : ByteArray) (c : Int) (win : ByteArray) (n : Int) : (32 : UInt8) ∉ (mkT key c win n).data.toList := by
  intro h
  unfold mkT hexT at h
  simp only [ByteArray.data_extract, Array.toList_extract, List.extract_eq_take_drop] at h
  exact hexL_no _ (List.mem_of_mem_drop (List.mem_of_mem_take h))
theorem rd_issue {key : ByteArray} {c : Int} {win : ByteArray} {n : Int} (h : tokB c win n = true) : RdOk key (issT key c win n) c win n 0 :=
  ⟨c, win, n, mkT key c win n, ⟨h, issT_spec key c win n, mkT_no key c win n⟩, .inl ⟨rfl, rfl, rfl, rfl, rfl⟩⟩
theorem iss_size (key : ByteArray) {c : Int} {win : ByteArray} {n : Int} (h : tokB c win n = true) : 33 ≤ (issT key c win n).size ∧ (issT key c win n).size ≤ 93 := by
  rw [issT_spec, ByteArray.size_append, ByteArray.size_append, mkT_size]
  have := hdT_size h
  have e : (⟨#[32]⟩ : ByteArray).size = 1 := rfl
  omega
theorem iss_tail (key : ByteArray) (c : Int) (win : ByteArray) (n : Int) (z : Nat) (hz : z = (issT key c win n).size - 32) : (issT key c win n).extract z (issT key c win n).size = mkT key c win n := by
  have hl : (issT key c win n).data.toList = ((hdT c win n).data.toList ++ [32]) ++ (mkT key c win n).data.toList := by rw [issT_spec]; simp
  have hs : (issT key c win n).size = ((hdT c win n).data.toList ++ [32]).length + 32 := by
    rw [issT_spec, ByteArray.size_append, ByteArray.size_append, mkT_size, List.length_append, show (hdT c win n).data.toList.length = (hdT c win n).size from Array.length_toList]; rfl
  have ht : (issT key c win n).data.toList.length = (issT key c win n).size := Array.length_toList
  apply ba_eq
  simp only [ByteArray.data_extract, Array.toList_extract, List.extract_eq_take_drop]
  rw [List.take_of_length_le (by rw [List.length_drop, ht]; exact Nat.le_refl _), hl]
  exact List.drop_left' (by omega)
theorem tms_ok {key : ByteArray} {c : Int} {win : ByteArray} {n : Int} (hk : key.size ≤ 65536) (hw : win.size ≤ 65536) (h : tokB c win n = true) : mkT key c win n = tmS key c win n ∧ 0 = tmC key c win n ∧ issT key c win n = itkS key c win n := by
  have hl : tmL key win = false := by unfold tmL; simp; omega
  unfold tmS tmC itkS
  rw [hl, h]
  exact ⟨rfl, rfl, rfl⟩
end Go.Proofs.YtofkdkglohllpaaGreatDoor
