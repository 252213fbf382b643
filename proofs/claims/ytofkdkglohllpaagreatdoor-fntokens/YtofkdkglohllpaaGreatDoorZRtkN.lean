/- ReadToken. Plain mathematics: what a text says that is a token. -/
import Derived.Test.YtofkdkglohllpaaGreatDoorZRtkM
namespace Go.Proofs.YtofkdkglohllpaaGreatDoor
open Go.ChangeShapes Go.WideShapes Go.ChangeAt Go.RowKit
set_option linter.unusedVariables false
def Rd (t : ByteArray) (c : Int) (win : ByteArray) (n : Int) (M : ByteArray) : Prop := tokB c win n = true ∧ t = (hdT c win n ++ ⟨#[32]⟩) ++ M ∧ (32 : UInt8) ∉ M.data.toList
def tokL : List UInt8 := [116, 111, 107, 101, 110]
theorem isSp_hi {b : UInt8} (h : 48 ≤ b.toNat) : Lib.isSp b = false := by
  unfold Lib.isSp
  simp only [Bool.or_eq_false_iff, beq_eq_false_iff_ne]
  refine ⟨⟨⟨⟨⟨?_, ?_⟩, ?_⟩, ?_⟩, ?_⟩, ?_⟩ <;> (rintro rfl; exact absurd h (by decide))
/-- Bytes that are no space, no blank, and below 128; one at least. -/
def Plain (l : List UInt8) : Prop := l ≠ [] ∧ ∀ b ∈ l, b.toNat < 128 ∧ b ≠ 32 ∧ Lib.isSp b = false
theorem Plain.no {l : List UInt8} (h : Plain l) : (32 : UInt8) ∉ l := fun hm => (h.2 32 hm).2.1 rfl
theorem zt_plain {n : Int} (h0 : -1 ≤ n) (h1 : n ≤ 200) : Plain (zt n).data.toList := by
  have h := (zz3_all ⟨(n + 1).toNat, by omega⟩).2.1
  have e : (zt n).data.toList = zz3 (n + 1).toNat := by unfold zt; rw [zz3_eq n h0 h1]
  rw [e]
  refine ⟨h.2, fun b hb => ?_⟩
  have h2 := List.all_eq_true.1 h.1 b hb
  simp only [Bool.and_eq_true, decide_eq_true_eq, Bool.not_eq_true'] at h2
  exact h2
theorem zt_nv {n : Int} (h0 : -1 ≤ n) (h1 : n ≤ 200) : nvB (zt n).data.toList = true ∧ nvV (zt n).data.toList = n := by
  have h := (zz3_all ⟨(n + 1).toNat, by omega⟩).1
  have e : (zt n).data.toList = zz3 (n + 1).toNat := by unfold zt; rw [zz3_eq n h0 h1]
  rw [e]
  refine ⟨h.1, h.2.trans ?_⟩
  show (((n + 1).toNat : Nat) : Int) - 1 = n
  omega
theorem nv_eq {s : ByteArray} (h : nvB s.data.toList = true) : zt (nvV s.data.toList) = s := by
  unfold zt
  rw [nv_zt h]
theorem win_plain {win : ByteArray} (h : wnB win = true) : Plain win.data.toList := by
  unfold wnB nameB at h
  simp only [Bool.and_eq_true, decide_eq_true_eq] at h
  obtain ⟨-, h0, -, -, h1⟩ := h
  refine ⟨fun e => ?_, fun b hb => ?_⟩
  · have : win.data.toList.length = win.size := Array.length_toList
    rw [e] at this
    simp at this
    omega
  · obtain ⟨i, hi, rfl⟩ := List.mem_iff_getElem.1 hb
    have hi' : i < win.size := by have : win.data.toList.length = win.size := Array.length_toList; omega
    have h2 := h1 i hi'
    rw [← bAt_of win i hi'] at h2
    have e : win.data.toList[i] = win[i] := by simp; rfl
    rw [e]
    unfold wordB letB digB at h2
    simp only [Bool.or_eq_true, decide_eq_true_eq] at h2
    have h3 : 48 ≤ win[i].toNat := by omega
    have h4 : win[i].toNat < 128 := by omega
    exact ⟨h4, fun e => by rw [e] at h3; exact absurd h3 (by decide), isSp_hi h3⟩
theorem tok_plain : Plain tokL := by
  refine ⟨by decide, fun b hb => ?_⟩
  simp only [tokL, List.mem_cons, List.not_mem_nil, or_false] at hb
  rcases hb with rfl | rfl | rfl | rfl | rfl <;> decide
theorem tokB_parts {c : Int} {win : ByteArray} {n : Int} (h : tokB c win n = true) : Plain (zt c).data.toList ∧ Plain win.data.toList ∧ Plain (zt n).data.toList := by
  obtain ⟨h0, h1, h2, h3, h4⟩ := tok_parts h
  unfold tokB at h
  simp only [Bool.and_eq_true] at h
  exact ⟨zt_plain (by omega) h1, win_plain h.2.1, zt_plain h3 (by omega)⟩
theorem hd_list (c : Int) (win : ByteArray) (n : Int) : (hdT c win n).data.toList = tokL ++ 32 :: ((zt c).data.toList ++ 32 :: (win.data.toList ++ 32 :: (zt n).data.toList)) := by
  unfold hdT bjS bjL tokT tokL
  simp
theorem rd_list {t : ByteArray} {c : Int} {win : ByteArray} {n : Int} {M : ByteArray} (h : Rd t c win n M) : t.data.toList = tokL ++ 32 :: ((zt c).data.toList ++ 32 :: (win.data.toList ++ 32 :: ((zt n).data.toList ++ 32 :: M.data.toList))) := by
  rw [h.2.1]
  simp [hd_list]
theorem rd_cut {t : ByteArray} {c : Int} {win : ByteArray} {n : Int} {M : ByteArray} (h : Rd t c win n M) : cutS t.data.toList = [tokL, (zt c).data.toList, win.data.toList, (zt n).data.toList, M.data.toList] := by
  obtain ⟨p1, p2, p3⟩ := tokB_parts h.1
  rw [rd_list h, cutS_app _ tok_plain.no, cutS_app _ p1.no, cutS_app _ p2.no, cutS_app _ p3.no, cutS_one _ h.2.2]
theorem ba_eq {a b : ByteArray} (h : a.data.toList = b.data.toList) : a = b := by
  apply ByteArray.ext; exact Array.toList_inj.1 h
theorem cut_rd {t p1 p2 p3 p4 : ByteArray} (h : cutS t.data.toList = [tokL, p1.data.toList, p2.data.toList, p3.data.toList, p4.data.toList]) (h1 : nvB p1.data.toList = true) (h3 : nvB p3.data.toList = true) (hk : tokB (nvV p1.data.toList) p2 (nvV p3.data.toList) = true) : Rd t (nvV p1.data.toList) p2 (nvV p3.data.toList) p4 := by
  have hj := join_cut t.data.toList
  rw [h] at hj
  refine ⟨hk, ba_eq ?_, cut_no t.data.toList _ (by rw [h]; simp)⟩
  rw [← hj]
  simp only [ByteArray.data_append, Array.toList_append, hd_list, nv_eq h1, nv_eq h3]
  simp [joinB]
theorem fg_word (p : List UInt8) (h : ∀ b ∈ p, Lib.isSp b = false) : ∀ (cur l : List UInt8), Lib.fieldsGo cur (p ++ l) = Lib.fieldsGo (cur ++ p) l := by
  induction p with
  | nil => intro cur l; simp
  | cons b p ih =>
    intro cur l
    rw [List.cons_append, Lib.fieldsGo_more _ _ _ (h b (List.mem_cons_self ..)), ih (fun x hx => h x (List.mem_cons_of_mem _ hx))]
    simp
theorem fg_step {p : List UInt8} (h : Plain p) (l : List UInt8) : Lib.fieldsGo [] (p ++ 32 :: l) = p :: Lib.fieldsGo [] l := by
  rw [fg_word p (fun b hb => (h.2 b hb).2.2), List.nil_append, Lib.fieldsGo_end _ _ _ (by decide) h.1]
theorem fg_last {p : List UInt8} (h : Plain p) : Lib.fieldsGo [] p = [p] := by
  have e := fg_word p (fun b hb => (h.2 b hb).2.2) [] []
  rw [List.append_nil, List.nil_append] at e
  rw [e]
  have := h.1
  cases p with
  | nil => exact absurd rfl this
  | cons b p => simp [Lib.fieldsGo]
theorem fields_hd {c : Int} {win : ByteArray} {n : Int} (h : tokB c win n = true) : Lib.fields (hdT c win n).data.toList = [tokL, (zt c).data.toList, win.data.toList, (zt n).data.toList] := by
  obtain ⟨p1, p2, p3⟩ := tokB_parts h
  rw [hd_list]
  unfold Lib.fields
  rw [fg_step tok_plain, fg_step p1, fg_step p2, fg_last p3]
theorem hd_ascii {c : Int} {win : ByteArray} {n : Int} (h : tokB c win n = true) : ∀ (j : Nat) (b : UInt8), (hdT c win n).data.toList[j]? = some b → b.toNat < 128 := by
  obtain ⟨p1, p2, p3⟩ := tokB_parts h
  intro j b hb
  have hm := List.mem_of_getElem? hb
  rw [hd_list] at hm
  simp only [List.mem_append, List.mem_cons] at hm
  rcases hm with hm | rfl | hm | rfl | hm | rfl | hm
  · exact (tok_plain.2 b hm).1
  · decide
  · exact (p1.2 b hm).1
  · decide
  · exact (p2.2 b hm).1
  · decide
  · exact (p3.2 b hm).1
/-- The place of the last blank. -/
theorem last_rd {t : ByteArray} {c : Int} {win : ByteArray} {n : Int} {M : ByteArray} (h : Rd t c win n M) : Lib.lastIndexByte t 32 = ((hdT c win n).size : Int) := by
  have ht := h.2.1
  have hn := h.2.2
  have hl : (hdT c win n).data.toList.length = (hdT c win n).size := Array.length_toList
  have hat : t.data.toList = (hdT c win n).data.toList ++ 32 :: M.data.toList := by rw [ht]; simp
  have hsz : t.size = (hdT c win n).size + 1 + M.size := by
    rw [ht, ByteArray.size_append, ByteArray.size_append]; rfl
  generalize (hdT c win n).size = k at hl hsz ⊢
  generalize (hdT c win n).data.toList = L at hl hat
  have hg : ∀ j, j < t.size → t.data[j]! = t.data.toList.getD j 0 := by
    intro j hj
    rw [getElem!_pos t.data j hj, List.getD_eq_getElem?_getD, Array.getElem?_toList, Array.getElem?_eq_getElem hj]; rfl
  rcases Lib.lastIndexByte_spec t 32 with ⟨h1, h2⟩ | ⟨i, h1, h2, h3, h4⟩
  · exfalso
    apply h2 k (by omega)
    rw [hg k (by omega), hat, List.getD_eq_getElem?_getD, List.getElem?_append_right (by omega), hl]
    simp
  · rw [h2]
    by_cases e : i = k
    · rw [e]
    exfalso
    rcases Nat.lt_or_gt_of_ne e with e | e
    · apply h4 k e (by omega)
      rw [hg k (by omega), hat, List.getD_eq_getElem?_getD, List.getElem?_append_right (by omega), hl]
      simp
    · rw [hg i h1, hat, List.getD_eq_getElem?_getD, List.getElem?_append_right (by omega), hl] at h3
      obtain ⟨q, rfl⟩ : ∃ q, i = k + 1 + q := ⟨i - (k + 1), by omega⟩
      rw [show k + 1 + q - k = q + 1 by omega, List.getElem?_cons_succ] at h3
      have hq : q < M.data.toList.length := by have : M.data.toList.length = M.size := Array.length_toList; omega
      rw [List.getElem?_eq_getElem hq] at h3
      apply hn
      have h5 : M.data.toList[q] = 32 := by
        apply UInt8.toNat_inj.1
        have : ((M.data.toList[q].toNat : Nat) : Int) = 32 := h3
        show M.data.toList[q].toNat = 32
        omega
      rw [← h5]
      exact List.getElem_mem hq
/-- What is behind the last blank bears none. -/
theorem last_no {t : ByteArray} {k : Nat} (h : Lib.lastIndexByte t 32 = (k : Int)) : k < t.size ∧ t = (t.extract 0 k ++ ⟨#[32]⟩) ++ t.extract (k + 1) t.size ∧ (32 : UInt8) ∉ (t.extract (k + 1) t.size).data.toList := by
  have hg : ∀ j (hj : j < t.size), t.data[j]! = t.data.toList[j]'(by have : t.data.toList.length = t.size := Array.length_toList; omega) := by
    intro j hj
    rw [getElem!_pos t.data j hj]; simp
  have hl : t.data.toList.length = t.size := Array.length_toList
  rcases Lib.lastIndexByte_spec t 32 with ⟨h1, h2⟩ | ⟨i, h1, h2, h3, h4⟩
  · rw [h1] at h; omega
  obtain rfl : i = k := by rw [h2] at h; omega
  rw [hg i h1] at h3
  have h5 : t.data.toList[i]'(by omega) = 32 := by
    apply UInt8.toNat_inj.1
    show _ = 32
    omega
  refine ⟨h1, ba_eq ?_, ?_⟩
  · simp only [ByteArray.data_append, Array.toList_append, ByteArray.data_extract, Array.toList_extract, List.extract_eq_take_drop]
    rw [show t.size - (i + 1) = t.data.toList.length - (i + 1) by omega, Nat.sub_zero, List.drop_zero]
    rw [List.take_of_length_le (l := List.drop (i + 1) t.data.toList) (by simp)]
    have h6 := List.take_append_drop i t.data.toList
    rw [List.drop_eq_getElem_cons (by omega : i < t.data.toList.length), h5] at h6
    rw [List.append_assoc]
    exact h6.symm
  · simp only [ByteArray.data_extract, Array.toList_extract, List.extract_eq_take_drop]
    intro hm
    have hm2 := List.mem_of_mem_take hm
    obtain ⟨q, hq, e⟩ := List.mem_iff_getElem.1 hm2
    rw [List.length_drop] at hq
    rw [List.getElem_drop] at e
    have := h4 (i + 1 + q) (by omega) (by omega)
    rw [hg (i + 1 + q) (by omega), e] at this
    exact this rfl
end Go.Proofs.YtofkdkglohllpaaGreatDoor
