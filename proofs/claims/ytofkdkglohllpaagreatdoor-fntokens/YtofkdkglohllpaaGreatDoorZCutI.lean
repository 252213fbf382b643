/- l00Cut: what the specification answers. -/
import Derived.Test.YtofkdkglohllpaaGreatDoorZRtkN
import Derived.Lib.SmallJoins
namespace Go.Proofs.YtofkdkglohllpaaGreatDoor
open Go.ChangeShapes Go.WideShapes Go.ChangeAt Go.RowKit
set_option linter.unusedVariables false
theorem ext_snoc (t : ByteArray) (f k : Nat) (hf : f ≤ k) (hk : k < t.size) : (t.extract f (k + 1)).data.toList = (t.extract f k).data.toList ++ [t[k]] := by
  have hl : t.data.toList.length = t.size := Array.length_toList
  simp only [ByteArray.data_extract, Array.toList_extract, List.extract_eq_take_drop]
  rw [show k + 1 - f = (k - f) + 1 by omega, List.take_add_one, List.getElem?_drop, show f + (k - f) = k by omega, List.getElem?_eq_getElem (by omega)]
  simp; rfl
theorem drop_at8 (t : ByteArray) (k : Nat) (hk : k < t.size) : t.data.toList.drop k = t[k] :: t.data.toList.drop (k + 1) := by
  have hl : t.data.toList.length = t.size := Array.length_toList
  rw [List.drop_eq_getElem_cons (by omega)]
  simp; rfl
theorem map_inj_ba : ∀ {a b : List ByteArray}, a.map (fun x => x.data.toList) = b.map (fun x => x.data.toList) → a = b
  | [], [], _ => rfl
  | [], _ :: _, h => by simp at h
  | _ :: _, [], h => by simp at h
  | x :: a, y :: b, h => by
    simp only [List.map_cons, List.cons.injEq] at h
    rw [ba_eq h.1, map_inj_ba h.2]
def cutH (t : ByteArray) (m : List ByteArray) (f k : Nat) : Prop := m.map (fun x => x.data.toList) ++ pre (t.extract f k).data.toList (cutS (t.data.toList.drop k)) = cutS t.data.toList
theorem cutH_zero (t : ByteArray) : cutH t [] 0 0 := by
  unfold cutH
  rw [show (t.extract 0 0).data.toList = [] by simp, pre_nil (cutS_ne _)]; rfl
theorem cutH_blank {t : ByteArray} {m : List ByteArray} {f k : Nat} (h : cutH t m f k) (hf : f ≤ k) (hk : k < t.size) (hb : (t[k].toNat : Int) = 32) : cutH t (m ++ [t.extract f k]) (k + 1) (k + 1) := by
  unfold cutH at *
  have e : t[k] = 32 := by apply UInt8.toNat_inj.1; show t[k].toNat = 32; omega
  rw [drop_at8 t k hk, e, cut_blank] at h
  rw [← h, show (t.extract (k + 1) (k + 1)).data.toList = [] by simp, List.map_append]; rfl
theorem cutH_more {t : ByteArray} {m : List ByteArray} {f k : Nat} (h : cutH t m f k) (hf : f ≤ k) (hk : k < t.size) (hb : ¬ (t[k].toNat : Int) = 32) : cutH t m f (k + 1) := by
  unfold cutH at *
  have e : t[k] ≠ 32 := fun e => hb (by rw [e]; rfl)
  rw [drop_at8 t k hk, cut_more _ _ _ _ e] at h
  rw [← h, ext_snoc t f k hf hk]
theorem cutH_end {t : ByteArray} {m L : List ByteArray} {f : Nat} (h : cutH t m f t.size) (hL : L.map (fun x => x.data.toList) = cutS t.data.toList) : L = m ++ [t.extract f t.size] := by
  unfold cutH at h
  have hl : t.data.toList.length = t.size := Array.length_toList
  rw [List.drop_of_length_le (by omega), cut_end] at h
  apply map_inj_ba
  rw [hL, ← h, List.map_append]; rfl
set_option maxHeartbeats 4000000 in
set_option maxRecDepth 100000 in
theorem scutB (t : ByteArray) (HS : Hid (t.size ≤ 65536)) (L : List ByteArray) (HL : Hid (L.map (fun x => x.data.toList) = cutS t.data.toList)) (w : World) :
    Calls Tryz.prog 39 #[.string t, .int .u8 32] w fun e w' => ∃ v, e = .returned v ∧ w'.ownsRow w.heap.size 9 1 v L.length (cS L) ∧ Below w.heap.size w w' := by
  obtain ⟨i0, hi, hz0, hz1, hz2⟩ := info_parts Tryz.infL9
  go_enter Tryz.func39, Tryz.ntmps39
  go_wp2_with fail
  go_loopw [5, 6, 7] (fun v f0 i wr => ∃ (k f : Nat) (m : List ByteArray), k ≤ t.size ∧ f ≤ k ∧ i = .int .i64 (k : Int) ∧ f0 = .int .i64 (f : Int) ∧ m.length ≤ k ∧ Hid (cutH t m f k) ∧ Hid (wr.ownsRow w.heap.size 9 1 v m.length (cS m)) ∧ Hid (Below w.heap.size w wr)) (fun _ _ i _ => t.size - (intOf i).toNat)
  case atStart => exact ⟨0, 0, [], by omega, by omega, rfl, rfl, by simp, cutH_zero t, World.ownsRow_lit _ #[] 0 (Nat.le_refl _) (by decide) rfl, (Below.refl _ _).alloc (Nat.le_refl _) _⟩
  case round =>
    obtain ⟨k, f, m, hk, hf, rfl, rfl, hm, HC, HO, HB⟩ := hrel
    have h6 := unhide HS
    have hz := (unhide HB).size
    have hown := unhide HO
    have ff : (f : Int) ≤ (k : Int) := by omega
    have f0 : ¬ (f : Int) < 0 := by omega
    by_cases hlt : k < t.size
    · have hlt' : (k : Int) < (t.size : Int) := by omega
      have kle : (k : Int) ≤ (t.size : Int) := by omega
      by_cases hb : (t[k].toNat : Int) = 32
      · have hb' : ((t[k].toNat : Int) == 32) = true := by simp [hb]
        have HC2 := hide (cutH_blank (unhide HC) hf hlt hb)
        obtain ⟨x, hx⟩ : ∃ x, t.extract f k = x := ⟨_, rfl⟩
        rw [hx] at HC2
        have HX := hide hx
        clear hb HC
        go_wp2_with (at_builtin; refine wpList_append_lies _ rfl (.tmp 20) (.tmp 25) 48 rfl w.heap.size 9 i0 (.string ⟨#[]⟩) 1 16 Tryz.underlying48 hi hz0 hz1 hz2 rfl (by decide) _ _ _ rfl (hown.alloc (.cells #[.string x] 9)) ⟨wr.heap.size, 0, none⟩ 1 1 [.string x] rfl rfl (by have := news_new wr [.string x] 9; exact this) (by intro u hu; simp at hu; subst hu; rfl) (by decide) (by unfold maxLen; omega) (by omega) (by simp; omega) _ rfl ?_; intro g7 c7 w7 hown7 hgrow7 hat7 hlt7; have HO7 := hide hown7; have HB7 := hide (((unhide HB).alloc hz (.cells #[.string x] 9)).grown hgrow7 (by simp; omega) (fun j hj => by have := (hown.lt j hj).1; omega)); clear hown7 hgrow7 hat7 hlt7)
        go_roundw
        case rel =>
          refine ⟨k + 1, k + 1, m ++ [x], by omega, by omega, by go_num, by go_num, by simp; omega, HC2, ?_, HB7⟩
          have h7 := unhide HO7
          show World.ownsRow _ _ _ _ _ _ _
          rw [List.length_append, show cS (m ++ [x]) = cS m ++ [.string x] by simp [cS]]
          exact h7
        case measure => simp [intOf]; omega
      · have hb' : ((t[k].toNat : Int) == 32) = false := by simp [hb]
        have HC2 := hide (cutH_more (unhide HC) hf hlt hb)
        clear hb HC hown
        go_wp2_with fail
        go_roundw
        case rel => exact ⟨k + 1, f, m, by omega, by omega, by go_num, rfl, by omega, HC2, HO, HB⟩
        case measure => simp [intOf]; omega
    · obtain rfl : k = t.size := by omega
      have HE := hide (cutH_end (unhide HC) (unhide HL))
      obtain ⟨x, hx⟩ : ∃ x, t.extract f t.size = x := ⟨_, rfl⟩
      rw [hx] at HE
      clear hlt HC
      go_wp2_with (at_builtin; refine wpList_append_lies _ rfl (.tmp 29) (.tmp 33) 48 rfl w.heap.size 9 i0 (.string ⟨#[]⟩) 1 16 Tryz.underlying48 hi hz0 hz1 hz2 rfl (by decide) _ _ _ rfl (hown.alloc (.cells #[.string x] 9)) ⟨wr.heap.size, 0, none⟩ 1 1 [.string x] rfl rfl (by have := news_new wr [.string x] 9; exact this) (by intro u hu; simp at hu; subst hu; rfl) (by decide) (by unfold maxLen; omega) (by omega) (by simp; omega) _ rfl ?_; intro g7 c7 w7 hown7 hgrow7 hat7 hlt7; have HO7 := hide hown7; have HB7 := hide (((unhide HB).alloc hz (.cells #[.string x] 9)).grown hgrow7 (by simp; omega) (fun j hj => by have := (hown.lt j hj).1; omega)); clear hown7 hgrow7 hat7 hlt7)
      go_ret
      refine ⟨_, rfl, ?_, unhide HB7⟩
      rw [unhide HE, List.length_append, show cS (m ++ [x]) = cS m ++ [.string x] by simp [cS]]
      exact unhide HO7
end Go.Proofs.YtofkdkglohllpaaGreatDoor
