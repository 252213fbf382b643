/- ReadNumbers: what the specification answers at every row of bytes. -/
import Derived.Test.YtpcdjpfffanlbaaDoorZG17
import Derived.Test.YtpcdjpfffanlbaaDoorZNumS
namespace Go.Proofs.YtpcdjpfffanlbaaDoor
open Go.ChangeShapes Go.WideShapes Go.ChangeAt Go.RowKit
theorem Tryd.infQ3 : (Tryd.prog.info? 3).map (fun i => (i.zero, i.size, i.bytes)) = some (some (.int .i64 0), 1, 8) := by kernel_rfl
theorem sub_list (s : ByteArray) (i j : Nat) : (s.extract i j).data.toList = (s.data.toList.drop i).take (j - i) := by
 simp
theorem sub_size (s : ByteArray) (i j : Nat) (h : j ≤ s.size) : (s.extract i j).size = j - i := by
 rw [ByteArray.size_extract]; omega
set_option maxHeartbeats 400000 in
set_option maxRecDepth 100000 in
theorem sreadnums30 (s : ByteArray) (n : Nat) (hn : s.size = 3 * n) (hn4 : n ≤ 21845) (w : World) :
  Calls Tryd.prog 23 #[.string s] w fun e w' => ∃ v', e = .returned (.tuple #[v', .bool true]) ∧ w'.ownsRow w.heap.size 3 1 v' (numsR s.data.toList n).length (cI (numsR s.data.toList n)) ∧ Below w.heap.size w w' := by
 obtain ⟨i0, hi, hz0, hz1, hz2⟩ := info_parts Tryd.infQ3
 obtain ⟨l, hl⟩ : ∃ l, l = s.data.toList := ⟨_, rfl⟩
 rw [← hl]
 have HL := hide hl
 have HN := hide hn
 have t1 : ((s.size : Int) % 3 != 0) = false := by rw [bne_eq_false_iff_eq]; omega
 have t2 : ((s.size : Int).tmod 3 != 0) = false := by rw [Int.tmod_eq_emod_of_nonneg (by omega), bne_eq_false_iff_eq]; omega
 have hs : s.size ≤ 65535 := by omega
 clear hl hn
 go_enter Tryd.func23, Tryd.ntmps23
 go_wp2_with fail
 go_loopw [4, 5] (fun v i wr => ∃ (k j : Nat) (m : List Int), k ≤ n ∧ Hid (j = 3 * k) ∧ i = .int .i64 j ∧ Hid (m = numsR l k) ∧ m.length ≤ 21845 ∧ Hid (wr.ownsRow w.heap.size 3 1 v m.length (cI m)) ∧ Hid (Below w.heap.size w wr)) (fun _ i _ => s.size - (intOf i).toNat)
 case atStart => exact ⟨0, 0, [], by omega, rfl, rfl, rfl, by simp, lit_emptyI _ _ _ (Nat.le_refl _), (Below.refl _ _).alloc (Nat.le_refl _) _⟩
 case round =>
  obtain ⟨k, j, m, hk, HJ, rfl, HM, hm, HO, HB⟩ := hrel
  have ej := unhide HJ
  have en := unhide HN
  by_cases hlt : k < n
  ·have hj1 : (j : Int) < (s.size : Int) := by omega
   obtain ⟨b_, hbb⟩ : ∃ b_, b_ = j + 3 := ⟨_, rfl⟩
   have a4 : (j : Int) + 3 = (b_ : Int) := by omega
   have a5 : (0 : Int) ≤ (b_ : Int) := by omega
   have a6 : (b_ : Int) ≤ (s.size : Int) := by omega
   have a7 : j ≤ b_ := by omega
   have a8 : b_ - j = 3 := by omega
   have a9 : (j : Int) ≤ 1048576 := by omega
   have hm' : m.length ≤ k := by rw [unhide HM, numsR_len]; omega
   have HBB : Hid (b_ = 3 * (k + 1)) := by show _ = _; omega
   have HP : Hid ((s.extract j b_).data.toList = chunk l k) := by show _ = _; rw [sub_list, ← unhide HL, a8, ej]; rfl
   have HPS : Hid ((s.extract j b_).size = 3) := by show _ = _; rw [sub_size _ _ _ (by omega), a8]
   obtain ⟨y, hy⟩ : ∃ y : Nat, y = ofBE (s.extract j b_).data.toList := ⟨_, rfl⟩
   have hy2 : y < 16777216 := by have := ofBE_lt (s.extract j b_).data.toList 3; rw [List.take_of_length_le (by rw [Array.length_toList]; exact Nat.le_of_eq (unhide HPS)), ← hy] at this; exact this
   have HS : Hid (numsR l (k + 1) = m ++ [(y : Int) - 1]) := by show _ = _; rw [numsR_snoc, unhide HM, hy, unhide HP]
   have hy3 : (y : Int) ≤ 16777216 := by omega
   have HY := hide hy
   have hown := unhide HO
   have hz := (unhide HB).size
   clear ej en hbb HO hy hy2
   go_wp2_with (first | (go_at_call 25; have h3 := snumberOf (s.extract j b_) (by rw [unhide HPS]; decide) wr; rw [← unhide HY] at h3; refine h3.mono ?_; clear h3; rintro e w2 ⟨rfl, hw⟩; subst w2) | (at_builtin; refine wpList_append_lies _ rfl (.tmp 18) (.tmp 26) 47 rfl w.heap.size 3 i0 (.int .i64 0) 1 8 Tryd.underlying47 hi hz0 hz1 hz2 rfl (by decide) _ _ _ rfl (hown.alloc _) ⟨wr.heap.size, 0, none⟩ 1 1 (cI [(y : Int) - 1]) rfl rfl (by exact news_new wr (cI [(y : Int) - 1]) 3) (cI_one _) (by decide) (by unfold maxLen; omega) (by omega) (by simp; omega) _ rfl ?_; intro g2 c2 w2 hown2 hgrow2 hat2 hlt2; have HB2 := hide (below_app (unhide HB) (by omega) hown (Nat.le_refl _) hgrow2); have HO2 := hide (own_appI (l := m) (m := [(y : Int) - 1]) hown2 rfl); clear hown2 hgrow2 hat2 hlt2 hown HB))
   go_roundw
   case rel => exact ⟨k + 1, b_, m ++ [(y : Int) - 1], by omega, unhide HBB, by go_num, (unhide HS).symm, by rw [List.length_append]; simp; omega, HO2, HB2⟩
   case measure => simp [intOf]; omega
  ·have ek : k = n := by omega
   have hj1 : ¬ (j : Int) < (s.size : Int) := by omega
   rw [ek] at HM
   clear ej en
   go_wp2_with fail
   go_ret2
   rw [← unhide HM]
   exact ⟨_, rfl, unhide HO, unhide HB⟩
theorem sreadform30 (s : ByteArray) (hn : ¬ s.size % 3 = 0) (hs : s.size ≤ 65536) (w : World) :
  Calls Tryd.prog 23 #[.string s] w fun e w' => ∃ v', e = .returned (.tuple #[v', .bool false]) ∧ Below w.heap.size w w' := by
 have t1 : ((s.size : Int) % 3 != 0) = true := by rw [bne_iff_ne]; omega
 have t2 : ((s.size : Int).tmod 3 != 0) = true := by rw [Int.tmod_eq_emod_of_nonneg (by omega), bne_iff_ne]; omega
 clear hn
 go_enter Tryd.func23, Tryd.ntmps23
 go_wp2_with fail
 go_ret2
 exact ⟨_, rfl, (Below.refl _ _).alloc (Nat.le_refl _) _⟩
end Go.Proofs.YtpcdjpfffanlbaaDoor
