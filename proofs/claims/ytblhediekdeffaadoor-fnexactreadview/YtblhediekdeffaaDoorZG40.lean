/- Texts put together: ReadNumS InS CelS SizeT. -/
import Derived.Test.YtblhediekdeffaaDoorZG27
import Derived.Test.YtblhediekdeffaaDoorZNumS
import Derived.Test.YtblhediekdeffaaDoorZG5
/- ReadNumbers: what the specification answers at every row of bytes. -/
namespace Go.Proofs.YtblhediekdeffaaDoor
open Go.ChangeShapes Go.WideShapes Go.ChangeAt Go.RowKit
theorem Tryd.infQ3 : (Tryd.prog.info? 3).map (fun i => (i.zero, i.size, i.bytes)) = some (some (.int .i64 0), 1, 8) := by kernel_rfl
theorem sub_list (s : ByteArray) (i j : Nat) : (s.extract i j).data.toList = (s.data.toList.drop i).take (j - i) := by
  simp
theorem sub_size (s : ByteArray) (i j : Nat) (h : j ≤ s.size) : (s.extract i j).size = j - i := by
  rw [ByteArray.size_extract]; omega
set_option maxHeartbeats 400000 in
set_option maxRecDepth 100000 in
theorem sreadnums30 (s : ByteArray) (n : Nat) (hn : s.size = 3 * n) (hn4 : n ≤ 21845) (w : World) :
    Calls Tryd.prog 21 #[.string s] w fun e w' => ∃ v', e = .returned (.tuple #[v', .bool true]) ∧ w'.ownsRow w.heap.size 3 1 v' (numsR s.data.toList n).length (cI (numsR s.data.toList n)) ∧ Below w.heap.size w w' := by
  obtain ⟨i0, hi, hz0, hz1, hz2⟩ := info_parts Tryd.infQ3
  obtain ⟨l, hl⟩ : ∃ l, l = s.data.toList := ⟨_, rfl⟩
  rw [← hl]
  have HL := hide hl
  have HN := hide hn
  have t1 : ((s.size : Int) % 3 != 0) = false := by rw [bne_eq_false_iff_eq]; omega
  have t2 : ((s.size : Int).tmod 3 != 0) = false := by rw [Int.tmod_eq_emod_of_nonneg (by omega), bne_eq_false_iff_eq]; omega
  have hs : s.size ≤ 65535 := by omega
  clear hl hn
  go_enter Tryd.func21, Tryd.ntmps21
  go_wp2_with fail
  go_loopw [4, 5] (fun v i wr => ∃ (k j : Nat) (m : List Int), k ≤ n ∧ Hid (j = 3 * k) ∧ i = .int .i64 j ∧ Hid (m = numsR l k) ∧ m.length ≤ 21845 ∧ Hid (wr.ownsRow w.heap.size 3 1 v m.length (cI m)) ∧ Hid (Below w.heap.size w wr)) (fun _ i _ => s.size - (intOf i).toNat)
  case atStart => exact ⟨0, 0, [], by omega, rfl, rfl, rfl, by simp, lit_emptyI _ _ _ (Nat.le_refl _), (Below.refl _ _).alloc (Nat.le_refl _) _⟩
  case round =>
    obtain ⟨k, j, m, hk, HJ, rfl, HM, hm, HO, HB⟩ := hrel
    have ej := unhide HJ
    have en := unhide HN
    by_cases hlt : k < n
    · have hj1 : (j : Int) < (s.size : Int) := by omega
      obtain ⟨b_, hbb⟩ : ∃ b_, b_ = j + 3 := ⟨_, rfl⟩
      have a4 : (j : Int) + 3 = (b_ : Int) := by omega
      have a5 : (0 : Int) ≤ (b_ : Int) := by omega
      have a6 : (b_ : Int) ≤ (s.size : Int) := by omega
      have a7 : j ≤ b_ := by omega
      have a8 : b_ - j = 3 := by omega
      have a9 : (j : Int) ≤ 1048576 := by omega
      have hm' : m.length ≤ k := by rw [unhide HM, numsR_len]; omega
      have HBB : Hid (b_ = 3 * (k + 1)) := by show _ = _; omega
      have HP : Hid ((s.extract j b_).data.toList = chunk l k) := by show _ = _; rw [sub_list, ← unhide HL, a8, ej]; rfl
      have HPS : Hid ((s.extract j b_).size = 3) := by show _ = _; rw [sub_size _ _ _ (by omega), a8]
      obtain ⟨y, hy⟩ : ∃ y : Nat, y = ofBE (s.extract j b_).data.toList := ⟨_, rfl⟩
      have hy2 : y < 16777216 := by have := ofBE_lt (s.extract j b_).data.toList 3; rw [List.take_of_length_le (by rw [Array.length_toList]; exact Nat.le_of_eq (unhide HPS)), ← hy] at this; exact this
      have HS : Hid (numsR l (k + 1) = m ++ [(y : Int) - 1]) := by show _ = _; rw [numsR_snoc, unhide HM, hy, unhide HP]
      have hy3 : (y : Int) ≤ 16777216 := by omega
      have HY := hide hy
      have hown := unhide HO
      have hz := (unhide HB).size
      clear ej en hbb HO hy hy2
      go_wp2_with (first | (go_at_call 35; have h3 := snumberOf (s.extract j b_) (by rw [unhide HPS]; decide) wr; rw [← unhide HY] at h3; refine h3.mono ?_; clear h3; rintro e w2 ⟨rfl, hw⟩; subst w2) | (at_builtin; refine wpList_append_lies _ rfl (.tmp 18) (.tmp 26) 46 rfl w.heap.size 3 i0 (.int .i64 0) 1 8 Tryd.underlying46 hi hz0 hz1 hz2 rfl (by decide) _ _ _ rfl (hown.alloc _) ⟨wr.heap.size, 0, none⟩ 1 1 (cI [(y : Int) - 1]) rfl rfl (by exact news_new wr (cI [(y : Int) - 1]) 3) (cI_one _) (by decide) (by unfold maxLen; omega) (by omega) (by simp; omega) _ rfl ?_; intro g2 c2 w2 hown2 hgrow2 hat2 hlt2; have HB2 := hide (below_app (unhide HB) (by omega) hown (Nat.le_refl _) hgrow2); have HO2 := hide (own_appI (l := m) (m := [(y : Int) - 1]) hown2 rfl); clear hown2 hgrow2 hat2 hlt2 hown HB))
      go_roundw
      case rel => exact ⟨k + 1, b_, m ++ [(y : Int) - 1], by omega, unhide HBB, by go_num, (unhide HS).symm, by rw [List.length_append]; simp; omega, HO2, HB2⟩
      case measure => simp [intOf]; omega
    · have ek : k = n := by omega
      have hj1 : ¬ (j : Int) < (s.size : Int) := by omega
      rw [ek] at HM
      clear ej en
      go_wp2_with fail
      go_ret2
      rw [← unhide HM]
      exact ⟨_, rfl, unhide HO, unhide HB⟩
theorem sreadform30 (s : ByteArray) (hn : ¬ s.size % 3 = 0) (hs : s.size ≤ 65536) (w : World) :
    Calls Tryd.prog 21 #[.string s] w fun e w' => ∃ v', e = .returned (.tuple #[v', .bool false]) ∧ Below w.heap.size w w' := by
  have t1 : ((s.size : Int) % 3 != 0) = true := by rw [bne_iff_ne]; omega
  have t2 : ((s.size : Int).tmod 3 != 0) = true := by rw [Int.tmod_eq_emod_of_nonneg (by omega), bne_iff_ne]; omega
  clear hn
  go_enter Tryd.func21, Tryd.ntmps21
  go_wp2_with fail
  go_ret2
  exact ⟨_, rfl, (Below.refl _ _).alloc (Nat.le_refl _) _⟩
end Go.Proofs.YtblhediekdeffaaDoor

/- l01In, l03RuneOK: what the specification answers. -/
namespace Go.Proofs.YtblhediekdeffaaDoor
open Go.ChangeShapes Go.WideShapes Go.ChangeAt Go.RowKit
set_option linter.unusedVariables false
theorem rune_parts (n : Int) : runeB n = (inB n 0 1114111 && !(inB n 55296 57343) && decide (32 ≤ n) && (n != 127)) := by
  unfold runeB inB; rw [Bool.eq_iff_iff]; simp; omega
set_option maxHeartbeats 400000 in
set_option maxRecDepth 100000 in
theorem sin (n a b : Int) (w : World) : Calls Tryd.prog 22 #[.int .i64 n, .int .i64 a, .int .i64 b] w fun e w' => e = .returned (.bool (inB n a b)) ∧ w' = w := by
  by_cases h : a ≤ n
  · by_cases h2 : n ≤ b
    · go_enter Tryd.func22, Tryd.ntmps22
      go_wp2_with fail
      go_ret
      exact ⟨ret_bool (b_true ⟨h, h2⟩), rfl⟩
    · go_enter Tryd.func22, Tryd.ntmps22
      go_wp2_with fail
      go_ret
      exact ⟨ret_bool (b_false (by omega)), rfl⟩
  · go_enter Tryd.func22, Tryd.ntmps22
    go_wp2_with fail
    go_ret
    exact ⟨ret_bool (b_false (by omega)), rfl⟩
set_option maxHeartbeats 400000 in
set_option maxRecDepth 100000 in
theorem sruneok (n : Int) (w : World) : Calls Tryd.prog 61 #[.int .i64 n] w fun e w' => e = .returned (.bool (inB n 0 1114111 && !(inB n 55296 57343))) ∧ w' = w := by
  cases h : inB n 0 1114111 <;> cases h2 : inB n 55296 57343
  all_goals
    go_enter Tryd.func61, Tryd.ntmps61
    go_wp2_with (go_at_call 22; refine (sin _ _ _ _).mono ?_; rintro e w2 ⟨rfl, hw⟩; subst w2; first | rw [h] | rw [h2])
    go_ret
    exact ⟨rfl, rfl⟩
end Go.Proofs.YtblhediekdeffaaDoor

/- A right cell: what the specification answers. -/
namespace Go.Proofs.YtblhediekdeffaaDoor
open Go.ChangeShapes Go.WideShapes Go.ChangeAt Go.RowKit
set_option linter.unusedVariables false
set_option maxHeartbeats 400000 in
set_option maxRecDepth 100000 in
theorem scell (x y : Int) (w : World) : Calls Tryd.prog 52 #[.agg #[.int .i64 x, .int .i64 y]] w fun e w' => e = .returned (.bool (runeB x && inB y 0 127)) ∧ Below w.heap.size w w' := by
  have HB := hide ((Below.refl w.heap.size w).alloc (Nat.le_refl _) (.cells #[.int .i64 x, .int .i64 y] 92))
  obtain ⟨r, hr⟩ : ∃ r, r = (inB x 0 1114111 && !(inB x 55296 57343)) := ⟨_, rfl⟩
  have HR := hide hr
  have hp := rune_parts x
  rw [← hr] at hp
  rw [hp]
  clear hr hp
  have A := fun w => (sruneok x w)
  rw [← unhide HR] at A
  have HA := hide A
  clear A
  cases r
  · go_enter Tryd.func52, Tryd.ntmps52
    go_wp2_with (go_at_call 61; refine (unhide HA _).mono ?_; rintro e w2 ⟨rfl, rfl⟩)
    go_ret
    exact ⟨rfl, unhide HB⟩
  · by_cases h1 : 32 ≤ x
    · by_cases h2 : x = 127
      · subst h2
        go_enter Tryd.func52, Tryd.ntmps52
        go_wp2_with (go_at_call 61; refine (unhide HA _).mono ?_; rintro e w2 ⟨rfl, rfl⟩)
        go_ret
        exact ⟨ret_bool (by simp), unhide HB⟩
      · have h3 : (x != 127) = true := by simpa using h2
        have h4 : decide (32 ≤ x) = true := decide_eq_true h1
        rw [h3, h4]
        clear h2
        cases h5 : inB y 0 127
        all_goals
          go_enter Tryd.func52, Tryd.ntmps52
          go_wp2_with (first | (go_at_call 61; refine (unhide HA _).mono ?_; rintro e w2 ⟨rfl, rfl⟩) | (go_at_call 22; refine (sin _ _ _ _).mono ?_; rintro e w2 ⟨rfl, rfl⟩; rw [h5]))
          go_ret
          exact ⟨rfl, unhide HB⟩
    · have h4 : decide (32 ≤ x) = false := decide_eq_false h1
      rw [h4]
      go_enter Tryd.func52, Tryd.ntmps52
      go_wp2_with (go_at_call 61; refine (unhide HA _).mono ?_; rintro e w2 ⟨rfl, rfl⟩)
      go_ret
      exact ⟨ret_bool (by simp), unhide HB⟩
end Go.Proofs.YtblhediekdeffaaDoor

/- l04Size: a screen's size, what the specification answers. -/
namespace Go.Proofs.YtblhediekdeffaaDoor
open Go.ChangeShapes Go.WideShapes Go.ChangeAt Go.RowKit
theorem size_in (a b : Int) : sizeB a b = (inB a 2 24 && inB b 2 10) := by
  unfold sizeB inB; simp only [Bool.decide_and]; cases decide (2 ≤ a) <;> cases decide (a ≤ 24) <;> simp
set_option maxHeartbeats 400000 in
theorem ssize (w0 h0 : Int) (w : World) : Calls Tryd.prog 36 #[.int .i64 w0, .int .i64 h0] w fun e w' => e = .returned (.bool (sizeB w0 h0)) ∧ w' = w := by
  rw [size_in]
  cases h1 : inB w0 2 24 <;> cases h2 : inB h0 2 10
  all_goals
    go_enter Tryd.func36, Tryd.ntmps36
    go_wp2_with (go_at_call 22; refine (sin _ _ _ _).mono ?_; rintro e w1 ⟨rfl, rfl⟩; first | rw [h1] | rw [h2])
    go_ret
    exact ⟨rfl, rfl⟩
end Go.Proofs.YtblhediekdeffaaDoor
