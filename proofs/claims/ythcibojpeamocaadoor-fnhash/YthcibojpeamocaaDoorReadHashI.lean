/- Digits read as a hash: what the text of the program answers at every string. -/
import Derived.Test.YthcibojpeamocaaDoorReadHashM
namespace Go.Proofs.YthcibojpeamocaaDoor
open Go.ChangeShapes Go.WideShapes Go.ChangeAt Go.RowKit

set_option maxHeartbeats 400000 in
theorem digit20 (n : Int) (h0 : 0 ≤ n) (h1 : n ≤ 255) (w : World) :
    Calls Tryd.prog 29 #[.int .u8 n] w fun e w' => e = .returned (.bool (digB n)) ∧ w' = w := by
  have HV := hide (show digB n = decide (48 ≤ n ∧ n ≤ 57) from rfl)
  have hc : n < 48 ∨ (48 ≤ n ∧ n ≤ 57) ∨ 57 < n := by omega
  rcases hc with c | ⟨c, d⟩ | c
  all_goals
    go_enter Tryd.func29, Tryd.ntmps29
    go_wp2
    go_ret
    rw [unhide HV]
    exact ⟨ret_bool (by rw [Bool.eq_iff_iff]; simp <;> omega), rfl⟩

set_option maxHeartbeats 400000 in
theorem nib15 (n : Int) (h0 : 0 ≤ n) (h1 : n ≤ 255) (w : World) :
    Calls Tryd.prog 22 #[.int .u8 n] w fun e w' => e = .returned (.int .i64 (nib n)) ∧ w' = w := by
  have HV := hide (show nib n = if 48 ≤ n ∧ n ≤ 57 then n - 48 else if 97 ≤ n ∧ n ≤ 102 then n - 87 else -1 from rfl)
  have hc : n < 48 ∨ (48 ≤ n ∧ n ≤ 57) ∨ (57 < n ∧ n < 97) ∨ (97 ≤ n ∧ n ≤ 102) ∨ 102 < n := by omega
  have hd : digB n = decide (48 ≤ n ∧ n ≤ 57) := rfl
  rcases hc with c | ⟨c, d⟩ | ⟨c, d⟩ | ⟨c, d⟩ | c
  · have hd : digB n = false := by unfold digB; simp; omega
    go_enter Tryd.func22, Tryd.ntmps22
    go_wp2_with (go_at_call 29; refine (digit20 _ (by omega) (by omega) _).mono ?_; rintro e w' ⟨rfl, rfl⟩)
    go_ret
    rw [unhide HV]
    exact ⟨ret_int (by split <;> (try split) <;> omega), rfl⟩
  · have hd : digB n = true := by unfold digB; simp; omega
    go_enter Tryd.func22, Tryd.ntmps22
    go_wp2_with (go_at_call 29; refine (digit20 _ (by omega) (by omega) _).mono ?_; rintro e w' ⟨rfl, rfl⟩)
    go_ret
    rw [unhide HV]
    exact ⟨ret_int (by split <;> (try split) <;> omega), rfl⟩
  all_goals
    have hd : digB n = false := by unfold digB; simp; omega
    go_enter Tryd.func22, Tryd.ntmps22
    go_wp2_with (go_at_call 29; refine (digit20 _ (by omega) (by omega) _).mono ?_; rintro e w' ⟨rfl, rfl⟩)
    go_ret
    rw [unhide HV]
    exact ⟨ret_int (by split <;> (try split) <;> omega), rfl⟩

theorem make32 : ∃ cur : Array Value, cur.size = 32 ∧ ∀ w : World, (Instr.makeSlice 22 (.int .i64 0) (.int .i64 32)).run Tryd.prog w = .ok (.slice (some ⟨w.heap.size, 0, none⟩) 0 32) (w.alloc (.cells cur 5)) :=
  ⟨Array.replicate 32 (.int .u8 0), by simp, fun _ => by kernel_rfl⟩

set_option maxHeartbeats 800000 in
set_option maxRecDepth 100000 in
theorem read7 (s : ByteArray) (hs : s.size ≤ 1048576) (w : World) :
    Calls Tryd.prog 9 #[.string s] w fun e w' => e = .returned (.tuple #[.string (rdS s), .int .i64 (rdC s)]) ∧ Below w.heap.size w w' := by
  obtain ⟨i0, hi, hz0, hz1, hz2⟩ := info_parts Tryd.info5
  by_cases a : 65536 < s.size
  · have HV := hide (rd_long a)
    go_enter Tryd.func9, Tryd.ntmps9
    go_wp2_with fail
    go_ret2
    rw [(unhide HV).1, (unhide HV).2]
    exact ⟨rfl, Below.refl _ _⟩
  by_cases b : s.size = 64
  · have b2 : ((s.size : Int) != 64) = false := by simp; omega
    have HB := hide b
    have hlo : 64 ≤ s.size := by omega
    have hhi : s.size ≤ 64 := by omega
    clear b
    obtain ⟨cur, hcs, hmk⟩ := make32
    have HC := hide hcs
    clear hcs
    go_enter Tryd.func9, Tryd.ntmps9
    go_wp2_with fail
    go_loopw [4, 5] (fun v i wr => ∃ k j : Nat, k ≤ 32 ∧ Hid (j = 2 * k) ∧ i = .int .i64 j ∧ Hid (∀ q, q < k → pairOK s q) ∧ wr.ownsRow w.heap.size 5 1 v (rdL s k).length (B8 (rdL s k)) ∧ Below w.heap.size w wr) (fun _ i _ => 64 - (intOf i).toNat)
    case atStart => exact ⟨0, 0, by omega, rfl, rfl, fun q hq => absurd hq (Nat.not_lt_zero _), World.ownsRow_made _ cur 32 (Nat.le_refl _) (by decide) (by rw [unhide HC]), (Below.refl _ _).alloc (Nat.le_refl _) _⟩
    case round =>
      obtain ⟨k, j, hk, HJ, rfl, HP, hown, hb⟩ := hrel
      by_cases hlt : k < 32
      · have ej := unhide HJ
        have j0 : j < s.size := by omega
        have j1 : j + 1 < s.size := by omega
        have j0' : (j : Int) < (s.size : Int) := by omega
        have j1' : (j : Int) + 1 < (s.size : Int) := by omega
        have j2' : (0 : Int) ≤ (j : Int) + 1 := by omega
        have j3' : IntKind.i64.wrap ((j : Int) + 1) = (j : Int) + 1 := wrapi _ (by omega) (by omega)
        have x0 := bAt_bd s j
        have x1 := bAt_bd s (j + 1)
        have n0 := nib_bd (bAt s j)
        have n1 := nib_bd (bAt s (j + 1))
        have hz := hb.size
        obtain ⟨m, hm⟩ : ∃ m, m = rdL s k := ⟨_, rfl⟩
        rw [← hm] at hown
        have HM := hide hm
        have HL : m.length ≤ 32 := by rw [hm, rdL_len]; omega
        clear hm
        by_cases p0 : nib (bAt s j) < 0
        · have HV := hide (rd_form a (fun h => by have := (h.2 k (by omega)).1; rw [← ej] at this; omega))
          rw [← bAt_of s j j0] at x0 n0 p0
          rw [← bAt_of s (j + 1) j1] at x1 n1
          clear ej
          go_wp2_with fail
          go_region_held3 (fun _ => True) (trivial) (first | (go_at_call 22; refine (nib15 _ (by omega) (by omega) _).mono ?_; rintro e w' ⟨rfl, hw⟩; subst w'))
          all_goals
            go_wp2_with fail
            go_ret2
            rw [(unhide HV).1, (unhide HV).2]
            exact ⟨rfl, hb.drew⟩
        by_cases p1 : nib (bAt s (j + 1)) < 0
        · have HV := hide (rd_form a (fun h => by have := (h.2 k (by omega)).2; rw [← ej] at this; omega))
          rw [← bAt_of s j j0] at x0 n0 p0
          rw [← bAt_of s (j + 1) j1] at x1 n1 p1
          clear ej
          go_wp2_with fail
          go_region_held3 (fun _ => True) (trivial) (first | (go_at_call 22; refine (nib15 _ (by omega) (by omega) _).mono ?_; rintro e w' ⟨rfl, hw⟩; subst w'))
          all_goals
            go_wp2_with fail
            go_ret2
            rw [(unhide HV).1, (unhide HV).2]
            exact ⟨rfl, hb.drew⟩
        have HK : Hid (pairOK s k) := by show 0 ≤ nib (bAt s (2 * k)) ∧ 0 ≤ nib (bAt s (2 * k + 1)); rw [← ej]; omega
        have HQ := hide (pair_snoc (unhide HP) (unhide HK))
        have hv : bits BinOp.or IntKind.i64 (nib (s[j].toNat : Int) * 16) (nib (s[j + 1].toNat : Int)) % 256 = ((byteOf s k).toNat : Int) := by
          have := byte_val s k (unhide HK); rw [← ej] at this; rw [bAt_of s j j0, bAt_of s (j + 1) j1, or_nib _ _ (by omega) (by omega) (by omega) (by omega), this]; omega
        rw [← bAt_of s j j0] at x0 n0 p0
        rw [← bAt_of s (j + 1) j1] at x1 n1 p1
        clear ej
        go_wp2_with fail
        go_region_held3 (fun _ => True) (trivial) (first | (go_at_call 22; refine (nib15 _ (by omega) (by omega) _).mono ?_; rintro e w' ⟨rfl, hw⟩; subst w'))
        all_goals
          go_wp2_with (at_builtin; refine wpList_append_lies _ rfl _ _ 22 rfl w.heap.size 5 i0 (.int .u8 0) 1 1 Tryd.underlying22 hi hz0 hz1 hz2 rfl (by decide) _ _ _ rfl (by exact hown.alloc _) ⟨wr.heap.size, 0, none⟩ 1 1 (B8 [byteOf s k]) rfl rfl (by exact news_drew wr (B8 [byteOf s k]) 5) (B8_one _) (by decide) (by unfold maxLen; omega) (by omega) (by simp; omega) _ rfl ?_; intro g cap w1 hown1 hgrow1 hat1 hlt1; have R := read_rel (unhide HM) hown hb hown1 (undrew hgrow1); clear hown1 hgrow1 hown hb hat1 hlt1 hv)
          go_roundw
          case rel => exact ⟨k + 1, j + 2, by omega, by show j + 2 = 2 * (k + 1); have := unhide HJ; omega, by go_num, HQ, R.1, R.2⟩
          case measure => simp [intOf]; omega
      · have ek : k = 32 := by omega
        have ej := unhide HJ
        have j0 : ¬ (j : Int) < (s.size : Int) := by omega
        have HV := hide (rd_ok (s := s) ⟨unhide HB, by rw [← ek]; exact unhide HP⟩)
        rw [ek] at hown
        have hcv := conv_own (P := Tryd.prog) Tryd.underlying22 Tryd.underlying5 Tryd.underlying9 hown
        clear hown ek ej
        go_wp2_with fail
        go_ret2
        rw [(unhide HV).1, (unhide HV).2]
        exact ⟨rfl, hb⟩
  · have HV := hide (rd_form a (fun h => b h.1))
    have b2 : ((s.size : Int) != 64) = true := by simp; omega
    go_enter Tryd.func9, Tryd.ntmps9
    go_wp2_with fail
    go_ret2
    rw [(unhide HV).1, (unhide HV).2]
    exact ⟨rfl, Below.refl _ _⟩
end Go.Proofs.YthcibojpeamocaaDoor
