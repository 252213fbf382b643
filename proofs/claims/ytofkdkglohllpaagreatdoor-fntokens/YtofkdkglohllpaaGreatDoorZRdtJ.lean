/- ReadToken: what the program answers. -/
import Derived.Test.YtofkdkglohllpaaGreatDoorZRdtI
import Derived.Test.YtofkdkglohllpaaGreatDoorZG32
import Derived.BigQuiet
namespace Go.Proofs.YtofkdkglohllpaaGreatDoor
open Go.ChangeShapes Go.WideShapes Go.ChangeAt Go.RowKit
set_option linter.unusedVariables false
theorem split_at {t H M : ByteArray} (h : t = (H ++ ⟨#[32]⟩) ++ M) : t.extract 0 H.size = H ∧ t.extract (H.size + 1) t.size = M := by
  have hl : t.data.toList = H.data.toList ++ 32 :: M.data.toList := by rw [h]; simp
  have hs : H.data.toList.length = H.size := Array.length_toList
  have ht : t.data.toList.length = t.size := Array.length_toList
  constructor
  · apply ba_eq
    simp only [ByteArray.data_extract, Array.toList_extract, List.extract_eq_take_drop]
    rw [Nat.sub_zero, List.drop_zero, hl, List.take_left' hs]
  · apply ba_eq
    simp only [ByteArray.data_extract, Array.toList_extract, List.extract_eq_take_drop]
    rw [List.take_of_length_le (by rw [List.length_drop, ht]; exact Nat.le_refl _), hl, show H.data.toList ++ 32 :: M.data.toList = (H.data.toList ++ [32]) ++ M.data.toList by simp, List.drop_left' (by simp [hs])]
theorem hd_small {c : Int} {win : ByteArray} {n : Int} (h : tokB c win n = true) : (hdT c win n).size ≤ 65536 := by have := hdT_size h; omega
set_option maxHeartbeats 4000000 in
set_option maxRecDepth 100000 in
theorem irtok (key t : ByteArray) (HK : Hid (key.size ≤ 65536)) (HT : Hid (t.size ≤ 65536)) (rc : Int) (rw : ByteArray) (rn q : Int) (HR : Hid (RdOk key t rc rw rn q)) (w : World) (htw : TokW w) :
    Calls Tryz.prog 8 #[.string key, .string t] w fun e w' => e = .returned (.tuple #[.int .i64 rc, .string rw, .int .i64 rn, .int .i64 q]) ∧ Below w.heap.size w w' := by
  have h1 : ¬ (65536 : Int) < (key.size : Int) := by have := unhide HK; omega
  have h2 : ¬ (65536 : Int) < (t.size : Int) := by have := unhide HT; omega
  have HTW := hide htw
  obtain ⟨c, win, n, M, hr, hm⟩ := unhide HR
  have hkr := last_rd hr
  have hno := last_no hkr
  obtain ⟨hk, hte, -⟩ := hno
  obtain ⟨H, hH⟩ : ∃ H, H = hdT c win n := ⟨_, rfl⟩
  rw [← hH] at hkr hk hte
  have hsp : t.extract 0 H.size = H ∧ t.extract (H.size + 1) t.size = M := split_at (by rw [hH]; exact hr.2.1)
  obtain ⟨HA, HM⟩ := hsp
  obtain ⟨k, hkk⟩ : ∃ k, k = H.size := ⟨_, rfl⟩
  rw [← hkk] at hkr hk HA HM
  have HK1 := hide hkr
  have HHS : Hid (H.size ≤ 65536) := by rw [hH]; exact hd_small hr.1
  have HTB := hide hr.1
  have HHH := hide hH
  obtain ⟨K, hK⟩ : ∃ K, K = mkT key c win n := ⟨_, rfl⟩
  rw [← hK] at hm
  have HKM := hide hK
  have HAA := hide HA
  have HMM := hide HM
  clear hkr hte hr htw hH hK hkk HA HM
  rcases hm with ⟨hm, h5, h6, h7, h8⟩ | ⟨hm, h5, h6, h7, h8⟩
  · have nM : (M.toList == M.toList) = true := by simp
    replace h5 := h5.symm
    replace h6 := h6.symm
    replace h7 := h7.symm
    replace h8 := h8.symm
    subst h5 h6 h7 h8
    subst hm
    go_enter Tryz.func8, Tryz.ntmps8
    go_wp2_with fail
    refine (icut_ok t HT k (unhide HK1) hk H (unhide HAA) M (unhide HMM) _).mono ?_
    rintro e w1 ⟨rfl, hb1⟩
    have B1 := hide hb1
    clear hb1
    go_wp2_with fail
    refine (iclaimOf H HHS _ ((unhide HTW).below (unhide B1))).mono ?_
    rintro e w2 ⟨c2, win2, n2, b2, rfl, -, hn, hb2⟩
    obtain ⟨rfl, rfl, rfl, rfl⟩ := hn c win n (unhide HTB) (unhide HHH)
    have B2 := hide ((unhide B1).trans (hb2.mono (unhide B1).size))
    clear hb2 hn
    obtain ⟨G, hG⟩ : ∃ G, G = w2.heap.size := ⟨_, rfl⟩
    have A3 := hide (BF.new w2 #[.int .i64 c2, .string win2, .int .i64 n2] 35)
    have B3 := hide ((unhide B2).alloc (unhide B2).size (.cells #[.int .i64 c2, .string win2, .int .i64 n2] 35))
    go_wp2_with fail
    refine (imark c2 win2 n2 HTB key HK M HKM _ ((unhide HTW).below (unhide B3)).pw ((unhide HTW).below (unhide B3)).kw).mono ?_
    rintro e w4 ⟨rfl, hb4⟩
    have B4 := hide ((unhide B3).trans (hb4.mono (unhide B3).size))
    have A4 := hide ((unhide A3).below hb4)
    have st := (unhide A4).S
    clear hb4
    go_wp2_with fail
    go_quiet (fail)
    go_wp2_with fail
    refine bodyPost_ret (results_tmp4 rfl _ _ _) rfl ?_
    exact ⟨rfl, by first | exact unhide B4 | exact (unhide B4).drew | exact (unhide B4).trans (below_drewN _ _ |>.mono (unhide B4).size)⟩
  · have nM : (M.toList == K.toList) = false := ne_list hm
    clear hm
    replace h5 := h5.symm
    replace h6 := h6.symm
    replace h7 := h7.symm
    replace h8 := h8.symm
    subst h5 h6 h7 h8
    go_enter Tryz.func8, Tryz.ntmps8
    go_wp2_with fail
    refine (icut_ok t HT k (unhide HK1) hk H (unhide HAA) M (unhide HMM) _).mono ?_
    rintro e w1 ⟨rfl, hb1⟩
    have B1 := hide hb1
    clear hb1
    go_wp2_with fail
    refine (iclaimOf H HHS _ ((unhide HTW).below (unhide B1))).mono ?_
    rintro e w2 ⟨c2, win2, n2, b2, rfl, -, hn, hb2⟩
    obtain ⟨rfl, rfl, rfl, rfl⟩ := hn c win n (unhide HTB) (unhide HHH)
    have B2 := hide ((unhide B1).trans (hb2.mono (unhide B1).size))
    clear hb2 hn
    obtain ⟨G, hG⟩ : ∃ G, G = w2.heap.size := ⟨_, rfl⟩
    have A3 := hide (BF.new w2 #[.int .i64 c2, .string win2, .int .i64 n2] 35)
    have B3 := hide ((unhide B2).alloc (unhide B2).size (.cells #[.int .i64 c2, .string win2, .int .i64 n2] 35))
    go_wp2_with fail
    refine (imark c2 win2 n2 HTB key HK K HKM _ ((unhide HTW).below (unhide B3)).pw ((unhide HTW).below (unhide B3)).kw).mono ?_
    rintro e w4 ⟨rfl, hb4⟩
    have B4 := hide ((unhide B3).trans (hb4.mono (unhide B3).size))
    have A4 := hide ((unhide A3).below hb4)
    have st := (unhide A4).S
    clear hb4
    go_wp2_with fail
    refine bodyPost_ret (results_tmp4 rfl _ _ _) rfl ?_
    exact ⟨rfl, unhide B4⟩
set_option maxHeartbeats 4000000 in
set_option maxRecDepth 100000 in
theorem irtno (key t : ByteArray) (HK : Hid (key.size ≤ 65536)) (HT : Hid (t.size ≤ 65536)) (HR : Hid (RdNo t)) (w : World) (htw : TokW w) :
    Calls Tryz.prog 8 #[.string key, .string t] w fun e w' => e = .returned (.tuple #[.int .i64 0, .string ⟨#[]⟩, .int .i64 0, .int .i64 3]) ∧ Below w.heap.size w w' := by
  have h1 : ¬ (65536 : Int) < (key.size : Int) := by have := unhide HK; omega
  have h2 : ¬ (65536 : Int) < (t.size : Int) := by have := unhide HT; omega
  have HTW := hide htw
  clear htw
  have hcase : Lib.lastIndexByte t 32 = -1 ∨ ∃ k : Nat, Lib.lastIndexByte t 32 = (k : Int) := by
    rcases Lib.lastIndexByte_spec t 32 with ⟨h, _⟩ | ⟨i, _, h, _⟩
    · exact .inl h
    · exact .inr ⟨i, h⟩
  rcases hcase with hl | ⟨k, hl⟩
  · have HL := hide hl
    have HHS : Hid ((⟨#[]⟩ : ByteArray).size ≤ 65536) := hide (by decide)
    clear hl
    go_enter Tryz.func8, Tryz.ntmps8
    go_wp2_with fail
    refine (icut_no t HT (unhide HL) _).mono ?_
    rintro e w1 ⟨rfl, hw⟩
    subst w1
    go_wp2_with fail
    refine (iclaimOf ⟨#[]⟩ HHS _ (unhide HTW)).mono ?_
    rintro e w2 ⟨c2, win2, n2, b2, rfl, hy, -, hb2⟩
    have hb : b2 = false := by
      cases b2 with
      | false => rfl
      | true =>
        have h := (hy rfl).2
        have h3 := congrArg ByteArray.size h
        rw [← hdT_spec] at h3
        simp only [ByteArray.size_append] at h3
        have e3 : (⟨#[116, 111, 107, 101, 110, 32]⟩ : ByteArray).size = 6 := rfl
        have e4 : (⟨#[]⟩ : ByteArray).size = 0 := rfl
        omega
    subst hb
    have B2 := hide hb2
    have B3 := hide ((unhide B2).alloc (unhide B2).size (.cells #[.int .i64 c2, .string win2, .int .i64 n2] 35))
    clear hb2 hy
    go_wp2_with fail
    refine bodyPost_ret (results_tmp4 rfl _ _ _) rfl ?_
    exact ⟨rfl, unhide B3⟩
  · obtain ⟨hk, hte, hno⟩ := last_no hl
    have HL := hide hl
    obtain ⟨A, hA⟩ : ∃ A, t.extract 0 k = A := ⟨_, rfl⟩
    obtain ⟨M, hM⟩ : ∃ M, t.extract (k + 1) t.size = M := ⟨_, rfl⟩
    rw [hA, hM] at hte
    rw [hM] at hno
    have HN : Hid (∀ (c : Int) (win : ByteArray) (n : Int), tokB c win n = true → A ≠ hdT c win n) := fun c win n hk2 he => (unhide HR) c win n M ⟨hk2, by rw [hte, he], hno⟩
    have HHS : Hid (A.size ≤ 65536) := by
      have := unhide HT
      show _ ≤ _
      rw [← hA, ByteArray.size_extract]; omega
    have HAA := hide hA
    have HMM := hide hM
    clear hl hte hno hA hM
    go_enter Tryz.func8, Tryz.ntmps8
    go_wp2_with fail
    refine (icut_ok t HT k (unhide HL) hk A (unhide HAA) M (unhide HMM) _).mono ?_
    rintro e w1 ⟨rfl, hb1⟩
    have B1 := hide hb1
    clear hb1
    go_wp2_with fail
    refine (iclaimOf A HHS _ ((unhide HTW).below (unhide B1))).mono ?_
    rintro e w2 ⟨c2, win2, n2, b2, rfl, hy, -, hb2⟩
    have hb : b2 = false := by
      cases b2 with
      | false => rfl
      | true => exact absurd (hy rfl).2 (unhide HN c2 win2 n2 (hy rfl).1)
    subst hb
    have B2 := hide ((unhide B1).trans (hb2.mono (unhide B1).size))
    have B3 := hide ((unhide B2).alloc (unhide B2).size (.cells #[.int .i64 c2, .string win2, .int .i64 n2] 35))
    clear hb2 hy
    go_wp2_with fail
    refine bodyPost_ret (results_tmp4 rfl _ _ _) rfl ?_
    exact ⟨rfl, unhide B3⟩
end Go.Proofs.YtofkdkglohllpaaGreatDoor
