/- ReadToken: what the specification answers. -/
import Derived.Test.YtofkdkglohllpaaGreatDoorZG32
import Derived.Test.YtofkdkglohllpaaGreatDoorZNumB
import Derived.Test.YtofkdkglohllpaaGreatDoorZTokS
import Derived.BigQuiet
import Derived.Deep.RegionHeld3
namespace Go.Proofs.YtofkdkglohllpaaGreatDoor
open Go.ChangeShapes Go.WideShapes Go.ChangeAt Go.RowKit
set_option linter.unusedVariables false
set_option maxHeartbeats 4000000 in
set_option maxRecDepth 100000 in
theorem s12ok (key t : ByteArray) (HK : Hid (key.size ≤ 65536)) (HT : Hid (t.size ≤ 65536)) (rc : Int) (rw : ByteArray) (rn q : Int) (HR : Hid (RdOk key t rc rw rn q)) (w : World) :
    Calls Tryz.prog 21 #[.string key, .string t] w fun e w' => e = .returned (.tuple #[.int .i64 rc, .string rw, .int .i64 rn, .int .i64 q]) ∧ Below w.heap.size w w' := by
  obtain ⟨c, win, n, M, hr, hm⟩ := unhide HR
  obtain ⟨t0, t1, t2, t3, t4⟩ := tok_parts hr.1
  have HP1 : Hid ((zt c).size ≤ 65536) := by have := zt_size (n := c) (by omega) (by omega); show _ ≤ _; omega
  have HP3 : Hid ((zt n).size ≤ 65536) := by have := zt_size (n := n) (by omega) (by omega); show _ ≤ _; omega
  have HWS : Hid (win.size ≤ 1048576) := by show _ ≤ _; omega
  have HTB := hide hr.1
  have HTT : Hid (true = tokB c win n) := hr.1.symm
  have HL := hide (rd_map hr)
  have n1 := zt_nv (n := c) (by omega) t1
  have n3 := zt_nv (n := n) t3 (by omega)
  have HB1 : Hid (true = nvB (zt c).data.toList) := n1.1.symm
  have HB3 : Hid (true = nvB (zt n).data.toList) := n3.1.symm
  have HX1 : Hid (c = if true then nvV (zt c).data.toList else 0) := n1.2.symm
  have HX3 : Hid (n = if true then nvV (zt n).data.toList else 0) := n3.2.symm
  obtain ⟨C, hC⟩ : ∃ C, C = zt c := ⟨_, rfl⟩
  obtain ⟨N, hN⟩ : ∃ N, N = zt n := ⟨_, rfl⟩
  obtain ⟨K, hK⟩ : ∃ K, K = mkT key c win n := ⟨_, rfl⟩
  rw [← hC] at HP1 HB1 HX1 HL
  rw [← hN] at HP3 HB3 HX3 HL
  rw [← hK] at hm
  have HKM := hide hK
  have e0 : (tokT.toList == [116, 111, 107, 101, 110]) = true := by rw [tok_chars]; rfl
  obtain ⟨TT, hTT⟩ : ∃ TT, TT = tokT := ⟨_, rfl⟩
  rw [← hTT] at HL e0
  clear n1 n3 hC hN hK t0 t1 t2 t3 t4 hr HR hTT
  rcases hm with ⟨hm, h1, h2, h3, h4⟩ | ⟨hm, h1, h2, h3, h4⟩
  · have nM : (M.toList != M.toList) = false := by simp
    replace h1 := h1.symm
    replace h2 := h2.symm
    replace h3 := h3.symm
    replace h4 := h4.symm
    subst h1 h2 h3 h4
    subst hm
    go_enter Tryz.func21, Tryz.ntmps21
    go_wp2_with fail
    refine (scutB t HT [TT, C, win, N, M] HL _).mono ?_
    rintro e w1 ⟨v, rfl, ho1, hb1⟩
    have B1 := hide hb1
    obtain ⟨g, cap, rfl, hg0, hg1, k0, k1, k2, k3, k4⟩ := cells5 ho1
    have HG := hide hg1
    clear ho1 hb1 hg0
    go_wp2_with fail
    refine (snumB C (hide (by exact unhide HP1)) true HB1 c HX1 _).mono ?_
    rintro e w2 ⟨rfl, hw⟩
    subst w2
    go_wp2_with fail
    refine (snumB N (hide (by exact unhide HP3)) true HB3 n HX3 _).mono ?_
    rintro e w2 ⟨rfl, hw⟩
    subst w2
    go_wp2_with fail
    refine (sask c win n HWS true HTT _).mono ?_
    rintro e w2 ⟨rfl, hw⟩
    subst w2
    go_wp2_with fail
    go_region_held3 (fun w' => w'.cell? ⟨g, 4, none⟩ = some (.string M) ∧ w'.cell? ⟨g, 2, none⟩ = some (.string win)) (first | exact ⟨k4, k2⟩ | exact ⟨kk4, kk2⟩ | go_keep) ((go_at_call 30; refine (smark12 c win n HTB key HK M HKM _).mono ?_; rintro e w3 ⟨rfl, hb3⟩; have kk4 := (hb3.cell (p := ⟨g, 4, none⟩) (unhide HG)).trans k4; have kk2 := (hb3.cell (p := ⟨g, 2, none⟩) (unhide HG)).trans k2; have B3 := hide ((unhide B1).drew.trans (hb3.mono (unhide B1).size)); clear hb3))
    go_wp2_with fail
    go_quiet (fail)
    go_wp2_with fail
    refine bodyPost_ret (results_tmp4 rfl _ _ _) rfl ?_
    exact ⟨rfl, by first | exact unhide B3 | exact (unhide B3).trans ((below_drewN _ _).mono (unhide B3).size)⟩
  · have nM := ne_list hm
    clear hm
    replace h1 := h1.symm
    replace h2 := h2.symm
    replace h3 := h3.symm
    replace h4 := h4.symm
    subst h1 h2 h3 h4
    go_enter Tryz.func21, Tryz.ntmps21
    go_wp2_with fail
    refine (scutB t HT [TT, C, win, N, M] HL _).mono ?_
    rintro e w1 ⟨v, rfl, ho1, hb1⟩
    have B1 := hide hb1
    obtain ⟨g, cap, rfl, hg0, hg1, k0, k1, k2, k3, k4⟩ := cells5 ho1
    have HG := hide hg1
    clear ho1 hb1 hg0
    go_wp2_with fail
    refine (snumB C (hide (by exact unhide HP1)) true HB1 c HX1 _).mono ?_
    rintro e w2 ⟨rfl, hw⟩
    subst w2
    go_wp2_with fail
    refine (snumB N (hide (by exact unhide HP3)) true HB3 n HX3 _).mono ?_
    rintro e w2 ⟨rfl, hw⟩
    subst w2
    go_wp2_with fail
    refine (sask c win n HWS true HTT _).mono ?_
    rintro e w2 ⟨rfl, hw⟩
    subst w2
    go_wp2_with fail
    go_region_held3 (fun w' => w'.cell? ⟨g, 4, none⟩ = some (.string M) ∧ w'.cell? ⟨g, 2, none⟩ = some (.string win)) (first | exact ⟨k4, k2⟩ | exact ⟨kk4, kk2⟩ | go_keep) ((go_at_call 30; refine (smark12 c win n HTB key HK K HKM _).mono ?_; rintro e w3 ⟨rfl, hb3⟩; have kk4 := (hb3.cell (p := ⟨g, 4, none⟩) (unhide HG)).trans k4; have kk2 := (hb3.cell (p := ⟨g, 2, none⟩) (unhide HG)).trans k2; have B3 := hide ((unhide B1).drew.trans (hb3.mono (unhide B1).size)); clear hb3))
    go_wp2_with fail
    refine bodyPost_ret (results_tmp4 rfl _ _ _) rfl ?_
    exact ⟨rfl, unhide B3⟩
set_option maxHeartbeats 4000000 in
set_option maxRecDepth 100000 in
theorem s12no (key t : ByteArray) (HK : Hid (key.size ≤ 65536)) (HT : Hid (t.size ≤ 65536)) (HR : Hid (RdNo t)) (w : World) :
    Calls Tryz.prog 21 #[.string key, .string t] w fun e w' => e = .returned (.tuple #[.int .i64 0, .string ⟨#[]⟩, .int .i64 0, .int .i64 3]) ∧ Below w.heap.size w w' := by
  obtain ⟨L, hL⟩ : ∃ L : List ByteArray, L = (cutS t.data.toList).map fun l => ⟨l.toArray⟩ := ⟨_, rfl⟩
  have HL : Hid (L.map (fun x => x.data.toList) = cutS t.data.toList) := by show _ = _; rw [hL, List.map_map]; simp [Function.comp_def]
  have HZ : Hid (∀ k (h : k < L.length), L[k].size ≤ 65536) := by
    intro k h
    have h1 : L[k].data.toList ∈ cutS t.data.toList := by rw [← unhide HL]; exact List.mem_map.2 ⟨L[k], List.getElem_mem h, rfl⟩
    have h2 := cut_len t.data.toList _ h1
    rw [len8, len8] at h2
    have := unhide HT
    omega
  clear hL
  by_cases h5 : L.length = 5
  · match L, h5, HL, HZ with
    | [P0, P1, P2, P3, P4], _, HL, HZ =>
      have HP1 : Hid (P1.size ≤ 65536) := unhide HZ 1 (by simp)
      have HP2 : Hid (P2.size ≤ 1048576) := by have := unhide HZ 2 (by simp); show P2.size ≤ _; have h : P2.size ≤ 65536 := this; omega
      have HP3 : Hid (P3.size ≤ 65536) := unhide HZ 3 (by simp)
      clear HZ
      by_cases h0 : P0 = tokT
      · have e0 : (P0.toList == [116, 111, 107, 101, 110]) = true := by rw [h0, tok_chars]; rfl
        have HC : Hid (cutS t.data.toList = [tokL, P1.data.toList, P2.data.toList, P3.data.toList, P4.data.toList]) := by show _ = _; rw [← unhide HL, h0]; rfl
        obtain ⟨b1, hb1_⟩ : ∃ b, b = nvB P1.data.toList := ⟨_, rfl⟩
        obtain ⟨b3, hb3_⟩ : ∃ b, b = nvB P3.data.toList := ⟨_, rfl⟩
        obtain ⟨x1, hx1⟩ : ∃ x, x = if b1 then nvV P1.data.toList else 0 := ⟨_, rfl⟩
        obtain ⟨x3, hx3⟩ : ∃ x, x = if b3 then nvV P3.data.toList else 0 := ⟨_, rfl⟩
        have HB1 := hide hb1_
        have HB3 := hide hb3_
        have HX1 := hide hx1
        have HX3 := hide hx3
        have HF : Hid (NoTok b1 b3 x1 P2 x3) := by
          intro c1 c3
          rw [hx1, hx3, c1, c3]
          rw [hb1_] at c1; rw [hb3_] at c3
          cases hk : tokB (nvV P1.data.toList) P2 (nvV P3.data.toList) with
          | true => exact absurd (cut_rd (unhide HC) c1 c3 hk) (unhide HR _ _ _ _)
          | false => simp only [if_true]; rw [hk]
        clear hb1_ hb3_ hx1 hx3 h0 HC HR
        cases b1 with
        | false =>
          cases b3 with
          | false =>
            go_enter Tryz.func21, Tryz.ntmps21
            go_wp2_with fail
            refine (scutB t HT [P0, P1, P2, P3, P4] HL _).mono ?_
            rintro e w1 ⟨v, rfl, ho1, hb1⟩
            have B1 := hide hb1
            obtain ⟨g, cap, rfl, hg0, hg1, k0, k1, k2, k3, k4⟩ := cells5 ho1
            have HG := hide hg1
            clear ho1 hb1 hg0
            go_wp2_with fail
            refine (snumB P1 HP1 false HB1 x1 HX1 _).mono ?_
            rintro e w2 ⟨rfl, hw⟩
            subst w2
            go_wp2_with fail
            refine (snumB P3 HP3 false HB3 x3 HX3 _).mono ?_
            rintro e w2 ⟨rfl, hw⟩
            subst w2
            go_wp2_with fail
            refine bodyPost_ret (results_tmp4 rfl _ _ _) rfl ?_
            exact ⟨rfl, unhide B1⟩
          | true =>
            go_enter Tryz.func21, Tryz.ntmps21
            go_wp2_with fail
            refine (scutB t HT [P0, P1, P2, P3, P4] HL _).mono ?_
            rintro e w1 ⟨v, rfl, ho1, hb1⟩
            have B1 := hide hb1
            obtain ⟨g, cap, rfl, hg0, hg1, k0, k1, k2, k3, k4⟩ := cells5 ho1
            have HG := hide hg1
            clear ho1 hb1 hg0
            go_wp2_with fail
            refine (snumB P1 HP1 false HB1 x1 HX1 _).mono ?_
            rintro e w2 ⟨rfl, hw⟩
            subst w2
            go_wp2_with fail
            refine (snumB P3 HP3 true HB3 x3 HX3 _).mono ?_
            rintro e w2 ⟨rfl, hw⟩
            subst w2
            go_wp2_with fail
            refine bodyPost_ret (results_tmp4 rfl _ _ _) rfl ?_
            exact ⟨rfl, unhide B1⟩
        | true =>
          cases b3 with
          | false =>
            go_enter Tryz.func21, Tryz.ntmps21
            go_wp2_with fail
            refine (scutB t HT [P0, P1, P2, P3, P4] HL _).mono ?_
            rintro e w1 ⟨v, rfl, ho1, hb1⟩
            have B1 := hide hb1
            obtain ⟨g, cap, rfl, hg0, hg1, k0, k1, k2, k3, k4⟩ := cells5 ho1
            have HG := hide hg1
            clear ho1 hb1 hg0
            go_wp2_with fail
            refine (snumB P1 HP1 true HB1 x1 HX1 _).mono ?_
            rintro e w2 ⟨rfl, hw⟩
            subst w2
            go_wp2_with fail
            refine (snumB P3 HP3 false HB3 x3 HX3 _).mono ?_
            rintro e w2 ⟨rfl, hw⟩
            subst w2
            go_wp2_with fail
            refine bodyPost_ret (results_tmp4 rfl _ _ _) rfl ?_
            exact ⟨rfl, unhide B1⟩
          | true =>
            go_enter Tryz.func21, Tryz.ntmps21
            go_wp2_with fail
            refine (scutB t HT [P0, P1, P2, P3, P4] HL _).mono ?_
            rintro e w1 ⟨v, rfl, ho1, hb1⟩
            have B1 := hide hb1
            obtain ⟨g, cap, rfl, hg0, hg1, k0, k1, k2, k3, k4⟩ := cells5 ho1
            have HG := hide hg1
            clear ho1 hb1 hg0
            go_wp2_with fail
            refine (snumB P1 HP1 true HB1 x1 HX1 _).mono ?_
            rintro e w2 ⟨rfl, hw⟩
            subst w2
            go_wp2_with fail
            refine (snumB P3 HP3 true HB3 x3 HX3 _).mono ?_
            rintro e w2 ⟨rfl, hw⟩
            subst w2
            go_wp2_with fail
            refine (sask x1 P2 x3 HP2 false (hide (unhide HF rfl rfl)) _).mono ?_
            rintro e w2 ⟨rfl, hw⟩
            subst w2
            go_wp2_with fail
            refine bodyPost_ret (results_tmp4 rfl _ _ _) rfl ?_
            exact ⟨rfl, unhide B1⟩
      · have e0 : (P0.toList == [116, 111, 107, 101, 110]) = false := by have h := ne_list h0; rwa [tok_chars] at h
        clear h0
        go_enter Tryz.func21, Tryz.ntmps21
        go_wp2_with fail
        refine (scutB t HT [P0, P1, P2, P3, P4] HL _).mono ?_
        rintro e w1 ⟨v, rfl, ho1, hb1⟩
        have B1 := hide hb1
        obtain ⟨g, cap, rfl, hg0, hg1, k0, k1, k2, k3, k4⟩ := cells5 ho1
        have HG := hide hg1
        clear ho1 hb1 hg0
        go_wp2_with fail
        refine bodyPost_ret (results_tmp4 rfl _ _ _) rfl ?_
        exact ⟨rfl, unhide B1⟩
  · have e5 : ((L.length : Int) != 5) = true := by rw [bne_iff_ne]; omega
    clear h5
    go_enter Tryz.func21, Tryz.ntmps21
    go_wp2_with fail
    refine (scutB t HT L HL _).mono ?_
    rintro e w1 ⟨v, rfl, ho1, hb1⟩
    have B1 := hide hb1
    obtain ⟨aL, cL, rfl, -⟩ := own_rowV ho1
    clear ho1 hb1
    go_wp2_with fail
    refine bodyPost_ret (results_tmp4 rfl _ _ _) rfl ?_
    exact ⟨rfl, unhide B1⟩
set_option maxHeartbeats 4000000 in
set_option maxRecDepth 100000 in
theorem srtok (key t : ByteArray) (HK : Hid (key.size ≤ 65536)) (HT : Hid (t.size ≤ 65536)) (rc : Int) (rw : ByteArray) (rn q : Int) (HR : Hid (RdOk key t rc rw rn q)) (w : World) :
    Calls Tryz.prog 10 #[.string key, .string t] w fun e w' => e = .returned (.tuple #[.int .i64 rc, .string rw, .int .i64 rn, .int .i64 q]) ∧ Below w.heap.size w w' := by
  have h1 : ¬ (65536 : Int) < (key.size : Int) := by have := unhide HK; omega
  have h2 : ¬ (65536 : Int) < (t.size : Int) := by have := unhide HT; omega
  go_enter Tryz.func10, Tryz.ntmps10
  go_wp2_with fail
  refine (s12ok key t HK HT rc rw rn q HR _).mono ?_
  rintro e w1 ⟨rfl, hb1⟩
  go_wp2_with fail
  refine bodyPost_ret (results_tmp4 rfl _ _ _) rfl ?_
  exact ⟨rfl, hb1⟩
set_option maxHeartbeats 4000000 in
set_option maxRecDepth 100000 in
theorem srtno (key t : ByteArray) (HK : Hid (key.size ≤ 65536)) (HT : Hid (t.size ≤ 65536)) (HR : Hid (RdNo t)) (w : World) :
    Calls Tryz.prog 10 #[.string key, .string t] w fun e w' => e = .returned (.tuple #[.int .i64 0, .string ⟨#[]⟩, .int .i64 0, .int .i64 3]) ∧ Below w.heap.size w w' := by
  have h1 : ¬ (65536 : Int) < (key.size : Int) := by have := unhide HK; omega
  have h2 : ¬ (65536 : Int) < (t.size : Int) := by have := unhide HT; omega
  go_enter Tryz.func10, Tryz.ntmps10
  go_wp2_with fail
  refine (s12no key t HK HT HR _).mono ?_
  rintro e w1 ⟨rfl, hb1⟩
  go_wp2_with fail
  refine bodyPost_ret (results_tmp4 rfl _ _ _) rfl ?_
  exact ⟨rfl, hb1⟩
end Go.Proofs.YtofkdkglohllpaaGreatDoor
