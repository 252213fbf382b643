/- At every argument that can be read, with the listed variables as the program text lays them, the law FnFrames returns true and leaves its arguments as they were: the tied card. -/
import Derived.Test.YtcojpgonjfilbaaDoorCards
import Derived.Test.YtcojpgonjfilbaaDoorTie
import Derived.Test.YtcojpgonjfilbaaDoorFrfL
import Derived.Test.YtcojpgonjfilbaaDoorRowInts
import Derived.WalkKit
import Derived.ProofKit
import Derived.OpenShut
import Derived.ShutString
import Derived.ChangeOld
import Derived.Below
import Derived.OpenVars
import Derived.LaidMore
import Derived.Lay
import Derived.Stop.Joined
namespace Go.Proofs.YtcojpgonjfilbaaDoor
open Go.ChangeShapes Go.WideShapes Go.ChangeAt Go.RowKit
open Go.ChangeMaps (open_string shut_string)
set_option linter.unusedVariables false

set_option maxHeartbeats 4000000 in
set_option maxRecDepth 100000 in
theorem walk (w : World) (a0 : Option Addr) (len0 cap0 : Nat) (l0 : List UInt8) (e0 : l0.length = len0) (w0 : Row8 w a0 l0) (kc0 : len0 ≤ cap0) (a1 : Option Addr) (len1 cap1 : Nat) (l1 : List UInt8) (e1 : l1.length = len1) (w1 : Row8 w a1 l1) (kc1 : len1 ≤ cap1) (hT : ErrsR w) :
    Calls Tryd.prog 3 #[.slice a0 len0 cap0, .slice a1 len1 cap1] w fun e w' => e = .returned (.bool true) ∧ Below w.heap.size w w' := by
  subst e0 e1
  obtain ⟨i8, hi8, hz80, hz81, hz82⟩ := info_parts Tryd.infB5
  obtain ⟨iS, hiS, hzS0, hzS1, hzS2⟩ := info_parts Tryd.infL9
  have HW0 := hide w0
  have HE := hide hT
  by_cases big0 : 1048576 < l0.length
  · have b0 : (1048576 : Int) < (l0.length : Int) := by omega
    clear w0 w1 hT
    go_enter Tryd.func3, Tryd.ntmps3
    go_wp2_with fail
    go_ret
    exact ⟨rfl, Below.refl _ _⟩
  have b0 : ¬ (1048576 : Int) < (l0.length : Int) := by omega
  by_cases big1 : 1048576 < l1.length
  · have b1 : (1048576 : Int) < (l1.length : Int) := by omega
    clear w0 w1 hT
    go_enter Tryd.func3, Tryd.ntmps3
    go_wp2_with fail
    go_ret
    exact ⟨rfl, Below.refl _ _⟩
  have b1 : ¬ (1048576 : Int) < (l1.length : Int) := by omega
  have HS0 : Hid (l0.length ≤ 1048576) := by show _ ≤ _; omega
  have HS1 : Hid (l1.length ≤ 1048576) := by show _ ≤ _; omega
  have HR := hide (row8_V w1)
  clear w0 w1 hT big0 big1 kc0 kc1
  have O1 := hide ((lit_emptyT w w.heap.size 9 (Nat.le_refl _)).alloc (.cells #[] 5))
  have O2' := lit_empty (w.alloc (.cells #[] 9)) w.heap.size 5 (by simp)
  rw [show (w.alloc (.cells #[] 9)).heap.size = w.heap.size + 1 from by simp] at O2'
  have O2 := hide O2'
  have BB := hide (((Below.refl w.heap.size w).alloc (Nat.le_refl _) (.cells #[] 9)).alloc (by simp) (.cells #[] 5))
  clear O2'
  go_enter Tryd.func3, Tryd.ntmps3
  go_wp2_with fail
  go_loopw [5, 6, 7] (fun v u i wr => ∃ (k ga ca na : Nat) (ds : List (List UInt8)), k ≤ 4 ∧ i = .int .i64 k ∧ u = .slice (some ⟨ga, 0, none⟩) na ca ∧ na ≤ 28 * k ∧ 8 * k ≤ na ∧ Hid (ds.length = k) ∧ Hid ((frmsB ds).length = na) ∧ Hid (∀ d ∈ ds, 1 ≤ d.length ∧ d.length ≤ 21) ∧ Hid (wr.ownsRow w.heap.size 9 1 v ds.length (cS (ds.map fun d => ⟨d.toArray⟩))) ∧ Hid (wr.ownsRow w.heap.size 5 1 (.slice (some ⟨ga, 0, none⟩) na ca) na (B8 (frmsB ds))) ∧ Hid (Below w.heap.size w wr)) (fun _ _ i _ => 4 - (intOf i).toNat)
  case atStart => exact ⟨0, w.heap.size + 1, 0, 0, [], by omega, rfl, rfl, by omega, by omega, rfl, rfl, (fun d h => absurd h (by simp)), O1, O2, BB⟩
  case round =>
    clear O1 O2 BB
    obtain ⟨k, ga, ca, na, ds, hk, rfl, rfl, hna, hna8, HDK, HDN, HD, HO, HA, HB⟩ := hrel
    have hz := (unhide HB).size
    by_cases hlt : k < 4
    · have hlt' : (k : Int) < 4 := by omega
      obtain ⟨c8, hc8⟩ : ∃ c : UInt8, c = UInt8.ofNat k := ⟨_, rfl⟩
      have hck : c8.toNat = k := by rw [hc8, UInt8.toNat_ofNat']; omega
      have hmod : (k : Int) % 256 = (k : Int) := by omega
      have HB8 : Hid (B8 (c8 :: l0) = [.int .u8 (k : Int)] ++ B8 l0) := by show _ = _; rw [← hck]; rfl
      have hb0 := (Below.refl wr.heap.size wr).alloc (Nat.le_refl _) (.cells #[.int .u8 (k : Int)] 5)
      have HL := hide (World.ownsRow_lit (e := 5) (base := wr.heap.size) (size := 1) wr #[.int .u8 (k : Int)] 1 (Nat.le_refl _) (by unfold maxLen; omega) rfl)
      have HR0 := hide (((unhide HW0).below (unhide HB)).below hb0)
      have HO0 := hide ((held_of (unhide HO)).below hb0 (Nat.le_refl _))
      have HA0 := hide ((held_of (unhide HA)).below hb0 (Nat.le_refl _))
      have HB0 := hide ((unhide HB).alloc hz (.cells #[.int .u8 (k : Int)] 5))
      have hz0 : wr.heap.size ≤ (wr.alloc (.cells #[.int .u8 (k : Int)] 5)).heap.size := by simp
      have hl0 := unhide HS0
      clear hc8 hck hb0 HO HA HB
      go_wp2_with (at_builtin; refine append_row8 _ rfl (.tmp 39) (.tmp 40) 22 rfl wr.heap.size 5 i8 Tryd.underlying22 hi8 hz80 hz81 hz82 wr.heap.size 1 1 [.int .u8 (k : Int)] rfl (unhide HL) a0 cap0 l0 rfl (unhide HR0) (by omega) hz0 ?_; intro g2 c2 w2 o2 hg2; rw [← unhide HB8] at o2; have HR2 := hide (rowV_8 (row_at o2)); have HO2 := hide ((unhide HO0).grown hg2 (fun j hj => .inr (by injection hj with hj; omega))); have HA2 := hide ((unhide HA0).grown hg2 (fun j hj => .inr (by injection hj with hj; omega))); have HB2 := hide ((unhide HB0).grown hg2 (unhide HB0).size (fun j hj => by injection hj with hj; omega)); clear o2 hg2 HL HR0 HO0 HA0 HB0)
      have T := sbytesOfN 20 (1 + l0.length) (some ⟨g2, 0, none⟩) c2 (c8 :: l0) (by rw [List.length_cons]; omega) (by decide) (by decide) (by rw [List.length_cons]; omega) w2 (unhide HR2)
      change Calls _ _ #[_, .int .i64 20] _ _ at T
      refine T.mono ?_
      clear T HR2 HB8
      rintro e w3 ⟨v3, rfl, m3, hm3, o3, hb3⟩
      obtain ⟨a3, c3, rfl, r3⟩ := own_rowV o3
      have HO3 := hide ((unhide HO2).below hb3 (unhide HO2).le)
      have HA3 := hide ((unhide HA2).below hb3 (unhide HA2).le)
      have HB3 := hide ((unhide HB2).trans (hb3.mono (unhide HB2).size))
      have hcv := conv_row8 (P := Tryd.prog) (cap := c3) (src := 22) (dst := 9) (e := 5) Tryd.underlying22 Tryd.underlying5 Tryd.underlying9 (rowV_8 r3)
      obtain ⟨t3, ht3⟩ : ∃ t : ByteArray, t = ⟨m3.toArray⟩ := ⟨_, rfl⟩
      rw [← ht3] at hcv
      have ht3l : t3.data.toList = m3 := by rw [ht3]
      have ht3s : t3.size = m3.length := by rw [← sizeT, ht3l]
      have hk1 : ¬ 9223372036854775807 < 1 + t3.size := by omega
      have hk2 : ¬ 9223372036854775807 < (ByteArray.mk #[120]).size + t3.size := by show ¬ 9223372036854775807 < 1 + t3.size; omega
      obtain ⟨d, hd⟩ : ∃ d : ByteArray, (⟨#[120]⟩ : ByteArray) ++ t3 = d := ⟨_, rfl⟩
      have hdl : d.data.toList = 120 :: m3 := by rw [← hd, cat_listT, ht3l]; rfl
      have hds : d.size = 1 + m3.length := by rw [← sizeT, hdl, List.length_cons]; omega
      obtain ⟨D, hD⟩ : ∃ D, D = d.data.toList := ⟨_, rfl⟩
      have hDl : D.length = 1 + m3.length := by rw [hD, sizeT, hds]
      have HDD := hide hD
      have HDL := hide hDl
      have HDS : Hid (1 ≤ d.size ∧ d.size ≤ 60000) := by show _ ∧ _; omega
      have HM3 := hide hm3
      clear o3 r3 hb3 ht3 ht3l ht3s hdl hds hD hDl HO2 HA2 HB2 hm3
      go_wp2_with fail
      refine (iframe d d.size rfl (unhide HDS).1 (unhide HDS).2 _).mono ?_
      rintro e w4 ⟨v4, rfl, o4, hb4⟩
      rw [← unhide HDD] at o4
      obtain ⟨a4, c4, rfl, -⟩ := own_rowV o4
      have HO4 := hide ((unhide HO3).below hb4 (unhide HO3).le)
      have HA4 := hide ((unhide HA3).below hb4 (unhide HA3).le)
      have HB4 := hide ((unhide HB3).trans (hb4.mono (unhide HB3).size))
      have HV4 := hide (held_of o4)
      clear hcv o4 hb4 HO3 HA3 HB3
      go_wp2_with fail
      refine (sframe d (unhide HDS).1 (unhide HDS).2 _).mono ?_
      rintro e w5 ⟨v5, rfl, o5, hb5⟩
      rw [← unhide HDD] at o5
      obtain ⟨a5, c5, rfl, r5⟩ := own_rowV o5
      have HO5 := hide ((unhide HO4).below hb5 (unhide HO4).le)
      have HA5 := hide ((unhide HA4).below hb5 (unhide HA4).le)
      have HB5 := hide ((unhide HB4).trans (hb5.mono (unhide HB4).size))
      have HV5 := hide ((unhide HV4).below hb5 (unhide HV4).le)
      have hc4 := conv_row8 (P := Tryd.prog) (cap := c4) (src := 22) (dst := 9) (e := 5) Tryd.underlying22 Tryd.underlying5 Tryd.underlying9 (rowV_8 (unhide HV5).rowV)
      have hc5 := conv_row8 (P := Tryd.prog) (cap := c5) (src := 22) (dst := 9) (e := 5) Tryd.underlying22 Tryd.underlying5 Tryd.underlying9 (rowV_8 r5)
      obtain ⟨t4, ht4⟩ : ∃ t : ByteArray, t = ⟨(frmB D).toArray⟩ := ⟨_, rfl⟩
      rw [← ht4] at hc4 hc5
      have nt : (t4.toList != t4.toList) = false := by simp
      obtain ⟨N, hN⟩ : ∃ N, (frmB D).length = N := ⟨_, rfl⟩
      rw [hN] at hc4 hc5 HV5 ⊢
      have HNN := hide hN
      have hN28 : 8 ≤ N ∧ N ≤ 28 := by have h7 : N = 7 + D.length := (by rw [← hN, frmB_len]); have := unhide HDL; have := unhide HM3; omega
      have hown := (unhide HO5).own
      have hz5 := (unhide HB5).size
      have ho2 := (unhide HA5).own
      have ho3 := (unhide HV5).own
      have hkl : ds.length = k := unhide HDK
      have HKL : Hid (ds.length ≤ 4) := by show _ ≤ _; omega
      clear o5 r5 hb5 ht4 HO4 HA4 HB4 HV4 hN hkl
      go_wp2_with (first | (have hq := HW6; at_builtin; refine append_row8 _ rfl (.tmp 68) (.tmp 69) 22 rfl w.heap.size 5 i8 Tryd.underlying22 hi8 hz80 hz81 hz82 ga na ca (B8 (frmsB ds)) rfl (unhide HA6) a4 c4 (frmB D) (by rw [unhide HNN]; rfl) (unhide HW6) (by rw [unhide HNN]; omega) (unhide HB6).size ?_; intro g7 c7 w7 o7 hg7; rw [unhide HNN] at o7 ⊢; have HO7 := hide ((unhide HO6).kept hg7 (own_apartT (unhide HO6) (unhide HA6) (by decide))); have HA7 : Hid (w7.ownsRow w.heap.size 5 1 (.slice (some ⟨g7, 0, none⟩) (na + N) c7) (na + N) (B8 (frmsB (ds ++ [D])))) := (by rw [show B8 (frmsB (ds ++ [D])) = B8 (frmsB ds) ++ B8 (frmB D) from by simp [B8, frmsB]]; exact o7); have HB7 := hide ((unhide HB6).grown hg7 (unhide HB6).size (fun j hj => ((unhide HA6).lt j hj).1)); clear o7 hg7 HO6 HA6 HB6 HW6) | (at_builtin; refine wpList_append_lies _ rfl (.tmp 64) (.tmp 66) 23 rfl w.heap.size 9 iS (.string ⟨#[]⟩) 1 16 Tryd.underlying23 hiS hzS0 hzS1 hzS2 rfl (by decide) _ _ _ rfl (hown.alloc _) ⟨w5.heap.size, 0, none⟩ 1 1 (cS [d]) rfl rfl (by exact news_new w5 (cS [d]) 9) (cS_one _) (by decide) (by have := unhide HKL; unfold maxLen; omega) (by have := unhide HKL; omega) (by simp; omega) _ rfl ?_; intro g6 c6 w6 o6 hg6 hat6 hlt6; have HO6 := hide o6; have HA6 := hide ((ho2.alloc (.cells (cS [d]).toArray 9)).kept hg6 (own_apartT (ho2.alloc (.cells (cS [d]).toArray 9)) (hown.alloc (.cells (cS [d]).toArray 9)) (by decide))); have HW6 := hide (rowV_8 (row_at ((ho3.alloc (.cells (cS [d]).toArray 9)).kept hg6 (own_apartT (ho3.alloc (.cells (cS [d]).toArray 9)) (hown.alloc (.cells (cS [d]).toArray 9)) (by decide))))); have HB6 := hide (below_app (unhide HB5) hz5 hown (Nat.le_refl _) hg6); clear o6 hg6 hat6 hlt6))
      go_roundw
      case rel =>
        refine ⟨k + 1, g7, c7, na + N, ds ++ [D], by omega, by go_num, rfl, by omega, by omega, ?_, ?_, ?_, ?_, HA7, HB7⟩
        · show _ = _; rw [List.length_append, unhide HDK]; rfl
        · show _ = _; rw [show frmsB (ds ++ [D]) = frmsB ds ++ frmB D from by simp [frmsB], List.length_append, unhide HDN, unhide HNN]
        · intro x hx
          rcases List.mem_append.1 hx with h | h
          · exact unhide HD x h
          · rw [List.mem_singleton.1 h]; have := unhide HDL; have := unhide HM3; omega
        · show World.ownsRow _ _ _ _ _ _ _
          rw [List.map_append, cS_app, List.length_append]
          have e : cS ([D].map fun d => (⟨d.toArray⟩ : ByteArray)) = cS [d] := by rw [unhide HDD]; rfl
          rw [e]
          exact unhide HO7
      case measure => simp [intOf]; omega
    · have ek : k = 4 := by omega
      have h4' : ¬ (k : Int) < 4 := by omega
      obtain ⟨A, hA⟩ : ∃ A, A = frmsB ds := ⟨_, rfl⟩
      obtain ⟨R, hR⟩ : ∃ R, R = ds.map fun d => (⟨d.toArray⟩ : ByteArray) := ⟨_, rfl⟩
      have hAl : A.length = na := by rw [hA]; exact unhide HDN
      have hj : frs na A = (R, na, 0) := by rw [hA, hR, frs_join ds (fun d h => ⟨(unhide HD d h).1, Nat.le_trans (unhide HD d h).2 (by decide)⟩) na (Nat.le_of_eq (unhide HDN)), unhide HDN]
      obtain ⟨p1, p2, p3⟩ := rd_parts hAl (by omega)
      rw [hj] at p1 p2 p3
      have hRl : R.length = ds.length := by rw [hR, List.length_map]
      have HAL := hide hAl
      have HRL := hide hRl
      have HP1 : Hid (R = rdL A) := p1.symm
      have HP2 : Hid ((na : Int) = rdP A) := p2.symm
      have HP3 : Hid ((0 : Int) = rdC A) := p3.symm
      have HJ := hide hj
      rw [← hA] at HA
      rw [← hR] at HO
      obtain ⟨al, cl, rfl, -⟩ := own_rowV (unhide HO)
      obtain ⟨M, hM⟩ : ∃ M, M = ds.length := ⟨_, rfl⟩
      rw [← hM] at HO HRL ⊢
      have hM4 : M ≤ 4 := by have := unhide HDK; omega
      have hcapA := own_capT (unhide HA)
      have hcapL := own_capT (unhide HO)
      have RA := hide (row_at (unhide HA))
      have RL := hide (row_at (unhide HO))
      have i1 : (na : Int) ≤ (ca : Int) := by omega
      clear hA hR hAl hj p1 p2 p3 hRl HD HDN HDK HO HA hM
      go_wp2_with fail
      refine (ireadfrN (some ⟨ga, 0, none⟩) ca na M A (unhide HAL) R (unhide HRL) (na : Int) 0 (unhide HP1) (unhide HP2) (unhide HP3) (by omega) hcapA _ (unhide RA) ((unhide HE).below (unhide HB))).mono ?_
      rintro e wA ⟨vg, rfl, og, hbA⟩
      obtain ⟨ag, cg, rfl, rg⟩ := own_rowV og
      have RG := hide rg
      have RA1 := hide ((unhide RA).below hbA)
      have RL1 := hide ((unhide RL).below hbA)
      have BA := hide ((unhide HB).trans (hbA.mono (unhide HB).size))
      have T := lat a1 cap1 l1 0 (na + 1) (unhide HS1) (by decide) (by omega) (by omega) wA ((unhide HR).below (unhide BA))
      rw [show ((na + 1 : Nat) : Int) = (na : Int) + 1 from by omega] at T
      change Calls _ _ #[_, .int .i64 0, _] _ _ at T
      have HT := hide T
      clear T og rg hbA RA RL HB
      go_wp2_with fail
      refine (unhide HT).mono ?_
      rintro e wB ⟨kk, rfl, hkk, hbB⟩
      have RG2 := hide ((unhide RG).below hbB)
      have RA2 := hide ((unhide RA1).below hbB)
      have RL2 := hide ((unhide RL1).below hbB)
      have BB := hide ((unhide BA).trans (hbB.mono (unhide BA).size))
      have j1 : (kk : Int) ≤ (ca : Int) := by omega
      have j2 : (0 : Int) ≤ (kk : Int) := by omega
      have j3 : kk ≤ ca := by omega
      have j4 : kk ≤ 1048576 := by omega
      have hTl : (A.take kk).length = kk := by rw [List.length_take, unhide HAL]; omega
      obtain ⟨q1, q2, q3⟩ := rd_parts hTl (by omega)
      obtain ⟨r2, hr2⟩ : ∃ r, r = rdL (A.take kk) := ⟨_, rfl⟩
      obtain ⟨P2, hP2⟩ : ∃ P, P = rdP (A.take kk) := ⟨_, rfl⟩
      obtain ⟨C2, hC2⟩ : ∃ C, C = rdC (A.take kk) := ⟨_, rfl⟩
      have hle := frs_le kk (A.take kk) (Nat.le_of_eq hTl)
      have hal := frs_all kk (A.take kk) (Nat.le_of_eq hTl)
      have hpre : r2 <+: R := by
        have h1 := frs_take na A kk (Nat.le_of_eq (unhide HAL))
        rw [unhide HJ, frs_fuel na kk (A.take kk) (by rw [hTl]; omega) (Nat.le_of_eq hTl), ← q1, ← hr2] at h1
        exact h1
      rw [hTl] at hle hal
      have g1 : P2 ≤ (kk : Int) := by rw [hP2, q2]; have := hle.1; omega
      have g2 : C2 = 0 → P2 = (kk : Int) := fun h => by rw [hP2, q2, hal (by rw [← q3, ← hC2]; exact h)]
      have g3 : ¬ C2 = 0 → P2 < (kk : Int) := fun h => by rw [hP2, q2]; have := hle.2 (by rw [← q3, ← hC2]; exact h); omega
      obtain ⟨M2, hM2⟩ : ∃ M2, r2.length = M2 := ⟨_, rfl⟩
      have HTL := hide hTl
      have Hr2 := hide hr2
      have HPP := hide hP2
      have HCC := hide hC2
      have HM2 := hide hM2
      have HPRE := hide hpre
      clear hTl q1 q2 q3 hr2 hP2 hC2 hle hal hM2 hpre hbB HT RG RA1 RL1 BA HJ HP1 HP2 HP3 hkk
      go_wp2_with fail
      refine (ireadfrN (some ⟨ga, 0, none⟩) ca kk M2 (A.take kk) (unhide HTL) r2 (unhide HM2) P2 C2 (unhide Hr2) (unhide HPP) (unhide HCC) (by omega) j3 _ (rowV_take8 (unhide RA2) kk) ((unhide HE).below (unhide BB))).mono ?_
      rintro e wC ⟨vs, rfl, os, hbC⟩
      obtain ⟨aS, cS', rfl, rs⟩ := own_rowV os
      have RS := hide rs
      have RG3 := hide ((unhide RG2).below hbC)
      have RA3 := hide ((unhide RA2).below hbC)
      have RL3 := hide ((unhide RL2).below hbC)
      have BC := hide ((unhide BB).trans (hbC.mono (unhide BB).size))
      clear os rs hbC RG2 RA2 RL2 BB
      go_wp2_with fail
      refine (sreadfrN (some ⟨ga, 0, none⟩) ca kk M2 (A.take kk) (unhide HTL) r2 (unhide HM2) P2 C2 (unhide Hr2) (unhide HPP) (unhide HCC) (by omega) _ (rowV_take8 (unhide RA3) kk)).mono ?_
      rintro e wD ⟨vt, rfl, ot, hbD⟩
      obtain ⟨at_, ct, rfl, -⟩ := own_rowV ot
      have RS4 := hide ((unhide RS).below hbD)
      have RG4 := hide ((unhide RG3).below hbD)
      have RL4 := hide ((unhide RL3).below hbD)
      have BD := hide ((unhide BC).trans (hbD.mono (unhide BC).size))
      have nn : ((na : Int) == (na : Int)) = true := by simp
      have ncc : (C2 == C2) = true := by simp
      clear ot hbD RS RG3 RA3 RL3 BC
      go_wp2_with fail
      refine (sameTextsN ag al cg cl M R (unhide HRL) (by omega) _ (unhide RG4) (unhide RL4)).mono ?_
      rintro e wE ⟨rfl, hbE⟩
      have RS5 := hide ((unhide RS4).below hbE)
      have RL5 := hide ((unhide RL4).below hbE)
      have BE := hide ((unhide BD).trans (hbE.mono (unhide BD).size))
      clear hbE RS4 RG4 RL4 BD
      go_wp2_with fail
      refine (lbegins aS al cS' cl r2 R M2 M (unhide HM2) (unhide HRL) (unhide HPRE) (by omega) hcapL _ (unhide RS5) (unhide RL5)).mono ?_
      rintro e wF ⟨rfl, hbF⟩
      have BF' := hide ((unhide BE).trans (hbF.mono (unhide BE).size))
      clear hbF RS5 RL5 BE
      by_cases hC : C2 = 0
      · have m1 : (C2 == 0) = true := by rw [hC]; rfl
        have m2 : (P2 == (kk : Int)) = true := by rw [g2 hC]; simp
        clear g1 g2 g3 hC
        go_wp2_with fail
        go_ret
        exact ⟨rfl, unhide BF'⟩
      · have m1 : (C2 == 0) = false := beq_eq_false_iff_ne.2 hC
        have m2 : (P2 == (kk : Int)) = false := beq_eq_false_iff_ne.2 (by have := g3 hC; omega)
        clear g1 g2 g3 hC
        go_wp2_with fail
        go_ret
        exact ⟨rfl, unhide BF'⟩

theorem own : ownKnob Tryd.prog.godebug = none := by kernel_rfl
theorem laidOut : laidOutB Tryd.prog = true := by kernel_rfl
theorem door_met (os : Os) (args : Array Value) : laidMetH Tryd.prog Rows.fnFramesRow.laid ((World.doorLaid Tryd.prog 73 os).forCall (fun _ _ => 0) ⟨#[], args, []⟩).memory :=
  laidMetH_of_parts3 (fuel := 8) (laidMet_of_run' 8 (by kernel_rfl) (by kernel_rfl)) (by kernel_rfl) (by kernel_rfl)
set_option maxRecDepth 100000 in
theorem lifted (os : Os) (started : os.Started) (H : Type) (enc : TypeId × Value → H) :
    ReturnsInHanded {} Tryd.checked os 3 .any (fun w args => (Rows.fnFramesSpec.pre enc Tryd.prog Tryd.f3 [] false w args ∧ laidMetH Tryd.prog Rows.fnFramesRow.laid w) ∧ sizedMet enc Tryd.prog Tryd.f3 (OpenSpec.ofChange Rows.fnFramesSpec) false w args)
      (Rows.fnFramesSpec.post enc Tryd.prog Tryd.f3 false true false false) := by
  refine returnsInHanded_of_change_and (C := Tryd.checked) (X := fun w _ => laidMetH Tryd.prog Rows.fnFramesRow.laid w) (fun _ _ _ hh h => h.of_heap hh) own started (by kernel_rfl) Tryd.func3
    (ChangeSpec.witness_shaped (enc := enc) (C := Tryd.checked) (os := os) (X := fun w _ => laidMetH Tryd.prog Rows.fnFramesRow.laid w) false (World.doorLaid Tryd.prog 73 os) #[.slice none 0 0, .slice none 0 0] 8 rfl (World.shaped_of_RefB (by kernel_rfl) (by kernel_rfl)) (by kernel_rfl) (by kernel_rfl) (by kernel_rfl) (door_met os _)) ?_
  intro W base args ds gs before hval0 hW _ _ hL _
  have hval : ∀ (j : Nat) t v, Tryd.f3.params[j]? = some t → args[j]? = some v → Value.okWide Tryd.prog W .any base t v := hval0
  have hW' := hW
  obtain ⟨p, q, hA0, hV, rfl, hfz, hnd⟩ := hW
  have hA : DataW.TrodAll enc Tryd.prog W 0 (fun _ => true) true Tryd.f3.params.toList args.toList ds p := hA0
  rw [Tryd.params3] at hA hval
  obtain ⟨v0, vs0, d0, ds0, p0, q0, hargs, rfl, rfl, h0, r0⟩ := trodAll_cons hA
  obtain ⟨v1, vs1, d1, ds1, p1, q1, rfl, rfl, rfl, h1, r1⟩ := trodAll_cons r0
  obtain ⟨rfl, rfl, rfl⟩ := trodAll_nil r1
  obtain rfl : args = #[v0, v1] := by cases args; simp_all
  obtain ⟨g1, g2, g3, rfl⟩ : ∃ d1x d2x d3x, gs = [d1x, d2x, d3x] := vars_len3 hV
  have k0 := h0
  have lt0 : ∀ x ∈ p0, x.block < W.heap.size := by obtain ⟨m, hm⟩ := k0; exact DataW.trod_lt m _ _ _ hm
  have k1 := h1
  have lt1 : ∀ x ∈ p1, x.block < W.heap.size := by obtain ⟨m, hm⟩ := k1; exact DataW.trod_lt m _ _ _ hm
  obtain ⟨a0, len0, cap0, rfl⟩ := okWide_slice Tryd.underlying22 (hval 0 22 v0 rfl rfl)
  obtain ⟨l0, e0, w0, kc0⟩ : ∃ l : List UInt8, l.length = len0 ∧ Row8 W a0 l ∧ len0 ≤ cap0 := by
    obtain ⟨fuel, hf⟩ := h0
    rcases open_ints Tryd.underlying22 Tryd.underlying5 (by kernel_rfl) hf with ⟨hcs, _⟩ | ⟨x, l, c, zs, hcs, _, hl, hm, hz, _, hcell, hwz⟩
    · simp [Value.cells] at hcs
      obtain ⟨rfl, rfl, rfl⟩ := hcs
      exact ⟨[], rfl, .inl rfl, Nat.le_refl _⟩
    · simp [Value.cells] at hcs
      obtain ⟨rfl, rfl, rfl⟩ := hcs
      obtain ⟨lx, ex, rx⟩ := row8_ints hl (by simpa using hz) hcell hwz; exact ⟨lx, ex, rx, hl⟩
  obtain ⟨a1, len1, cap1, rfl⟩ := okWide_slice Tryd.underlying22 (hval 1 22 v1 rfl rfl)
  obtain ⟨l1, e1, w1, kc1⟩ : ∃ l : List UInt8, l.length = len1 ∧ Row8 W a1 l ∧ len1 ≤ cap1 := by
    obtain ⟨fuel, hf⟩ := h1
    rcases open_ints Tryd.underlying22 Tryd.underlying5 (by kernel_rfl) hf with ⟨hcs, _⟩ | ⟨x, l, c, zs, hcs, _, hl, hm, hz, _, hcell, hwz⟩
    · simp [Value.cells] at hcs
      obtain ⟨rfl, rfl, rfl⟩ := hcs
      exact ⟨[], rfl, .inl rfl, Nat.le_refl _⟩
    · simp [Value.cells] at hcs
      obtain ⟨rfl, rfl, rfl⟩ := hcs
      obtain ⟨lx, ex, rx⟩ := row8_ints hl (by simpa using hz) hcell hwz; exact ⟨lx, ex, rx, hl⟩
  have hT := errs_laidG hL
  clear hA0 hval0
  refine (walk W a0 len0 cap0 l0 e0 w0 kc0 a1 len1 cap1 l1 e1 w1 kc1 hT).mono fun e W' ⟨he, bel⟩ => ?_
  subst he
  exact ⟨_, rfl, _, _, _, [], _, _, hW', trodAll_mk1 (shut_bool Tryd.underlying4 _), (trodAll_cons_mk (Below.trod laidOut (by kernel_rfl) (of_decide_eq_true (by kernel_rfl)) k0 bel lt0) (trodAll_cons_mk (Below.trod laidOut (by kernel_rfl) (of_decide_eq_true (by kernel_rfl)) k1 bel lt1) trodAll_mk0)), Below.trodVars laidOut bel (by kernel_rfl) hV, bel.frame _, fun h => by cases h⟩

theorem said : Rows.FnFramesSaid :=
  OpenClaim.holds_of_wide 3 Tryd.f3 rfl rfl rfl rfl rfl rfl rfl ⟨rfl, rfl, rfl, rfl, rfl⟩ rfl rfl rfl rfl rfl (by kernel_rfl) Tryd.func3 (by kernel_rfl)
    (of_decide_eq_true (by kernel_rfl)) (by unfold Func.isWrapper; first | (rw [if_pos (by decide +kernel)]; kernel_rfl) | (rw [if_neg (by decide +kernel)]; exact ⟨rfl, rfl⟩))
    (fun os started H enc _ => lifted os started H enc)

theorem card : Rows.FnFramesCardSaid :=
  Claim7.holds_tied_plain_at .later [] _ _ _ _ said (fun _ h => by cases h) (by kernel_rfl) (fun _ h => by cases h) fnFrames_row_tie rfl ⟨rfl, rfl⟩ (by kernel_rfl) rfl
    (fun f fn hf hfn => by
      obtain rfl : f = 3 := Option.some.inj ((show Tryd.prog.funcNamed Tryd.f3.name = some 3 by kernel_rfl).symm.trans hf) |>.symm
      obtain rfl : fn = Tryd.f3 := (Option.some.inj (Tryd.func3.symm.trans hfn)).symm
      exact ⟨by kernel_rfl, fun j t ht => by
        rw [Tryd.params3] at ht
        have hm : t ∈ [22, 22] := by simpa using Array.mem_of_getElem? ht
        have hall : ([22, 22].all fun u => !Tryd.prog.wantsStandIn u) = true := by kernel_rfl
        exact (show Tryd.prog.wantsStandIn t = false by simpa using List.all_eq_true.1 hall t hm)⟩)
    (by kernel_rfl)
#print axioms card
end Go.Proofs.YtcojpgonjfilbaaDoor
