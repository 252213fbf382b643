/- At every argument that can be read, with the listed variables as the program text lays them, the law FnFields returns true and leaves its arguments as they were: the tied card. -/
import Derived.Test.YtoapgccpaockfaaDoorCards
import Derived.Test.YtoapgccpaockfaaDoorTie
import Derived.Test.YtoapgccpaockfaaDoorFfAll
import Derived.Test.YtoapgccpaockfaaDoorRowInts
import Derived.WalkKit
import Derived.ProofKit
import Derived.OpenShut
import Derived.ShutString
import Derived.ChangeOld
import Derived.Below
import Derived.OpenVars
import Derived.LaidMore
import Derived.Lay
import Derived.Stop.Joined
namespace Go.Proofs.YtoapgccpaockfaaDoor
open Go.ChangeShapes Go.WideShapes Go.ChangeAt Go.RowKit
open Go.ChangeMaps (open_string shut_string)
set_option linter.unusedVariables false

set_option maxHeartbeats 4000000 in
set_option maxRecDepth 100000 in
theorem walk (w : World) (a0 : Option Addr) (len0 cap0 : Nat) (l0 : List UInt8) (e0 : l0.length = len0) (w0 : Row8 w a0 l0) (kc0 : len0 ≤ cap0) (a1 : Option Addr) (len1 cap1 : Nat) (l1 : List UInt8) (e1 : l1.length = len1) (w1 : Row8 w a1 l1) (kc1 : len1 ≤ cap1) (hT : ErrsIn w) :
    Calls Tryd.prog 3 #[.slice a0 len0 cap0, .slice a1 len1 cap1] w fun e w' => e = .returned (.bool true) ∧ Below w.heap.size w w' := by
  subst e0 e1
  obtain ⟨ii, hi, hz0, hz1, hz2⟩ := info_parts Tryd.infR3
  have HW0 := hide w0
  have HE := hide hT
  have HKC := hide kc1
  by_cases big0 : 1048576 < l0.length
  · have b0 : (1048576 : Int) < (l0.length : Int) := by omega
    clear w0 w1 hT
    go_enter Tryd.func3, Tryd.ntmps3
    go_wp2_with fail
    go_ret
    exact ⟨rfl, Below.refl _ _⟩
  have b0 : ¬ (1048576 : Int) < (l0.length : Int) := by omega
  by_cases big1 : 1048576 < l1.length
  · have b1 : (1048576 : Int) < (l1.length : Int) := by omega
    clear w0 w1 hT
    go_enter Tryd.func3, Tryd.ntmps3
    go_wp2_with fail
    go_ret
    exact ⟨rfl, Below.refl _ _⟩
  have b1 : ¬ (1048576 : Int) < (l1.length : Int) := by omega
  have HS0 : Hid (l0.length ≤ 1048576) := by show _ ≤ _; omega
  have HS1 : Hid (l1.length ≤ 1048576) := by show _ ≤ _; omega
  have HR := hide (row8_V w1)
  clear w0 w1 hT big0 big1 kc0 kc1
  go_enter Tryd.func3, Tryd.ntmps3
  go_wp2_with fail
  refine (stextsOf a0 cap0 l0 (unhide HS0) _ (unhide HW0)).mono ?_
  rintro e wA ⟨m, am, cm, rfl, hm5, hm4, o1, hb1⟩
  have h60 : ¬ 60 < m.length := by omega
  have hsh : allShort m := fun k h => Nat.le_trans (hm4 k h) (by decide)
  have hsm : ¬ 65536 < fsum m := by have := fields_le m 4 hm4; unfold fsum; omega
  obtain ⟨f1, f2⟩ := fb_ok h60 hsh hsm
  obtain ⟨g1, g2⟩ := rf_fb m h60 hsh hsm
  rw [← f1] at g1 g2
  obtain ⟨r, hr⟩ : ∃ r, r = fbL m := ⟨_, rfl⟩
  rw [← hr] at g1 g2
  have HRR := hide hr
  have HFC : Hid ((0 : Int) = fbC m) := f2.symm
  have HRM : Hid (m = rfL r) := g1.symm
  have HRC : Hid ((0 : Int) = rfC r) := g2.symm
  have HRL : Hid (r.length ≤ 1048576) := by show _ ≤ _; rw [hr]; exact Nat.le_trans (fbL_le m) (by decide)
  have HML : Hid (m.length ≤ 1048576) := by show _ ≤ _; omega
  have HMZ : Hid (∀ k (h : k < m.length), m[k].size ≤ 1048576) := fun k h => Nat.le_trans (hm4 k h) (by decide)
  have B_0 := hide hb1
  have M_0 := hide (row_at o1)
  clear h60 hsh hsm f1 f2 g1 g2 hr hm4 o1 hb1
  go_wp2_with fail
  refine (ifieldsH am cm m r 0 (unhide HRR) (unhide HFC) (unhide HML) (unhide HMZ) _ (unhide M_0)).mono ?_
  rintro e wB ⟨v2, rfl, o2, hb2⟩
  obtain ⟨a2, c2, rfl, -⟩ := own_rowV o2
  have HC2 := hide (own_cap o2)
  have B_1 := hide ((unhide B_0).trans (hb2.mono (unhide B_0).size))
  clear B_0
  have M_2 := hide ((unhide M_0).below hb2)
  clear M_0
  have X_02 := hide (row_at o2)
  clear o2 hb2
  go_wp2_with fail
  refine (sfieldsH am cm m r 0 (unhide HRR) (unhide HFC) (unhide HML) (unhide HMZ) _ (unhide M_2)).mono ?_
  rintro e wC ⟨v3, rfl, o3, hb3⟩
  obtain ⟨a3, c3, rfl, -⟩ := own_rowV o3
  have HC3 := hide (own_cap o3)
  have B_3 := hide ((unhide B_1).trans (hb3.mono (unhide B_1).size))
  clear B_1
  have M_4 := hide ((unhide M_2).below hb3)
  clear M_2
  have X_5 := hide ((unhide X_02).below hb3)
  clear X_02
  have Y_03 := hide (row_at o3)
  clear o3 hb3
  go_wp2_with fail
  refine (ireadfieldsH a2 c2 r m 0 (unhide HRM) (unhide HRC) (unhide HRL) (unhide HC2) _ (unhide X_5) ((unhide HE).below (unhide B_3))).mono ?_
  rintro e wD ⟨v4, rfl, o4, hb4⟩
  obtain ⟨a4, c4, rfl, -⟩ := own_rowV o4
  have HC4 := hide (own_cap o4)
  have B_6 := hide ((unhide B_3).trans (hb4.mono (unhide B_3).size))
  clear B_3
  have M_7 := hide ((unhide M_4).below hb4)
  clear M_4
  have X_8 := hide ((unhide X_5).below hb4)
  clear X_5
  have Y_9 := hide ((unhide Y_03).below hb4)
  clear Y_03
  have K_04 := hide (row_at o4)
  clear o4 hb4
  have cv1 := conv_row8 (P := Tryd.prog) (cap := c2) (src := 22) (dst := 9) (e := 5) Tryd.underlying22 Tryd.underlying5 Tryd.underlying9 (rowV_8 (unhide X_8))
  have cv2 := conv_row8 (P := Tryd.prog) (cap := c3) (src := 22) (dst := 9) (e := 5) Tryd.underlying22 Tryd.underlying5 Tryd.underlying9 (rowV_8 (unhide Y_9))
  obtain ⟨t, ht⟩ : ∃ t : ByteArray, t = ⟨r.toArray⟩ := ⟨_, rfl⟩
  rw [← ht] at cv1 cv2
  clear ht
  have nt : (t.toList != t.toList) = false := by simp
  go_wp2_with fail
  refine (sameTexts a4 am c4 cm m (unhide HML) _ (unhide K_04) (unhide M_7)).mono ?_
  rintro e wE ⟨rfl, hb5⟩
  clear M_7
  clear X_8
  clear Y_9
  clear K_04
  have B_10 := hide ((unhide B_6).trans (hb5.mono (unhide B_6).size))
  clear B_6
  clear hb5 cv1 cv2 nt HRR HFC HRM HRC HRL HML HMZ HC2 HC3 HC4
  go_wp2_with fail
  have HO5 := hide (lit_emptyI wE wE.heap.size 3 (Nat.le_refl _))
  have HB5 := hide ((unhide B_10).alloc (unhide B_10).size (.cells #[] 3))
  have zE : w.heap.size ≤ wE.heap.size := (unhide B_10).size
  clear B_10
  go_loopw [12, 13] (fun v i wr => ∃ (k : Nat) (ns : List Int), k ≤ 8 ∧ ns.length = k ∧ i = .int .i64 k ∧ wE.heap.size ≤ wr.heap.size ∧ Hid (allFit ns) ∧ Hid (wr.ownsRow wE.heap.size 3 1 v ns.length (cI ns)) ∧ Hid (Below w.heap.size w wr)) (fun _ i _ => 9 - (intOf i).toNat)
  case atStart => exact ⟨0, [], by omega, rfl, rfl, by simp, (fun k h => absurd h (by simp)), HO5, HB5⟩
  case round =>
    clear HO5 HB5
    obtain ⟨k, ns, hk, hns, rfl, zr, HF, HO, HB⟩ := hrel
    have HNS := hide hns
    have hn8 : ns.length ≤ 8 := by omega
    clear hns
    have T := lat a1 cap1 l1 0 9 (unhide HS1) (by decide) (by decide) (by decide) wr ((unhide HR).below (unhide HB))
    change Calls _ _ #[_, .int .i64 0, .int .i64 9] _ _ at T
    have HT := hide T
    clear T
    go_wp2_with fail
    refine (unhide HT).mono ?_
    rintro e wF ⟨v, rfl, hv, hb6⟩
    have HO6 := hide ((held_of (unhide HO)).below hb6 (Nat.le_refl _)).own
    have HB6 := hide ((unhide HB).trans (hb6.mono (unhide HB).size))
    have zF : wE.heap.size ≤ wF.heap.size := by have := hb6.size; omega
    clear hb6 HT HO HB
    by_cases hlt : k < v
    · have hlt' : (k : Int) < (v : Int) := by omega
      have T := lat a1 cap1 l1 (k + 1) 70000 (unhide HS1) (by omega) (by decide) (by decide) wF ((unhide HR).below (unhide HB6))
      rw [show ((k + 1 : Nat) : Int) = (k : Int) + 1 from by omega] at T
      change Calls _ _ #[_, _, .int .i64 70000] _ _ at T
      have HT := hide T
      clear T
      go_wp2_with fail
      refine (unhide HT).mono ?_
      rintro e wG ⟨u, rfl, hu, hb7⟩
      have hown := ((held_of (unhide HO6)).below hb7 (Nat.le_refl _)).own
      have HB7 := hide ((unhide HB6).trans (hb7.mono (unhide HB6).size))
      have zG : wE.heap.size ≤ wG.heap.size := by have := hb7.size; omega
      clear hb7 HT HO6 HB6
      obtain ⟨z, hz⟩ : ∃ z : Int, z = (u : Int) * 200 - 1 := ⟨_, rfl⟩
      have hz' := hz.symm
      have HF7 : Hid (allFit (ns ++ [z])) := by
        intro j hj
        rw [List.length_append, List.length_singleton] at hj
        by_cases hj2 : j < ns.length
        · rw [List.getElem_append_left hj2]; exact unhide HF j hj2
        · have : j = ns.length := by omega
          subst this
          rw [List.getElem_concat_length rfl]; unfold fitsN; omega
      clear hz
      go_wp2_with (at_builtin; refine wpList_append_lies _ rfl (.tmp 77) (.tmp 84) 30 rfl wE.heap.size 3 ii (.int .i64 0) 1 8 Tryd.underlying30 hi hz0 hz1 hz2 rfl (by decide) _ _ _ rfl (hown.alloc _) ⟨wG.heap.size, 0, none⟩ 1 1 (cI [z]) rfl rfl (by exact news_new wG (cI [z]) 3) (cI_one _) (by decide) (by unfold maxLen; omega) (by omega) (by simp; omega) _ rfl ?_; intro g3 c3 w3 hown3 hgrow3 hat3 hlt3; have HO3 := hide (own_appI (l := ns) (m := [z]) hown3 rfl); have HB3 := hide (((unhide HB7).alloc (unhide HB7).size (.cells #[.int .i64 z] 3)).grown hgrow3 (by have := (unhide HB7).size; simp; omega) (fun j hj => by have := (hown.lt j hj).1; omega)); have z3 : wE.heap.size ≤ w3.heap.size := (by have := hgrow3.size; simp at this; omega); clear hown hown3 hgrow3 hat3 hlt3 HB7)
      go_roundw
      case rel => exact ⟨k + 1, ns ++ [z], by omega, by rw [List.length_append, unhide HNS]; rfl, by go_num, z3, HF7, HO3, HB3⟩
      case measure => simp [intOf]; omega
    · have hlt' : ¬ (k : Int) < (v : Int) := by omega
      obtain ⟨an, cn, rfl, -⟩ := own_rowV (unhide HO6)
      obtain ⟨n1, n2, n3⟩ := rn_nb ns (by omega) (unhide HF)
      obtain ⟨r2, hr2⟩ : ∃ r, r = nbL ns := ⟨_, rfl⟩
      rw [← hr2] at n1 n2
      have HNR := hide hr2
      have HNC : Hid ((0 : Int) = nbC ns) := n3.symm
      have HNB : Hid (ns = rnL r2) := n1.symm
      have HND : Hid ((0 : Int) = rnC r2) := n2.symm
      have HNL : Hid (ns.length ≤ 1048576) := by show _ ≤ _; omega
      have HN2 : Hid (r2.length ≤ 1048576) := by show _ ≤ _; rw [hr2]; exact Nat.le_trans (nbL_le ns) (by decide)
      have N_0 := hide (row_at (unhide HO6))
      clear n1 n2 n3 hr2 HO6 HF hlt hv HNS
      go_wp2_with fail
      refine (inumbersH an cn ns r2 0 (unhide HNR) (unhide HNC) (unhide HNL) _ (unhide N_0)).mono ?_
      rintro e wH ⟨v7, rfl, o7, hb7⟩
      obtain ⟨a7, c7, rfl, -⟩ := own_rowV o7
      have HC7 := hide (own_cap o7)
      have B_11 := hide ((unhide HB6).trans (hb7.mono (unhide HB6).size))
      clear HB6
      have N_12 := hide ((unhide N_0).below hb7)
      clear N_0
      have X_07 := hide (row_at o7)
      clear o7 hb7
      go_wp2_with fail
      refine (snumbersH an cn ns r2 0 (unhide HNR) (unhide HNC) (unhide HNL) _ (unhide N_12)).mono ?_
      rintro e wI ⟨v8, rfl, o8, hb8⟩
      obtain ⟨a8, c8, rfl, -⟩ := own_rowV o8
      have HC8 := hide (own_cap o8)
      have B_13 := hide ((unhide B_11).trans (hb8.mono (unhide B_11).size))
      clear B_11
      have N_14 := hide ((unhide N_12).below hb8)
      clear N_12
      have X_15 := hide ((unhide X_07).below hb8)
      clear X_07
      have Y_08 := hide (row_at o8)
      clear o8 hb8
      go_wp2_with fail
      refine (ireadnumsH a7 c7 r2 ns 0 (unhide HNB) (unhide HND) (unhide HN2) (unhide HC7) _ (unhide X_15)).mono ?_
      rintro e wJ ⟨v9, rfl, o9, hb9⟩
      obtain ⟨a9, c9, rfl, -⟩ := own_rowV o9
      have HC9 := hide (own_cap o9)
      have B_16 := hide ((unhide B_13).trans (hb9.mono (unhide B_13).size))
      clear B_13
      have N_17 := hide ((unhide N_14).below hb9)
      clear N_14
      have X_18 := hide ((unhide X_15).below hb9)
      clear X_15
      have Y_19 := hide ((unhide Y_08).below hb9)
      clear Y_08
      have K_09 := hide (row_at o9)
      clear o9 hb9
      have cv1 := conv_row8 (P := Tryd.prog) (cap := c7) (src := 22) (dst := 9) (e := 5) Tryd.underlying22 Tryd.underlying5 Tryd.underlying9 (rowV_8 (unhide X_18))
      have cv2 := conv_row8 (P := Tryd.prog) (cap := c8) (src := 22) (dst := 9) (e := 5) Tryd.underlying22 Tryd.underlying5 Tryd.underlying9 (rowV_8 (unhide Y_19))
      obtain ⟨t, ht⟩ : ∃ t : ByteArray, t = ⟨r2.toArray⟩ := ⟨_, rfl⟩
      rw [← ht] at cv1 cv2
      clear ht
      have nt : (t.toList != t.toList) = false := by simp
      go_wp2_with fail
      refine (sameInts a9 an c9 cn ns (unhide HNL) _ (unhide K_09) (unhide N_17)).mono ?_
      rintro e wK ⟨rfl, hb5⟩
      clear N_17
      clear X_18
      clear Y_19
      clear K_09
      have B_20 := hide ((unhide B_16).trans (hb5.mono (unhide B_16).size))
      clear B_16
      clear hb5 cv1 cv2 nt HNR HNC HNB HND HNL HN2 HC7 HC8 HC9
      obtain ⟨z, hz⟩ : ∃ z, z = rfL l1 := ⟨_, rfl⟩
      obtain ⟨c, hc⟩ : ∃ c, c = rfC l1 := ⟨_, rfl⟩
      have HZ := hide hz
      have HC := hide hc
      have ncc : (c != c) = false := by simp
      have HZL : Hid (z.length ≤ 1048576) := by show _ ≤ _; rw [hz]; exact Nat.le_trans (rfL_le l1) (by decide)
      have HZZ : Hid (∀ k (h : k < z.length), z[k].size ≤ 1048576) := by rw [hz]; exact fun k h => Nat.le_trans (rf_short l1 k h) (by decide)
      have HFB : Hid (c = 0 → l1 = fbL z ∧ (0 : Int) = fbC z) := fun h => by rw [hz]; have := fb_rf l1 (by rw [← hc]; exact h); exact ⟨this.1.symm, this.2.symm⟩
      clear hz hc
      go_wp2_with fail
      refine (ireadfieldsH a1 cap1 l1 z c (unhide HZ) (unhide HC) (unhide HS1) (unhide HKC) _ ((unhide HR).below (unhide B_20)) ((unhide HE).below (unhide B_20))).mono ?_
      rintro e wL ⟨v10, rfl, o10, hb10⟩
      obtain ⟨a10, c10, rfl, -⟩ := own_rowV o10
      have HC10 := hide (own_cap o10)
      have B_21 := hide ((unhide B_20).trans (hb10.mono (unhide B_20).size))
      clear B_20
      have X_010 := hide (row_at o10)
      clear o10 hb10
      go_wp2_with fail
      refine (sreadfieldsH a1 cap1 l1 z c (unhide HZ) (unhide HC) (unhide HS1) (unhide HKC) _ ((unhide HR).below (unhide B_21))).mono ?_
      rintro e wM ⟨v11, rfl, o11, hb11⟩
      obtain ⟨a11, c11, rfl, -⟩ := own_rowV o11
      have HC11 := hide (own_cap o11)
      have B_22 := hide ((unhide B_21).trans (hb11.mono (unhide B_21).size))
      clear B_21
      have X_23 := hide ((unhide X_010).below hb11)
      clear X_010
      have Y_011 := hide (row_at o11)
      clear o11 hb11
      by_cases hc0 : c = 0
      · obtain ⟨d1, d2⟩ := unhide HFB hc0
        have HD1 := hide d1
        have HD2 := hide d2
        subst hc0
        clear d1 d2 HFB
        go_wp2_with fail
        refine (ifieldsH a10 c10 z l1 0 (unhide HD1) (unhide HD2) (unhide HZL) (unhide HZZ) _ (unhide X_23)).mono ?_
        rintro e wN ⟨v12, rfl, o12, hb12⟩
        obtain ⟨a12, c12, rfl, -⟩ := own_rowV o12
        have HC12 := hide (own_cap o12)
        have B_24 := hide ((unhide B_22).trans (hb12.mono (unhide B_22).size))
        clear B_22
        have X_25 := hide ((unhide X_23).below hb12)
        clear X_23
        have Y_26 := hide ((unhide Y_011).below hb12)
        clear Y_011
        have Q_012 := hide (row_at o12)
        clear o12 hb12
        have cv1 := conv_row8 (P := Tryd.prog) (cap := c12) (src := 22) (dst := 9) (e := 5) Tryd.underlying22 Tryd.underlying5 Tryd.underlying9 (rowV_8 (unhide Q_012))
        have cv2 := conv_row8 (P := Tryd.prog) (cap := cap1) (src := 22) (dst := 9) (e := 5) Tryd.underlying22 Tryd.underlying5 Tryd.underlying9 (rowV_8 ((unhide HR).below (unhide B_24)))
        obtain ⟨t, ht⟩ : ∃ t : ByteArray, t = ⟨l1.toArray⟩ := ⟨_, rfl⟩
        rw [← ht] at cv1 cv2
        clear ht
        have nt : (t.toList == t.toList) = true := by simp
        go_wp2_with fail
        go_ret
        exact ⟨rfl, (unhide B_24)⟩
      · have nc0 : (c != 0) = true := bne_iff_ne.2 hc0
        clear HFB
        go_wp2_with fail
        go_ret
        exact ⟨rfl, (unhide B_22)⟩

theorem own : ownKnob Tryd.prog.godebug = none := by kernel_rfl
theorem laidOut : laidOutB Tryd.prog = true := by kernel_rfl
theorem door_met (os : Os) (args : Array Value) : laidMetH Tryd.prog Rows.fnFieldsRow.laid ((World.doorLaid Tryd.prog 73 os).forCall (fun _ _ => 0) ⟨#[], args, []⟩).memory :=
  laidMetH_of_parts3 (fuel := 8) (laidMet_of_run' 8 (by kernel_rfl) (by kernel_rfl)) (by kernel_rfl) (by kernel_rfl)
set_option maxRecDepth 100000 in
theorem lifted (os : Os) (started : os.Started) (H : Type) (enc : TypeId × Value → H) :
    ReturnsInHanded {} Tryd.checked os 3 .any (fun w args => (Rows.fnFieldsSpec.pre enc Tryd.prog Tryd.f3 [] false w args ∧ laidMetH Tryd.prog Rows.fnFieldsRow.laid w) ∧ sizedMet enc Tryd.prog Tryd.f3 (OpenSpec.ofChange Rows.fnFieldsSpec) false w args)
      (Rows.fnFieldsSpec.post enc Tryd.prog Tryd.f3 false true false false) := by
  refine returnsInHanded_of_change_and (C := Tryd.checked) (X := fun w _ => laidMetH Tryd.prog Rows.fnFieldsRow.laid w) (fun _ _ _ hh h => h.of_heap hh) own started (by kernel_rfl) Tryd.func3
    (ChangeSpec.witness_shaped (enc := enc) (C := Tryd.checked) (os := os) (X := fun w _ => laidMetH Tryd.prog Rows.fnFieldsRow.laid w) false (World.doorLaid Tryd.prog 73 os) #[.slice none 0 0, .slice none 0 0] 8 rfl (World.shaped_of_RefB (by kernel_rfl) (by kernel_rfl)) (by kernel_rfl) (by kernel_rfl) (by kernel_rfl) (door_met os _)) ?_
  intro W base args ds gs before hval0 hW _ _ hL _
  have hval : ∀ (j : Nat) t v, Tryd.f3.params[j]? = some t → args[j]? = some v → Value.okWide Tryd.prog W .any base t v := hval0
  have hW' := hW
  obtain ⟨p, q, hA0, hV, rfl, hfz, hnd⟩ := hW
  have hA : DataW.TrodAll enc Tryd.prog W 0 (fun _ => true) true Tryd.f3.params.toList args.toList ds p := hA0
  rw [Tryd.params3] at hA hval
  obtain ⟨v0, vs0, d0, ds0, p0, q0, hargs, rfl, rfl, h0, r0⟩ := trodAll_cons hA
  obtain ⟨v1, vs1, d1, ds1, p1, q1, rfl, rfl, rfl, h1, r1⟩ := trodAll_cons r0
  obtain ⟨rfl, rfl, rfl⟩ := trodAll_nil r1
  obtain rfl : args = #[v0, v1] := by cases args; simp_all
  obtain ⟨g1, g2, g3, rfl⟩ : ∃ d1x d2x d3x, gs = [d1x, d2x, d3x] := vars_len3 hV
  have k0 := h0
  have lt0 : ∀ x ∈ p0, x.block < W.heap.size := by obtain ⟨m, hm⟩ := k0; exact DataW.trod_lt m _ _ _ hm
  have k1 := h1
  have lt1 : ∀ x ∈ p1, x.block < W.heap.size := by obtain ⟨m, hm⟩ := k1; exact DataW.trod_lt m _ _ _ hm
  obtain ⟨a0, len0, cap0, rfl⟩ := okWide_slice Tryd.underlying22 (hval 0 22 v0 rfl rfl)
  obtain ⟨l0, e0, w0, kc0⟩ : ∃ l : List UInt8, l.length = len0 ∧ Row8 W a0 l ∧ len0 ≤ cap0 := by
    obtain ⟨fuel, hf⟩ := h0
    rcases open_ints Tryd.underlying22 Tryd.underlying5 (by kernel_rfl) hf with ⟨hcs, _⟩ | ⟨x, l, c, zs, hcs, _, hl, hm, hz, _, hcell, hwz⟩
    · simp [Value.cells] at hcs
      obtain ⟨rfl, rfl, rfl⟩ := hcs
      exact ⟨[], rfl, .inl rfl, Nat.le_refl _⟩
    · simp [Value.cells] at hcs
      obtain ⟨rfl, rfl, rfl⟩ := hcs
      obtain ⟨lx, ex, rx⟩ := row8_ints hl (by simpa using hz) hcell hwz; exact ⟨lx, ex, rx, hl⟩
  obtain ⟨a1, len1, cap1, rfl⟩ := okWide_slice Tryd.underlying22 (hval 1 22 v1 rfl rfl)
  obtain ⟨l1, e1, w1, kc1⟩ : ∃ l : List UInt8, l.length = len1 ∧ Row8 W a1 l ∧ len1 ≤ cap1 := by
    obtain ⟨fuel, hf⟩ := h1
    rcases open_ints Tryd.underlying22 Tryd.underlying5 (by kernel_rfl) hf with ⟨hcs, _⟩ | ⟨x, l, c, zs, hcs, _, hl, hm, hz, _, hcell, hwz⟩
    · simp [Value.cells] at hcs
      obtain ⟨rfl, rfl, rfl⟩ := hcs
      exact ⟨[], rfl, .inl rfl, Nat.le_refl _⟩
    · simp [Value.cells] at hcs
      obtain ⟨rfl, rfl, rfl⟩ := hcs
      obtain ⟨lx, ex, rx⟩ := row8_ints hl (by simpa using hz) hcell hwz; exact ⟨lx, ex, rx, hl⟩
  have hT := errs_laidF hL
  clear hA0 hval0
  refine (walk W a0 len0 cap0 l0 e0 w0 kc0 a1 len1 cap1 l1 e1 w1 kc1 hT).mono fun e W' ⟨he, bel⟩ => ?_
  subst he
  exact ⟨_, rfl, _, _, _, [], _, _, hW', trodAll_mk1 (shut_bool Tryd.underlying4 _), (trodAll_cons_mk (Below.trod laidOut (by kernel_rfl) (of_decide_eq_true (by kernel_rfl)) k0 bel lt0) (trodAll_cons_mk (Below.trod laidOut (by kernel_rfl) (of_decide_eq_true (by kernel_rfl)) k1 bel lt1) trodAll_mk0)), Below.trodVars laidOut bel (by kernel_rfl) hV, bel.frame _, fun h => by cases h⟩

theorem said : Rows.FnFieldsSaid :=
  OpenClaim.holds_of_wide 3 Tryd.f3 rfl rfl rfl rfl rfl rfl rfl ⟨rfl, rfl, rfl, rfl, rfl⟩ rfl rfl rfl rfl rfl (by kernel_rfl) Tryd.func3 (by kernel_rfl)
    (of_decide_eq_true (by kernel_rfl)) (by unfold Func.isWrapper; first | (rw [if_pos (by decide +kernel)]; kernel_rfl) | (rw [if_neg (by decide +kernel)]; exact ⟨rfl, rfl⟩))
    (fun os started H enc _ => lifted os started H enc)

theorem card : Rows.FnFieldsCardSaid :=
  Claim7.holds_tied_plain_at .later [] _ _ _ _ said (fun _ h => by cases h) (by kernel_rfl) (fun _ h => by cases h) fnFields_row_tie rfl ⟨rfl, rfl⟩ (by kernel_rfl) rfl
    (fun f fn hf hfn => by
      obtain rfl : f = 3 := Option.some.inj ((show Tryd.prog.funcNamed Tryd.f3.name = some 3 by kernel_rfl).symm.trans hf) |>.symm
      obtain rfl : fn = Tryd.f3 := (Option.some.inj (Tryd.func3.symm.trans hfn)).symm
      exact ⟨by kernel_rfl, fun j t ht => by
        rw [Tryd.params3] at ht
        have hm : t ∈ [22, 22] := by simpa using Array.mem_of_getElem? ht
        have hall : ([22, 22].all fun u => !Tryd.prog.wantsStandIn u) = true := by kernel_rfl
        exact (show Tryd.prog.wantsStandIn t = false by simpa using List.all_eq_true.1 hall t hm)⟩)
    (by kernel_rfl)
#print axioms card
end Go.Proofs.YtoapgccpaockfaaDoor
