/- At every argument that can be read, with the listed variables as the program text lays them, the law FnCommands returns true and leaves its arguments as they were: the tied card. -/
import Derived.Test.YtoplijjddhecgaaDoorCards
import Derived.Test.YtoplijjddhecgaaDoorTie
import Derived.Test.YtoplijjddhecgaaDoorZG48
import Derived.WalkKit
import Derived.ProofKit
import Derived.OpenShut
import Derived.ShutString
import Derived.ChangeOld
import Derived.Below
import Derived.OpenVars
import Derived.LaidMore
import Derived.Lay
import Derived.Stop.Joined
namespace Go.Proofs.YtoplijjddhecgaaDoor
open Go.ChangeShapes Go.WideShapes Go.ChangeAt Go.RowKit
open Go.ChangeMaps (open_string shut_string)
set_option linter.unusedVariables false

set_option maxHeartbeats 1000000 in
set_option maxRecDepth 100000 in
theorem run_neCmd (w : World) (k cl sq pn n ep : Int) (r : Bool) (nm dt : ByteArray) : (binOp .neq 24 (.agg #[.int .i64 k, .int .i64 cl, .int .i64 sq, .int .i64 pn, .int .i64 n, .int .i64 ep, .bool r, .string nm, .string dt]) (.agg #[.int .i64 k, .int .i64 cl, .int .i64 sq, .int .i64 pn, .int .i64 n, .int .i64 ep, .bool r, .string nm, .string dt])).run Tryd.prog w = .ok (.bool false) w := by
  go_simp
attribute [local go_sem ↓] run_neCmd
set_option maxHeartbeats 4000000 in
set_option maxRecDepth 100000 in
theorem walk (w : World) (a0 : Option Addr) (len0 cap0 : Nat) (l0 : List UInt8) (e0 : l0.length = len0) (w0 : Row8 w a0 l0) (kc0 : len0 ≤ cap0) (a1 : Option Addr) (len1 cap1 : Nat) (l1 : List UInt8) (e1 : l1.length = len1) (w1 : Row8 w a1 l1) (kc1 : len1 ≤ cap1) (hT : ErrsIn w) :
    Calls Tryd.prog 3 #[.slice a0 len0 cap0, .slice a1 len1 cap1] w fun e w' => e = .returned (.bool true) ∧ Below w.heap.size w w' := by
  subst e0 e1
  have HW0 := hide w0
  have HE := hide hT
  have HKC := hide kc1
  by_cases big0 : 1048576 < l0.length
  · have b0 : (1048576 : Int) < (l0.length : Int) := by omega
    clear w0 w1 hT
    go_enter Tryd.func3, Tryd.ntmps3
    go_wp2_with fail
    go_ret
    exact ⟨rfl, Below.refl _ _⟩
  have b0 : ¬ (1048576 : Int) < (l0.length : Int) := by omega
  by_cases big1 : 1048576 < l1.length
  · have b1 : (1048576 : Int) < (l1.length : Int) := by omega
    clear w0 w1 hT
    go_enter Tryd.func3, Tryd.ntmps3
    go_wp2_with fail
    go_ret
    exact ⟨rfl, Below.refl _ _⟩
  have b1 : ¬ (1048576 : Int) < (l1.length : Int) := by omega
  have HS0 : Hid (l0.length ≤ 1048576) := by show _ ≤ _; omega
  have HS1 : Hid (l1.length ≤ 1048576) := by show _ ≤ _; omega
  have HR := hide (row8_V w1)
  clear w0 w1 hT big0 big1 kc0 kc1
  go_enter Tryd.func3, Tryd.ntmps3
  have T := lat a1 cap1 l1 0 201 (unhide HS1) (by decide) (by decide) (by decide) w (unhide HR)
  change Calls _ _ #[_, .int .i64 0, .int .i64 201] _ _ at T
  have HT := hide T
  clear T
  go_wp2_with fail
  refine (unhide HT).mono ?_
  rintro e wA ⟨v, rfl, hv, hb⟩
  clear HT
  have B_0 := hide hb
  clear hb
  have T := lat a1 cap1 l1 1 60000 (unhide HS1) (by decide) (by decide) (by decide) wA ((unhide HR).below (unhide B_0))
  change Calls _ _ #[_, .int .i64 1, .int .i64 60000] _ _ at T
  have HT := hide T
  clear T
  go_wp2_with fail
  refine (unhide HT).mono ?_
  rintro e wB ⟨u, rfl, hu, hb⟩
  clear HT
  have B_1 := hide ((unhide B_0).trans (hb.mono (unhide B_0).size))
  clear B_0
  clear hb
  obtain ⟨sq, hsq⟩ : ∃ sq : Int, (1 : Int) + (u : Int) = sq := ⟨_, rfl⟩
  obtain ⟨cl, hcl⟩ : ∃ cl : Int, (v : Int) = cl := ⟨_, rfl⟩
  have isq : inB sq 1 60000 = true := in_yes ⟨by omega, by omega⟩
  have icl : inB cl 0 200 = true := in_yes ⟨by omega, by omega⟩
  rw [hcl]
  have HI1 := hide isq
  have HI2 := hide icl
  clear isq icl hcl hv
  go_wp2_with fail
  refine (scommandOf cl sq (unhide HI2) (unhide HI1) a0 cap0 l0 (Nat.le_trans (unhide HS0) (by decide)) _ ((unhide HW0).below (unhide B_1))).mono ?_
  rintro e wC ⟨k, pn, n, ep, r, nm, dt, rfl, hok, hb⟩
  have B_2 := hide ((unhide B_1).trans (hb.mono (unhide B_1).size))
  clear B_1
  clear hb
  clear hsq hu
  obtain ⟨L, hL⟩ : ∃ L, cbL k cl sq pn n ep r nm dt = L := ⟨_, rfl⟩
  have hrc := rc_cb ⟨k, cl, sq, pn, n, ep, r, nm, dt⟩ hok
  rw [show (⟨k, cl, sq, pn, n, ep, r, nm, dt⟩ : Cm).bytes = L from hL] at hrc
  have hcp := cmd_parts hok
  have HNM : Hid (nm.size ≤ 1048576) := Nat.le_trans hcp.2.2.2.2.2.2.1 (by decide)
  have HDT : Hid (dt.size ≤ 1048576) := Nat.le_trans hcp.2.2.2.2.2.2.2 (by decide)
  have HOK : Hid (true = cmdB k cl sq pn n ep r nm dt) := hok.symm
  have HL : Hid (L = cbV true k cl sq pn n ep r nm dt) := by show _ = _; rw [← hL]; rfl
  have HC : Hid ((0 : Int) = cbC true) := rfl
  have HLL : Hid (L.length ≤ 1048576) := by show _ ≤ _; rw [unhide HL]; exact cb_len true _ _ _ _ _ _ _ _ _ hok.symm
  have HV := hide hrc.1
  have HRC := hide hrc.2.symm
  clear hL hrc hcp hok HI1 HI2
  have B_3 := hide ((unhide B_2).alloc (unhide B_2).size (.cells #[.int .i64 k, .int .i64 cl, .int .i64 sq, .int .i64 pn, .int .i64 n, .int .i64 ep, .bool r, .string nm, .string dt] 24))
  clear B_2
  have X_4 := hide (BF.new wC #[.int .i64 k, .int .i64 cl, .int .i64 sq, .int .i64 pn, .int .i64 n, .int .i64 ep, .bool r, .string nm, .string dt] 24)
  have kX := (unhide X_4).S
  go_wp2_with fail
  refine (icmdb k cl sq pn n ep r nm dt HNM HDT true HOK L HL 0 HC _).mono ?_
  rintro e w1 ⟨v1, rfl, o1, hb⟩
  clear kX
  obtain ⟨a1x, c1, rfl, -⟩ := own_rowV o1
  have HC1 := hide (own_cap o1)
  have B_5 := hide ((unhide B_3).trans (hb.mono (unhide B_3).size))
  clear B_3
  have X_6 := hide ((unhide X_4).below hb)
  clear X_4
  clear hb
  have R1_7 := hide (row_at o1)
  clear o1
  have kX := (unhide X_6).S
  go_wp2_with fail
  refine (scmdb k cl sq pn n ep r nm dt HNM HDT true HOK L HL 0 HC _).mono ?_
  rintro e w2 ⟨a2, c2, rfl, o2, hb⟩
  clear kX
  have B_8 := hide ((unhide B_5).trans (hb.mono (unhide B_5).size))
  clear B_5
  have X_9 := hide ((unhide X_6).below hb)
  clear X_6
  have R1_10 := hide ((unhide R1_7).below hb)
  clear R1_7
  clear hb
  have R2_11 := hide (RowIn.row o2)
  clear o2
  go_wp2_with fail
  refine (ireadcmd a1x c1 L (unhide HLL) (unhide HC1) k cl sq pn n ep r nm dt (unhide HV) 0 (unhide HRC) _ (unhide R1_10) ((unhide HE).below (unhide B_8))).mono ?_
  rintro e w3 ⟨rfl, hb⟩
  have B_12 := hide ((unhide B_8).trans (hb.mono (unhide B_8).size))
  clear B_8
  have X_13 := hide ((unhide X_9).below hb)
  clear X_9
  have R1_14 := hide ((unhide R1_10).below hb)
  clear R1_10
  have R2_15 := hide ((unhide R2_11).below hb)
  clear R2_11
  clear hb
  have B_16 := hide ((unhide B_12).alloc (unhide B_12).size (.cells #[.int .i64 k, .int .i64 cl, .int .i64 sq, .int .i64 pn, .int .i64 n, .int .i64 ep, .bool r, .string nm, .string dt] 24))
  clear B_12
  have X_17 := hide ((unhide X_13).alloc (.cells #[.int .i64 k, .int .i64 cl, .int .i64 sq, .int .i64 pn, .int .i64 n, .int .i64 ep, .bool r, .string nm, .string dt] 24))
  clear X_13
  have R1_18 := hide ((unhide R1_14).below (Go.Joins.below_alloc1 _ (.cells #[.int .i64 k, .int .i64 cl, .int .i64 sq, .int .i64 pn, .int .i64 n, .int .i64 ep, .bool r, .string nm, .string dt] 24)))
  clear R1_14
  have R2_19 := hide ((unhide R2_15).below (Go.Joins.below_alloc1 _ (.cells #[.int .i64 k, .int .i64 cl, .int .i64 sq, .int .i64 pn, .int .i64 n, .int .i64 ep, .bool r, .string nm, .string dt] 24)))
  clear R2_15
  have Y_20 := hide (BF.new w3 #[.int .i64 k, .int .i64 cl, .int .i64 sq, .int .i64 pn, .int .i64 n, .int .i64 ep, .bool r, .string nm, .string dt] 24)
  have cv1 := conv_row8 (P := Tryd.prog) (cap := c1) (src := 22) (dst := 9) (e := 5) Tryd.underlying22 Tryd.underlying5 Tryd.underlying9 (rowV_8 (unhide R1_18))
  have cv2 := conv_row8 (P := Tryd.prog) (cap := c2) (src := 22) (dst := 9) (e := 5) Tryd.underlying22 Tryd.underlying5 Tryd.underlying9 (rowV_8 (unhide R2_19))
  obtain ⟨t, ht⟩ : ∃ t : ByteArray, t = ⟨L.toArray⟩ := ⟨_, rfl⟩
  rw [← ht] at cv1 cv2
  clear ht
  have nt : (t.toList != t.toList) = false := by simp
  have kX := (unhide X_17).S
  have kY := (unhide Y_20).S
  go_wp2_with fail
  refine (icmd k cl sq pn n ep r nm dt HNM HDT true HOK _).mono ?_
  rintro e w4 ⟨rfl, hb⟩
  clear kX kY
  have B_21 := hide ((unhide B_16).trans (hb.mono (unhide B_16).size))
  clear B_16
  have X_22 := hide ((unhide X_17).below hb)
  clear X_17
  have R1_23 := hide ((unhide R1_18).below hb)
  clear R1_18
  have R2_24 := hide ((unhide R2_19).below hb)
  clear R2_19
  have Y_25 := hide ((unhide Y_20).below hb)
  clear Y_20
  clear hb
  clear X_22
  clear Y_25
  clear R1_23
  clear R2_24
  clear cv1 cv2 nt HNM HDT HOK HL HC HLL HV HRC HC1
  obtain ⟨⟨k2, cl2, sq2, pn2, n2, ep2, r2, nm2, dt2⟩, hV⟩ : ∃ c, rcV l1 = c := ⟨_, rfl⟩
  obtain ⟨c, hc⟩ : ∃ c, c = rcC l1 := ⟨_, rfl⟩
  have HV := hide hV
  have HC := hide hc
  have ncc : (c != c) = false := by simp
  have HFB : Hid (c = 0 → cmdB k2 cl2 sq2 pn2 n2 ep2 r2 nm2 dt2 = true ∧ cbL k2 cl2 sq2 pn2 n2 ep2 r2 nm2 dt2 = l1) := fun h => by
    have h2 := cb_rc l1 (by rw [← hc]; exact h)
    rw [hV] at h2
    exact h2
  clear hV hc
  go_wp2_with fail
  refine (ireadcmd a1 cap1 l1 (unhide HS1) (unhide HKC) k2 cl2 sq2 pn2 n2 ep2 r2 nm2 dt2 (unhide HV) c (unhide HC) _ ((unhide HR).below (unhide B_21)) ((unhide HE).below (unhide B_21))).mono ?_
  rintro e w5 ⟨rfl, hb⟩
  have B_26 := hide ((unhide B_21).trans (hb.mono (unhide B_21).size))
  clear B_21
  clear hb
  have B_27 := hide ((unhide B_26).alloc (unhide B_26).size (.cells #[.int .i64 k2, .int .i64 cl2, .int .i64 sq2, .int .i64 pn2, .int .i64 n2, .int .i64 ep2, .bool r2, .string nm2, .string dt2] 24))
  clear B_26
  have Y_28 := hide (BF.new w5 #[.int .i64 k2, .int .i64 cl2, .int .i64 sq2, .int .i64 pn2, .int .i64 n2, .int .i64 ep2, .bool r2, .string nm2, .string dt2] 24)
  go_wp2_with fail
  refine (sreadcmd a1 cap1 l1 k2 cl2 sq2 pn2 n2 ep2 r2 nm2 dt2 (unhide HV) c (unhide HC) _ ((unhide HR).below (unhide B_27))).mono ?_
  rintro e w6 ⟨rfl, hb⟩
  have B_29 := hide ((unhide B_27).trans (hb.mono (unhide B_27).size))
  clear B_27
  have Y_30 := hide ((unhide Y_28).below hb)
  clear Y_28
  clear hb
  have B_31 := hide ((unhide B_29).alloc (unhide B_29).size (.cells #[.int .i64 k2, .int .i64 cl2, .int .i64 sq2, .int .i64 pn2, .int .i64 n2, .int .i64 ep2, .bool r2, .string nm2, .string dt2] 24))
  clear B_29
  have Y_32 := hide ((unhide Y_30).alloc (.cells #[.int .i64 k2, .int .i64 cl2, .int .i64 sq2, .int .i64 pn2, .int .i64 n2, .int .i64 ep2, .bool r2, .string nm2, .string dt2] 24))
  clear Y_30
  by_cases hc0 : c = 0
  · obtain ⟨d1, d2⟩ := unhide HFB hc0
    have hcp := cmd_parts d1
    have HNM : Hid (nm2.size ≤ 1048576) := Nat.le_trans hcp.2.2.2.2.2.2.1 (by decide)
    have HDT : Hid (dt2.size ≤ 1048576) := Nat.le_trans hcp.2.2.2.2.2.2.2 (by decide)
    have HOK : Hid (true = cmdB k2 cl2 sq2 pn2 n2 ep2 r2 nm2 dt2) := d1.symm
    have HL : Hid (l1 = cbV true k2 cl2 sq2 pn2 n2 ep2 r2 nm2 dt2) := by show _ = _; rw [← d2]; rfl
    have HCC : Hid ((0 : Int) = cbC true) := rfl
    subst hc0
    clear d1 d2 hcp HFB HV HC ncc
    have kY := (unhide Y_32).S
    go_wp2_with fail
    refine (icmdb k2 cl2 sq2 pn2 n2 ep2 r2 nm2 dt2 HNM HDT true HOK l1 HL 0 HCC _).mono ?_
    rintro e w7 ⟨v7, rfl, o7, hb⟩
    clear kY
    obtain ⟨a7, c7, rfl, -⟩ := own_rowV o7
    have B_33 := hide ((unhide B_31).trans (hb.mono (unhide B_31).size))
    clear B_31
    have Y_34 := hide ((unhide Y_32).below hb)
    clear Y_32
    clear hb
    have Q_35 := hide (row_at o7)
    clear o7
    have cv1 := conv_row8 (P := Tryd.prog) (cap := c7) (src := 22) (dst := 9) (e := 5) Tryd.underlying22 Tryd.underlying5 Tryd.underlying9 (rowV_8 (unhide Q_35))
    have cv2 := conv_row8 (P := Tryd.prog) (cap := cap1) (src := 22) (dst := 9) (e := 5) Tryd.underlying22 Tryd.underlying5 Tryd.underlying9 (rowV_8 ((unhide HR).below (unhide B_33)))
    obtain ⟨t, ht⟩ : ∃ t : ByteArray, t = ⟨l1.toArray⟩ := ⟨_, rfl⟩
    rw [← ht] at cv1 cv2
    clear ht
    have nt : (t.toList == t.toList) = true := by simp
    go_wp2_with fail
    go_ret
    exact ⟨rfl, (unhide B_33)⟩
  · have nc0 : (c != 0) = true := bne_iff_ne.2 hc0
    clear HFB
    go_wp2_with fail
    go_ret
    exact ⟨rfl, (unhide B_31)⟩

theorem own : ownKnob Tryd.prog.godebug = none := by kernel_rfl
theorem laidOut : laidOutB Tryd.prog = true := by kernel_rfl
theorem door_met (os : Os) (args : Array Value) : laidMetH Tryd.prog Rows.fnCommandsRow.laid ((World.doorLaid Tryd.prog 73 os).forCall (fun _ _ => 0) ⟨#[], args, []⟩).memory :=
  laidMetH_of_parts3 (fuel := 8) (laidMet_of_run' 8 (by kernel_rfl) (by kernel_rfl)) (by kernel_rfl) (by kernel_rfl)
set_option maxRecDepth 100000 in
theorem lifted (os : Os) (started : os.Started) (H : Type) (enc : TypeId × Value → H) :
    ReturnsInHanded {} Tryd.checked os 3 .any (fun w args => (Rows.fnCommandsSpec.pre enc Tryd.prog Tryd.f3 [] false w args ∧ laidMetH Tryd.prog Rows.fnCommandsRow.laid w) ∧ sizedMet enc Tryd.prog Tryd.f3 (OpenSpec.ofChange Rows.fnCommandsSpec) false w args)
      (Rows.fnCommandsSpec.post enc Tryd.prog Tryd.f3 false true false false) := by
  refine returnsInHanded_of_change_and (C := Tryd.checked) (X := fun w _ => laidMetH Tryd.prog Rows.fnCommandsRow.laid w) (fun _ _ _ hh h => h.of_heap hh) own started (by kernel_rfl) Tryd.func3
    (ChangeSpec.witness_shaped (enc := enc) (C := Tryd.checked) (os := os) (X := fun w _ => laidMetH Tryd.prog Rows.fnCommandsRow.laid w) false (World.doorLaid Tryd.prog 73 os) #[.slice none 0 0, .slice none 0 0] 8 rfl (World.shaped_of_RefB (by kernel_rfl) (by kernel_rfl)) (by kernel_rfl) (by kernel_rfl) (by kernel_rfl) (door_met os _)) ?_
  intro W base args ds gs before hval0 hW _ _ hL _
  have hval : ∀ (j : Nat) t v, Tryd.f3.params[j]? = some t → args[j]? = some v → Value.okWide Tryd.prog W .any base t v := hval0
  have hW' := hW
  obtain ⟨p, q, hA0, hV, rfl, hfz, hnd⟩ := hW
  have hA : DataW.TrodAll enc Tryd.prog W 0 (fun _ => true) true Tryd.f3.params.toList args.toList ds p := hA0
  rw [Tryd.params3] at hA hval
  obtain ⟨v0, vs0, d0, ds0, p0, q0, hargs, rfl, rfl, h0, r0⟩ := trodAll_cons hA
  obtain ⟨v1, vs1, d1, ds1, p1, q1, rfl, rfl, rfl, h1, r1⟩ := trodAll_cons r0
  obtain ⟨rfl, rfl, rfl⟩ := trodAll_nil r1
  obtain rfl : args = #[v0, v1] := by cases args; simp_all
  obtain ⟨g1, g2, g3, rfl⟩ : ∃ d1x d2x d3x, gs = [d1x, d2x, d3x] := vars_len3 hV
  have k0 := h0
  have lt0 : ∀ x ∈ p0, x.block < W.heap.size := by obtain ⟨m, hm⟩ := k0; exact DataW.trod_lt m _ _ _ hm
  have k1 := h1
  have lt1 : ∀ x ∈ p1, x.block < W.heap.size := by obtain ⟨m, hm⟩ := k1; exact DataW.trod_lt m _ _ _ hm
  obtain ⟨a0, len0, cap0, rfl⟩ := okWide_slice Tryd.underlying22 (hval 0 22 v0 rfl rfl)
  obtain ⟨l0, e0, w0, kc0⟩ : ∃ l : List UInt8, l.length = len0 ∧ Row8 W a0 l ∧ len0 ≤ cap0 := by
    obtain ⟨fuel, hf⟩ := h0
    rcases open_ints Tryd.underlying22 Tryd.underlying5 (by kernel_rfl) hf with ⟨hcs, _⟩ | ⟨x, l, c, zs, hcs, _, hl, hm, hz, _, hcell, hwz⟩
    · simp [Value.cells] at hcs
      obtain ⟨rfl, rfl, rfl⟩ := hcs
      exact ⟨[], rfl, .inl rfl, Nat.le_refl _⟩
    · simp [Value.cells] at hcs
      obtain ⟨rfl, rfl, rfl⟩ := hcs
      obtain ⟨lx, ex, rx⟩ := row8_ints hl (by simpa using hz) hcell hwz; exact ⟨lx, ex, rx, hl⟩
  obtain ⟨a1, len1, cap1, rfl⟩ := okWide_slice Tryd.underlying22 (hval 1 22 v1 rfl rfl)
  obtain ⟨l1, e1, w1, kc1⟩ : ∃ l : List UInt8, l.length = len1 ∧ Row8 W a1 l ∧ len1 ≤ cap1 := by
    obtain ⟨fuel, hf⟩ := h1
    rcases open_ints Tryd.underlying22 Tryd.underlying5 (by kernel_rfl) hf with ⟨hcs, _⟩ | ⟨x, l, c, zs, hcs, _, hl, hm, hz, _, hcell, hwz⟩
    · simp [Value.cells] at hcs
      obtain ⟨rfl, rfl, rfl⟩ := hcs
      exact ⟨[], rfl, .inl rfl, Nat.le_refl _⟩
    · simp [Value.cells] at hcs
      obtain ⟨rfl, rfl, rfl⟩ := hcs
      obtain ⟨lx, ex, rx⟩ := row8_ints hl (by simpa using hz) hcell hwz; exact ⟨lx, ex, rx, hl⟩
  have hT := errs_laidD hL
  clear hA0 hval0
  refine (walk W a0 len0 cap0 l0 e0 w0 kc0 a1 len1 cap1 l1 e1 w1 kc1 hT).mono fun e W' ⟨he, bel⟩ => ?_
  subst he
  exact ⟨_, rfl, _, _, _, [], _, _, hW', trodAll_mk1 (shut_bool Tryd.underlying4 _), (trodAll_cons_mk (Below.trod laidOut (by kernel_rfl) (of_decide_eq_true (by kernel_rfl)) k0 bel lt0) (trodAll_cons_mk (Below.trod laidOut (by kernel_rfl) (of_decide_eq_true (by kernel_rfl)) k1 bel lt1) trodAll_mk0)), Below.trodVars laidOut bel (by kernel_rfl) hV, bel.frame _, fun h => by cases h⟩

theorem said : Rows.FnCommandsSaid :=
  OpenClaim.holds_of_wide 3 Tryd.f3 rfl rfl rfl rfl rfl rfl rfl ⟨rfl, rfl, rfl, rfl, rfl⟩ rfl rfl rfl rfl rfl (by kernel_rfl) Tryd.func3 (by kernel_rfl)
    (of_decide_eq_true (by kernel_rfl)) (by unfold Func.isWrapper; first | (rw [if_pos (by decide +kernel)]; kernel_rfl) | (rw [if_neg (by decide +kernel)]; exact ⟨rfl, rfl⟩))
    (fun os started H enc _ => lifted os started H enc)

theorem card : Rows.FnCommandsCardSaid :=
  Claim7.holds_tied_plain_at .later [] _ _ _ _ said (fun _ h => by cases h) (by kernel_rfl) (fun _ h => by cases h) fnCommands_row_tie rfl ⟨rfl, rfl⟩ (by kernel_rfl) rfl
    (fun f fn hf hfn => by
      obtain rfl : f = 3 := Option.some.inj ((show Tryd.prog.funcNamed Tryd.f3.name = some 3 by kernel_rfl).symm.trans hf) |>.symm
      obtain rfl : fn = Tryd.f3 := (Option.some.inj (Tryd.func3.symm.trans hfn)).symm
      exact ⟨by kernel_rfl, fun j t ht => by
        rw [Tryd.params3] at ht
        have hm : t ∈ [22, 22] := by simpa using Array.mem_of_getElem? ht
        have hall : ([22, 22].all fun u => !Tryd.prog.wantsStandIn u) = true := by kernel_rfl
        exact (show Tryd.prog.wantsStandIn t = false by simpa using List.all_eq_true.1 hall t hm)⟩)
    (by kernel_rfl)
#print axioms card
end Go.Proofs.YtoplijjddhecgaaDoor
