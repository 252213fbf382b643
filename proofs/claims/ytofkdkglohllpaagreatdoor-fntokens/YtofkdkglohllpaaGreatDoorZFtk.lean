/- At every argument that can be read, with the listed variables as the program text lays them, the law FnTokens returns true and leaves its arguments as they were: the tied card. -/
import Derived.Test.YtofkdkglohllpaaGreatDoorCards
import Derived.Test.YtofkdkglohllpaaGreatDoorTie
import Derived.Test.YtofkdkglohllpaaGreatDoorZG48
import Derived.WalkKit
import Derived.ProofKit
import Derived.OpenShut
import Derived.ShutString
import Derived.ChangeOld
import Derived.Below
import Derived.OpenVars
import Derived.LaidMore
import Derived.Lay
import Derived.Stop.Joined
namespace Go.Proofs.YtofkdkglohllpaaGreatDoor
open Go.ChangeShapes Go.WideShapes Go.ChangeAt Go.RowKit
open Go.ChangeMaps (open_string shut_string)
set_option linter.unusedVariables false

set_option maxHeartbeats 8000000 in
set_option maxRecDepth 100000 in
theorem walk (w : World) (a0 : Option Addr) (len0 cap0 : Nat) (l0 : List UInt8) (e0 : l0.length = len0) (w0 : Row8 w a0 l0) (a1 : Option Addr) (len1 cap1 : Nat) (l1 : List UInt8) (e1 : l1.length = len1) (w1 : Row8 w a1 l1) (hT : TokW w) :
    Calls Tryz.prog 3 #[.slice a0 len0 cap0, .slice a1 len1 cap1] w fun e w' => e = .returned (.bool true) ∧ Below w.heap.size w w' := by
  subst e0 e1
  by_cases big0 : 1048576 < l0.length
  · have b0 : (1048576 : Int) < (l0.length : Int) := by omega
    clear w0 w1 hT
    go_enter Tryz.func3, Tryz.ntmps3
    go_wp2_with fail
    go_ret
    exact ⟨rfl, Below.refl _ _⟩
  have b0 : ¬ (1048576 : Int) < (l0.length : Int) := by omega
  by_cases big1 : 1048576 < l1.length
  · have b1 : (1048576 : Int) < (l1.length : Int) := by omega
    clear w0 w1 hT
    go_enter Tryz.func3, Tryz.ntmps3
    go_wp2_with fail
    go_ret
    exact ⟨rfl, Below.refl _ _⟩
  have b1 : ¬ (1048576 : Int) < (l1.length : Int) := by omega
  have HS0 : Hid (l0.length ≤ 1048600) := by show _ ≤ _; omega
  have HS1 : Hid (l1.length ≤ 1048576) := by show _ ≤ _; omega
  have HR0 := hide w0
  have HR1 := hide (row8_V w1)
  have HTW := hide hT
  clear w0 w1 hT big0 big1
  go_enter Tryz.func3, Tryz.ntmps3
  go_wp2_with fail
  refine (sbytesOf 40 a0 cap0 l0 (by decide) (by decide) (unhide HS0) _ (unhide HR0)).mono ?_
  rintro e wA ⟨v1, rfl, m1, hm1, ho1, hb1⟩
  have hcv1 := conv_own (P := Tryz.prog) Tryz.underlying22 Tryz.underlying5 Tryz.underlying9 ho1
  obtain ⟨key, hkey⟩ : ∃ s : ByteArray, s = ⟨m1.toArray⟩ := ⟨_, rfl⟩
  have k40 : key.size ≤ 40 := by rw [hkey]; simpa [ByteArray.size] using hm1
  rw [← hkey] at hcv1
  have B_A := hide hb1
  clear ho1 hb1 hkey hm1
  have T := lat a1 cap1 l1 0 201 (unhide HS1) (by decide) (by decide) (by decide) wA ((unhide HR1).below (unhide B_A))
  change Calls _ _ #[_, .int .i64 0, .int .i64 201] _ _ at T
  have HTwB := hide T
  clear T
  go_wp2_with fail
  refine (unhide HTwB).mono ?_
  rintro e wB ⟨x, rfl, hx, hb⟩
  clear HTwB
  have B_wB := hide ((unhide B_A).trans (hb.mono (unhide B_A).size))
  clear hb
  clear hcv1
  have T := lat a1 cap1 l1 1 62 (unhide HS1) (by decide) (by decide) (by decide) wB ((unhide HR1).below (unhide B_wB))
  change Calls _ _ #[_, .int .i64 1, .int .i64 62] _ _ at T
  have HTwC := hide T
  clear T
  go_wp2_with fail
  refine (unhide HTwC).mono ?_
  rintro e wC ⟨y, rfl, hy, hb⟩
  clear HTwC
  have B_wC := hide ((unhide B_wB).trans (hb.mono (unhide B_wB).size))
  clear hb
  obtain ⟨c, hc⟩ : ∃ c : Int, (x : Int) = c := ⟨_, rfl⟩
  obtain ⟨n, hn⟩ : ∃ n : Int, (y : Int) - 1 = n := ⟨_, rfl⟩
  have c0 : 0 ≤ c ∧ c ≤ 200 := by omega
  have n0 : -1 ≤ n ∧ n ≤ 60 := by omega
  have hw1 : IntKind.i64.wrap ((y : Int) - 1) = n := by rw [IntKind.wrap_i64]; omega
  have hw2 : wrap64 ((y : Int) - 1) = n := by unfold wrap64; omega
  have HTB := hide (tok_main c0.1 c0.2 n0.1 n0.2)
  obtain ⟨mn, hmn⟩ : ∃ mn, mn = mainT := ⟨_, rfl⟩
  rw [← hmn] at HTB
  have HMN : Hid (mn = ⟨#[109, 97, 105, 110]⟩) := hmn
  have HK : Hid (key.size ≤ 65536) := by show _ ≤ _; omega
  have HK1 : Hid (key.size ≤ 1048576) := by show _ ≤ _; omega
  have hm6 : mn.size ≤ 65536 := by rw [hmn]; decide
  have HM1 : Hid (mn.size ≤ 1048576) := by show _ ≤ _; omega
  obtain ⟨t, ht⟩ : ∃ t, t = issT key c mn n := ⟨_, rfl⟩
  obtain ⟨M, hM⟩ : ∃ M, M = mkT key c mn n := ⟨_, rfl⟩
  obtain ⟨e1, e2, e3⟩ := tms_ok (unhide HK) hm6 (unhide HTB)
  rw [← hM] at e1
  rw [← ht] at e3
  have HE1 := hide e1
  have HE2 := hide e2
  have HE3 := hide e3
  have HRD : Hid (RdOk key t c mn n 0) := by show RdOk _ _ _ _ _ _; rw [ht]; exact rd_issue (unhide HTB)
  obtain ⟨z1, z2⟩ := iss_size key (unhide HTB)
  rw [← ht] at z1 z2
  have htail : t.extract (t.size - 32) t.size = M := by rw [ht, hM]; exact iss_tail key c mn n _ rfl
  have HTS : Hid (t.size ≤ 65536) := by show _ ≤ _; omega
  have hMs : M.size = 32 := by rw [hM]; exact mkT_size _ _ _ _
  have nt : (t.toList == t.toList) = true := by simp
  have nM : (M.toList == M.toList) = true := by simp
  have nm : (mn.toList == [109, 97, 105, 110]) = true := by rw [hmn]; unfold mainT; rw [ByteArray.toList_eq]; rfl
  have q1 : (M.size : Int) = 32 := by omega
  have q2 : ¬ (t.size : Int) < 33 := by omega
  have Hq1 := hide q1
  have HMZ := hide hMs
  clear e1 e2 e3 ht hM hmn hMs q1
  go_wp2_with fail
  rw [← unhide HMN]
  refine (iitk c mn n key HK1 HM1 t HE3 0 HE2 _ ((unhide HTW).below (unhide B_wC)).pw ((unhide HTW).below (unhide B_wC)).kw).mono ?_
  rintro e wD ⟨rfl, hb⟩
  have B_D := hide ((unhide B_wC).trans (hb.mono (unhide B_wC).size))
  clear hb
  go_wp2_with fail
  rw [← unhide HMN]
  refine (sitk c mn n key HK1 HM1 t HE3 0 HE2 _).mono ?_
  rintro e wE ⟨rfl, hb⟩
  have B_E := hide ((unhide B_D).trans (hb.mono (unhide B_D).size))
  clear hb B_D
  go_wp2_with fail
  refine (irtok key t HK HTS c mn n 0 HRD _ ((unhide HTW).below (unhide B_E))).mono ?_
  rintro e wF ⟨rfl, hb⟩
  have B_F := hide ((unhide B_E).trans (hb.mono (unhide B_E).size))
  clear hb B_E
  go_wp2_with fail
  rw [← unhide HMN]
  refine (itm c mn n key HK1 HM1 M HE1 0 HE2 _ ((unhide HTW).below (unhide B_F)).pw ((unhide HTW).below (unhide B_F)).kw).mono ?_
  rintro e wG ⟨rfl, hb⟩
  have B_G := hide ((unhide B_F).trans (hb.mono (unhide B_F).size))
  clear hb B_F
  have q1 := unhide Hq1
  have T := lat a1 cap1 l1 2 t.size (unhide HS1) (by decide) (by omega) (by omega) wG ((unhide HR1).below (unhide B_G))
  change Calls _ _ #[_, .int .i64 2, .int .i64 (t.size : Int)] _ _ at T
  have HTwH := hide T
  clear T
  go_wp2_with fail
  refine (unhide HTwH).mono ?_
  rintro e wH ⟨k, rfl, hk, hb⟩
  clear HTwH
  have B_wH := hide ((unhide B_G).trans (hb.mono (unhide B_G).size))
  clear hb
  have hk1 : (k : Int) < (t.size : Int) := by omega
  have hk2 : (k : Int) ≤ (t.size : Int) := by omega
  have hk3 : (k : Int) + 1 ≤ (t.size : Int) := by omega
  have hk4 : IntKind.i64.wrap ((k : Int) + 1) = ((k + 1 : Nat) : Int) := by rw [IntKind.wrap_i64]; omega
  have hk5 : ((k + 1 : Nat) : Int) ≤ (t.size : Int) := by omega
  have hx1 : bits .xor .u8 (t[k].toNat : Int) 1 = ((t[k] ^^^ 1).toNat : Int) := u8_xor t[k] 1
  obtain ⟨X, hX⟩ : ∃ X : Int, X = ((t[k] ^^^ 1).toNat : Int) := ⟨_, rfl⟩
  rw [← hX] at hx1
  have hk6 : (0 : Int) ≤ (k : Int) + 1 := by omega
  have hX0 : 0 ≤ X := by omega
  have hX1 : X ≤ 255 := by have := (t[k] ^^^ 1).toNat_lt; omega
  have HX0 := hide hX0
  have HX1 := hide hX1
  obtain ⟨P, hP⟩ : ∃ P, t.extract 0 k = P := ⟨_, rfl⟩
  obtain ⟨Q, hQ⟩ : ∃ Q, t.extract (k + 1) t.size = Q := ⟨_, rfl⟩
  have zP : P.size ≤ 93 := by rw [← hP, ByteArray.size_extract]; omega
  have zQ : Q.size ≤ 93 := by rw [← hQ, ByteArray.size_extract]; omega
  obtain ⟨bd1, hbd1⟩ : ∃ bd1, bd1 = P ++ (⟨#[ub X]⟩ : ByteArray) := ⟨_, rfl⟩
  obtain ⟨bd, hbd⟩ : ∃ bd, bd = bd1 ++ Q := ⟨_, rfl⟩
  have e1 : (⟨#[ub X]⟩ : ByteArray).size = 1 := rfl
  have zb1 : bd1.size ≤ 94 := by rw [hbd1, ByteArray.size_append]; omega
  have zb : bd.size ≤ 65536 := by rw [hbd, ByteArray.size_append]; omega
  have np1 : (9223372036854775807 < P.size + 1) = False := eq_false (by omega)
  have np2 : (9223372036854775807 < P.size + 1 + Q.size) = False := eq_false (by omega)
  have HBD := hide hbd
  have HBD1 := hide hbd1
  have HBS : Hid (bd.size ≤ 65536) := zb
  obtain ⟨U, hU⟩ : ∃ U : ByteArray, U = ⟨#[ub X]⟩ := ⟨_, rfl⟩
  rw [← hU] at HBD1 e1
  have HU := hide hU
  clear hX hbd hbd1 zb hX0 hX1 hU
  obtain ⟨K2, hK2⟩ : ∃ K2, K2 = key ++ (⟨#[120]⟩ : ByteArray) := ⟨_, rfl⟩
  have zK2 : K2.size ≤ 41 := by rw [hK2, ByteArray.size_append]; have e : (⟨#[120]⟩ : ByteArray).size = 1 := rfl; omega
  have HK2 : Hid (K2.size ≤ 65536) := by show _ ≤ _; omega
  have HKX := hide hK2
  obtain ⟨r0, r1, r2, r3, i1, s1⟩ := rt_both key bd HK HBS
  obtain ⟨u0, u1, u2, u3, i2, s2⟩ := rt_both K2 t HK2 HTS
  have I1 := hide i1
  have I2 := hide i2
  have S1 := hide s1
  have S2 := hide s2
  clear i1 i2 s1 s2 hK2
  go_upto_region 13 with fail
  refine wp_region_held_drew (S := (fun _ => True)) (by kernel_rfl) trivial (fun hHeld => ?_)
  have B_h := hide ((unhide B_wH).drew)
  generalize wH.drew = wh at B_h hHeld ⊢
  refine wtk (i := 0) (oi := { dst := some 133, op := .move (.tmp 8), type := 9, pos := "laws.go:1016", after := #[], guard := none }) (v := ?_) rfl (Or.inl ⟨by rfl, ?_⟩) (by assumption) ?_
  rotate_left 1
  · (intro w' hSw; (try dsimp only at hSw); go_simp; try with_reducible rfl)
  try simp only [Act.put, qqA, qqB, qqC]
  refine wtk (i := 1) (oi := { dst := some 134, op := .move (.tmp 18), type := 3, pos := "laws.go:1016", after := #[], guard := none }) (v := ?_) rfl (Or.inl ⟨by rfl, ?_⟩) (by assumption) ?_
  rotate_left 1
  · (intro w' hSw; (try dsimp only at hSw); go_simp; try with_reducible rfl)
  try simp only [Act.put, qqA, qqB, qqC]
  refine wtk (i := 2) (oi := { dst := some 135, op := .slice 9 (.tmp 133) none (some (.tmp 134)) none, type := 9, pos := "laws.go:1016", after := #[{ on := 0, ground := .data }, { on := 1, ground := .data }], guard := none }) (v := ?_) rfl (Or.inl ⟨by rfl, ?_⟩) (by assumption) ?_
  rotate_left 1
  · (intro w' hSw; (try dsimp only at hSw); go_simp; try with_reducible rfl)
  try simp only [Act.put, qqA, qqB, qqC]
  refine wtk (i := 3) (oi := { dst := some 136, op := .move (.tmp 8), type := 9, pos := "laws.go:1016", after := #[], guard := none }) (v := ?_) rfl (Or.inl ⟨by rfl, ?_⟩) (by assumption) ?_
  rotate_left 1
  · (intro w' hSw; (try dsimp only at hSw); go_simp; try with_reducible rfl)
  try simp only [Act.put, qqA, qqB, qqC]
  refine wtk (i := 4) (oi := { dst := some 137, op := .move (.tmp 18), type := 3, pos := "laws.go:1016", after := #[], guard := none }) (v := ?_) rfl (Or.inl ⟨by rfl, ?_⟩) (by assumption) ?_
  rotate_left 1
  · (intro w' hSw; (try dsimp only at hSw); go_simp; try with_reducible rfl)
  try simp only [Act.put, qqA, qqB, qqC]
  refine wtk (i := 5) (oi := { dst := some 138, op := .index 9 (.tmp 136) (.tmp 137), type := 5, pos := "laws.go:1016", after := #[{ on := 3, ground := .data }, { on := 4, ground := .data }], guard := none }) (v := ?_) rfl (Or.inl ⟨by rfl, ?_⟩) (by assumption) ?_
  rotate_left 1
  · (intro w' hSw; (try dsimp only at hSw); go_simp; try with_reducible rfl)
  try simp only [Act.put, qqA, qqB, qqC]
  refine wtk (i := 6) (oi := { dst := some 139, op := .binOp .xor 5 (.tmp 138) (.const (.int .u8 1)) 5, type := 5, pos := "laws.go:1016", after := #[{ on := 5, ground := .data }], guard := none }) (v := ?_) rfl (Or.inl ⟨by rfl, ?_⟩) (by assumption) ?_
  rotate_left 1
  · (intro w' hSw; (try dsimp only at hSw); go_simp; try with_reducible rfl)
  try simp only [Act.put, qqA, qqB, qqC]
  refine wtk (i := 10) (oi := { dst := some 143, op := .move (.tmp 8), type := 9, pos := "laws.go:1016", after := #[], guard := none }) (v := ?_) rfl (Or.inl ⟨by rfl, ?_⟩) (by assumption) ?_
  rotate_left 1
  · (intro w' hSw; (try dsimp only at hSw); go_simp; try with_reducible rfl)
  try simp only [Act.put, qqA, qqB, qqC]
  refine wtk (i := 11) (oi := { dst := some 144, op := .move (.tmp 18), type := 3, pos := "laws.go:1016", after := #[], guard := none }) (v := ?_) rfl (Or.inl ⟨by rfl, ?_⟩) (by assumption) ?_
  rotate_left 1
  · (intro w' hSw; (try dsimp only at hSw); go_simp; try with_reducible rfl)
  try simp only [Act.put, qqA, qqB, qqC]
  refine wtk (i := 12) (oi := { dst := some 145, op := .binOp .add 3 (.tmp 144) (.const (.int .i64 1)) 3, type := 3, pos := "laws.go:1016", after := #[{ on := 11, ground := .data }], guard := none }) (v := ?_) rfl (Or.inl ⟨by rfl, ?_⟩) (by assumption) ?_
  rotate_left 1
  · (intro w' hSw; (try dsimp only at hSw); go_simp; try with_reducible rfl)
  try simp only [Act.put, qqA, qqB, qqC]
  refine wtk (i := 13) (oi := { dst := some 146, op := .slice 9 (.tmp 143) (some (.tmp 145)) none none, type := 9, pos := "laws.go:1016", after := #[{ on := 10, ground := .data }, { on := 12, ground := .data }], guard := none }) (v := ?_) rfl (Or.inl ⟨by rfl, ?_⟩) (by assumption) ?_
  rotate_left 1
  · (intro w' hSw; (try dsimp only at hSw); go_simp; try with_reducible rfl)
  try simp only [Act.put, qqA, qqB, qqC]
  refine wpAnyH_ready (rs := [7]) (by kernel_rfl) (by simp) ?_
  refine AllReadyH.cons (o := { dst := some 140, op := .buildSlice 22 1 #[(0, .tmp 139)], type := 22, pos := "laws.go:1016", after := #[{ on := 6, ground := .data }], guard := none }) rfl (fun K hK => ?_) AllReadyH.nil
  have B_I := hide ((unhide B_h).alloc (unhide B_h).size (.cells #[.int .u8 X] 5))
  have hcv := conv1 wh X (unhide HX0) (unhide HX1)
  rw [← unhide HU] at hcv
  go_simp
  refine hK.out _ _ ?_ (fun hHeld7 => ?_)
  · trivial
  clear hK K
  try simp only [Act.put, qqA, qqB, qqC]
  refine wpAnyH_ready (rs := [8]) (by kernel_rfl) (by simp) ?_
  refine AllReadyH.cons (o := { dst := some 141, op := .convert 22 9 (.tmp 140), type := 9, pos := "laws.go:1016", after := #[{ on := 7, ground := .data }], guard := none }) rfl (fun K hK => ?_) AllReadyH.nil
  go_simp
  refine hK.out _ _ ?_ (fun hHeld8 => ?_)
  · trivial
  clear hK K
  try simp only [Act.put, qqA, qqB, qqC]
  clear hcv
  generalize wh.alloc (.cells #[.int .u8 X] 5) = wI at B_I hHeld8 ⊢
  refine wtk (i := 9) (oi := { dst := some 142, op := .binOp .add 9 (.tmp 135) (.tmp 141) 9, type := 9, pos := "laws.go:1016", after := #[{ on := 2, ground := .data }, { on := 8, ground := .data }], guard := none }) (v := ?_) rfl (Or.inl ⟨by rfl, ?_⟩) (by assumption) ?_
  rotate_left 1
  · (intro w' hSw; (try dsimp only at hSw); go_simp; try with_reducible rfl)
  try simp only [Act.put, qqA, qqB, qqC]
  refine wtk (i := 14) (oi := { dst := some 147, op := .binOp .add 9 (.tmp 142) (.tmp 146) 9, type := 9, pos := "laws.go:1016", after := #[{ on := 9, ground := .data }, { on := 13, ground := .data }], guard := none }) (v := ?_) rfl (Or.inl ⟨by rfl, ?_⟩) (by assumption) ?_
  rotate_left 1
  · (intro w' hSw; (try dsimp only at hSw); go_simp; try with_reducible rfl)
  try simp only [Act.put, qqA, qqB, qqC]
  refine wtk (i := 15) (oi := { dst := some 19, op := .assign (.tmp 147), type := 9, pos := "laws.go:1016", after := #[{ on := 14, ground := .data }, { on := 0, ground := .phase }, { on := 1, ground := .phase }, { on := 2, ground := .phase }, { on := 3, ground := .phase }, { on := 4, ground := .phase }, { on := 5, ground := .phase }, { on := 6, ground := .phase }, { on := 7, ground := .phase }, { on := 8, ground := .phase }, { on := 9, ground := .phase }, { on := 10, ground := .phase }, { on := 11, ground := .phase }, { on := 12, ground := .phase }, { on := 13, ground := .phase }, { on := 14, ground := .phase }], guard := none }) (v := ?_) rfl (Or.inl ⟨by rfl, ?_⟩) (by assumption) ?_
  rotate_left 1
  · (intro w' hSw; (try dsimp only at hSw); go_simp; try with_reducible rfl)
  try simp only [Act.put, qqA, qqB, qqC]
  refine wpAnyH_done (by kernel_rfl) ?_ _
  go_wp2_with fail
  rw [← unhide HBD1, ← unhide HBD]
  refine ((unhide I1) _ ((unhide HTW).below (unhide B_I))).mono ?_
  rintro e wJ ⟨rfl, hb⟩
  have B_J := hide ((unhide B_I).trans (hb.mono (unhide B_I).size))
  clear hb B_I
  go_wp2_with fail
  refine ((unhide S1) _).mono ?_
  rintro e wK ⟨rfl, hb⟩
  have B_K := hide ((unhide B_J).trans (hb.mono (unhide B_J).size))
  clear hb B_J
  go_wp2_with fail
  rw [← unhide HKX]
  refine ((unhide I2) _ ((unhide HTW).below (unhide B_K))).mono ?_
  rintro e wL ⟨rfl, hb⟩
  have B_L := hide ((unhide B_K).trans (hb.mono (unhide B_K).size))
  clear hb B_K
  go_wp2_with fail
  rw [← unhide HKX]
  refine ((unhide S2) _).mono ?_
  rintro e wM ⟨rfl, hb⟩
  have B_M := hide ((unhide B_L).trans (hb.mono (unhide B_L).size))
  clear hb B_L
  go_wp2_with fail
  go_ret
  exact ⟨by simp, unhide B_M⟩

theorem own : ownKnob Tryz.prog.godebug = none := by kernel_rfl
theorem laidOut : laidOutB Tryz.prog = true := by kernel_rfl
set_option maxRecDepth 100000 in
theorem lifted (os : Os) (started : os.Started) (H : Type) (enc : TypeId × Value → H) :
    ReturnsInHanded {} Tryz.checked os 3 .any (fun w args => (Rows.fnTokensSpec.pre enc Tryz.prog Tryz.f3 [] false w args ∧ laidMetH Tryz.prog Rows.fnTokensRow.laid w) ∧ sizedMet enc Tryz.prog Tryz.f3 (OpenSpec.ofChange Rows.fnTokensSpec) false w args)
      (Rows.fnTokensSpec.post enc Tryz.prog Tryz.f3 false true false false) := by
  refine returnsInHanded_of_change_and (C := Tryz.checked) (X := fun w _ => laidMetH Tryz.prog Rows.fnTokensRow.laid w) (fun _ _ _ hh h => h.of_heap hh) own started (by kernel_rfl) Tryz.func3
    (ChangeSpec.witness_shaped (enc := enc) (C := Tryz.checked) (os := os) (X := fun w _ => laidMetH Tryz.prog Rows.fnTokensRow.laid w) false (World.laidAll Tryz.prog os Rows.fnTokensRow.laid) #[.slice none 0 0, .slice none 0 0] 8 (World.laidAll_os _ _ _) (World.shaped_of_ZipB (by kernel_rfl) (by kernel_rfl)) (by kernel_rfl) (by kernel_rfl) (by kernel_rfl) (by rw [MakeChecks.laidMetH_plain _ _ _ (by kernel_rfl)]; exact laidMet_laidAll _ (by kernel_rfl) (by kernel_rfl))) ?_
  intro W base args ds gs before hval0 hW _ _ hL _
  have hval : ∀ (j : Nat) t v, Tryz.f3.params[j]? = some t → args[j]? = some v → Value.okWide Tryz.prog W .any base t v := hval0
  have hW' := hW
  obtain ⟨p, q, hA0, hV, rfl, hfz, hnd⟩ := hW
  have hA : DataW.TrodAll enc Tryz.prog W 0 (fun _ => true) true Tryz.f3.params.toList args.toList ds p := hA0
  rw [Tryz.params3] at hA hval
  obtain ⟨v0, vs0, d0, ds0, p0, q0, hargs, rfl, rfl, h0, r0⟩ := trodAll_cons hA
  obtain ⟨v1, vs1, d1, ds1, p1, q1, rfl, rfl, rfl, h1, r1⟩ := trodAll_cons r0
  obtain ⟨rfl, rfl, rfl⟩ := trodAll_nil r1
  obtain rfl : args = #[v0, v1] := by cases args; simp_all
  obtain ⟨g1, rfl⟩ : ∃ d, gs = [d] := by
    obtain ⟨_, _, _, _, d, _, e, _⟩ := trodVars_one hV
    exact ⟨d, e⟩
  have k0 := h0
  have lt0 : ∀ x ∈ p0, x.block < W.heap.size := by obtain ⟨m, hm⟩ := k0; exact DataW.trod_lt m _ _ _ hm
  have k1 := h1
  have lt1 : ∀ x ∈ p1, x.block < W.heap.size := by obtain ⟨m, hm⟩ := k1; exact DataW.trod_lt m _ _ _ hm
  obtain ⟨a0, len0, cap0, rfl⟩ := okWide_slice Tryz.underlying22 (hval 0 22 v0 rfl rfl)
  obtain ⟨l0, e0, w0⟩ : ∃ l : List UInt8, l.length = len0 ∧ Row8 W a0 l := by
    obtain ⟨fuel, hf⟩ := h0
    rcases open_ints Tryz.underlying22 Tryz.underlying5 (by kernel_rfl) hf with ⟨hcs, _⟩ | ⟨x, l, c, zs, hcs, _, hl, hm, hz, _, hcell, hwz⟩
    · simp [Value.cells] at hcs
      obtain ⟨rfl, rfl, rfl⟩ := hcs
      exact ⟨[], rfl, .inl rfl⟩
    · simp [Value.cells] at hcs
      obtain ⟨rfl, rfl, rfl⟩ := hcs
      exact row8_ints hl (by simpa using hz) hcell hwz
  obtain ⟨a1, len1, cap1, rfl⟩ := okWide_slice Tryz.underlying22 (hval 1 22 v1 rfl rfl)
  obtain ⟨l1, e1, w1⟩ : ∃ l : List UInt8, l.length = len1 ∧ Row8 W a1 l := by
    obtain ⟨fuel, hf⟩ := h1
    rcases open_ints Tryz.underlying22 Tryz.underlying5 (by kernel_rfl) hf with ⟨hcs, _⟩ | ⟨x, l, c, zs, hcs, _, hl, hm, hz, _, hcell, hwz⟩
    · simp [Value.cells] at hcs
      obtain ⟨rfl, rfl, rfl⟩ := hcs
      exact ⟨[], rfl, .inl rfl⟩
    · simp [Value.cells] at hcs
      obtain ⟨rfl, rfl, rfl⟩ := hcs
      exact row8_ints hl (by simpa using hz) hcell hwz
  have hT := ftk_laid hL
  clear hA0 hval0
  refine (walk W a0 len0 cap0 l0 e0 w0 a1 len1 cap1 l1 e1 w1 hT).mono fun e W' ⟨he, bel⟩ => ?_
  subst he
  exact ⟨_, rfl, _, _, _, [], _, _, hW', trodAll_mk1 (shut_bool Tryz.underlying4 _), (trodAll_cons_mk (Below.trod laidOut (by kernel_rfl) (of_decide_eq_true (by kernel_rfl)) k0 bel lt0) (trodAll_cons_mk (Below.trod laidOut (by kernel_rfl) (of_decide_eq_true (by kernel_rfl)) k1 bel lt1) trodAll_mk0)), Below.trodVars laidOut bel (by kernel_rfl) hV, bel.frame _, fun h => by cases h⟩

theorem said : Rows.FnTokensSaid :=
  OpenClaim.holds_of_wide 3 Tryz.f3 rfl rfl rfl rfl rfl rfl rfl ⟨rfl, rfl, rfl, rfl, rfl⟩ rfl rfl rfl rfl rfl (by kernel_rfl) Tryz.func3 (by kernel_rfl)
    (of_decide_eq_true (by kernel_rfl)) (by unfold Func.isWrapper; first | (rw [if_pos (by decide +kernel)]; kernel_rfl) | (rw [if_neg (by decide +kernel)]; exact ⟨rfl, rfl⟩))
    (fun os started H enc _ => lifted os started H enc)

theorem card : Rows.FnTokensCardSaid :=
  Claim7.holds_tied_plain_at .later [] _ _ _ _ said (fun _ h => by cases h) (by kernel_rfl) (fun _ h => by cases h) fnTokens_row_tie rfl ⟨rfl, rfl⟩ (by kernel_rfl) rfl
    (fun f fn hf hfn => by
      obtain rfl : f = 3 := Option.some.inj ((show Tryz.prog.funcNamed Tryz.f3.name = some 3 by kernel_rfl).symm.trans hf) |>.symm
      obtain rfl : fn = Tryz.f3 := (Option.some.inj (Tryz.func3.symm.trans hfn)).symm
      exact ⟨by kernel_rfl, fun j t ht => by
        rw [Tryz.params3] at ht
        have hm : t ∈ [22, 22] := by simpa using Array.mem_of_getElem? ht
        have hall : ([22, 22].all fun u => !Tryz.prog.wantsStandIn u) = true := by kernel_rfl
        exact (show Tryz.prog.wantsStandIn t = false by simpa using List.all_eq_true.1 hall t hm)⟩)
    (by kernel_rfl)
#print axioms card
end Go.Proofs.YtofkdkglohllpaaGreatDoor
