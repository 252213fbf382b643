/- Tokens: the head, the mark and what TokenMark and IssueToken answer. -/
import Derived.Test.YtmmnoepcklfonaaGreatDoorZG24
import Derived.Test.YtmmnoepcklfonaaGreatDoorZG13
import Derived.Deep.RegionHeld3
import Derived.Deep.Cut
namespace Go.Proofs.YtmmnoepcklfonaaGreatDoor
open Go.ChangeShapes Go.WideShapes Go.ChangeAt Go.RowKit
set_option linter.unusedVariables false
set_option maxHeartbeats 4000000 in
set_option maxRecDepth 100000 in
theorem ihead (c : Int) (win : ByteArray) (n : Int) (HT : Hid (tokB c win n = true)) (R : ByteArray) (HR : Hid (R = hdT c win n)) (w : World) (hp : PowIn w) :
    Calls Tryz.prog 75 #[.agg #[.int .i64 c, .string win, .int .i64 n]] w fun e w' => e = .returned (.string R) ∧ Below w.heap.size w w' := by
  have B0 := hide (Go.Joins.below_alloc1 w (.cells #[.int .i64 c, .string win, .int .i64 n] 105))
  have A0 := hide (BF.new w #[.int .i64 c, .string win, .int .i64 n] 105)
  have HP := hide hp
  obtain ⟨t0, t1, t2, t3, t4⟩ := tok_parts (unhide HT)
  have HCB : Hid (-1 ≤ c ∧ c ≤ 9999) := by constructor <;> omega
  have HNB : Hid (-1 ≤ n ∧ n ≤ 9999) := by constructor <;> omega
  obtain ⟨C, hC⟩ : ∃ C, C = zt c := ⟨_, rfl⟩
  obtain ⟨N, hN⟩ : ∃ N, N = zt n := ⟨_, rfl⟩
  have HSZ : Hid (∀ k (h : k < [C, win, N].length), [C, win, N][k].size ≤ 1048576) := by
    have e1 := zt_size (n := c) (by omega) (by omega)
    have e2 := zt_size (n := n) (by omega) (by omega)
    rw [← hC] at e1; rw [← hN] at e2
    intro k hk
    match k, hk with
    | 0, _ => show C.size ≤ _; omega
    | 1, _ => show win.size ≤ _; omega
    | 2, _ => show N.size ≤ _; omega
  have HRR : Hid (R = bjS ⟨#[116, 111, 107, 101, 110]⟩ [C, win, N]) := by show _ = _; rw [unhide HR, hC, hN]; rfl
  have HC := hide hC
  have HNN := hide hN
  clear hp t0 t1 t2 t3 t4 hC hN HR
  go_enter Tryz.func75, Tryz.ntmps75
  go_upto_region 1 with fail
  refine wp_region_held_drew (S := (fun w' => ∀ o, w'.cell? ⟨w.heap.size, o, none⟩ = (#[.int .i64 c, .string win, .int .i64 n] : Array Value)[o]?)) (by kernel_rfl) (unhide A0).S (fun hHeld => ?_)
  have B1 := hide ((unhide B0).drew)
  have A1 := hide ((unhide A0).drew)
  clear A0 B0
  generalize (w.alloc (.cells #[.int .i64 c, .string win, .int .i64 n] 105)).drew = w1 at B1 A1 hHeld ⊢
  refine wtk (i := 0) (oi := { dst := some 3, op := .fieldAddr 105 (.tmp 1) 0, type := 0, pos := "l12_token.go:29", after := #[], guard := none }) (v := ?_) rfl (Or.inl ⟨by rfl, ?_⟩) (by assumption) ?_
  rotate_left 1
  · (intro w' hSw; (try dsimp only at hSw); go_simp; try with_reducible rfl)
  try simp only [Act.put, qqA, qqB, qqC]
  refine wtk (i := 1) (oi := { dst := some 4, op := .load 3 (.tmp 3), type := 3, pos := "l12_token.go:29", after := #[{ on := 0, ground := .data }], guard := none }) (v := ?_) rfl (Or.inl ⟨by rfl, ?_⟩) (by assumption) ?_
  rotate_left 1
  · (intro w' hSw; (try dsimp only at hSw); go_simp; try with_reducible rfl)
  try simp only [Act.put, qqA, qqB, qqC]
  refine wtk (i := 3) (oi := { dst := some 6, op := .fieldAddr 105 (.tmp 1) 1, type := 0, pos := "l12_token.go:29", after := #[], guard := none }) (v := ?_) rfl (Or.inl ⟨by rfl, ?_⟩) (by assumption) ?_
  rotate_left 1
  · (intro w' hSw; (try dsimp only at hSw); go_simp; try with_reducible rfl)
  try simp only [Act.put, qqA, qqB, qqC]
  refine wtk (i := 4) (oi := { dst := some 7, op := .load 9 (.tmp 6), type := 9, pos := "l12_token.go:29", after := #[{ on := 3, ground := .data }], guard := none }) (v := ?_) rfl (Or.inl ⟨by rfl, ?_⟩) (by assumption) ?_
  rotate_left 1
  · (intro w' hSw; (try dsimp only at hSw); go_simp; try with_reducible rfl)
  try simp only [Act.put, qqA, qqB, qqC]
  refine wtk (i := 5) (oi := { dst := some 8, op := .fieldAddr 105 (.tmp 1) 2, type := 0, pos := "l12_token.go:29", after := #[], guard := none }) (v := ?_) rfl (Or.inl ⟨by rfl, ?_⟩) (by assumption) ?_
  rotate_left 1
  · (intro w' hSw; (try dsimp only at hSw); go_simp; try with_reducible rfl)
  try simp only [Act.put, qqA, qqB, qqC]
  refine wtk (i := 6) (oi := { dst := some 9, op := .load 3 (.tmp 8), type := 3, pos := "l12_token.go:29", after := #[{ on := 5, ground := .data }], guard := none }) (v := ?_) rfl (Or.inl ⟨by rfl, ?_⟩) (by assumption) ?_
  rotate_left 1
  · (intro w' hSw; (try dsimp only at hSw); go_simp; try with_reducible rfl)
  try simp only [Act.put, qqA, qqB, qqC]
  refine wpAnyH_ready (rs := [2]) (by kernel_rfl) (by simp) ?_
  refine AllReadyH.cons (o := { dst := some 5, op := .call { callee := .value (.func 90), args := #[.tmp 4], argTypes := #[3] }, type := 9, pos := "l12_token.go:29", after := #[{ on := 1, ground := .data }], guard := none }) rfl (fun K hK => ?_) AllReadyH.nil
  go_simp
  refine (iitoaZ c (unhide HCB).1 (unhide HCB).2 _ ((unhide HP).below (unhide B1) (unhide HP).pos) (by have := (unhide HP).pos; have := (unhide B1).size; omega)).mono ?_
  rintro e w2 ⟨rfl, hb2⟩
  rw [← unhide HC]
  have B2 := hide ((unhide B1).trans (hb2.mono (unhide B1).size))
  have A2 := hide ((unhide A1).below hb2)
  clear hb2 A1 B1
  go_wp2_with fail
  refine hK.out _ _ ?_ (fun hHeld2 => ?_)
  · exact (unhide A2).S
  clear hK K
  try simp only [Act.put, qqA, qqB, qqC]
  refine wpAnyH_ready (rs := [7]) (by kernel_rfl) (by simp) ?_
  refine AllReadyH.cons (o := { dst := some 10, op := .call { callee := .value (.func 90), args := #[.tmp 9], argTypes := #[3] }, type := 9, pos := "l12_token.go:29", after := #[{ on := 6, ground := .data }, { on := 2, ground := .chain }], guard := none }) rfl (fun K hK => ?_) AllReadyH.nil
  go_simp
  refine (iitoaZ n (unhide HNB).1 (unhide HNB).2 _ ((unhide HP).below (unhide B2) (unhide HP).pos) (by have := (unhide HP).pos; have := (unhide B2).size; omega)).mono ?_
  rintro e w3 ⟨rfl, hb3⟩
  rw [← unhide HNN]
  have B3 := hide ((unhide B2).trans (hb3.mono (unhide B2).size))
  have A3 := hide ((unhide A2).below hb3)
  clear hb3 A2 B2
  go_wp2_with fail
  refine hK.out _ _ ?_ (fun hHeld7 => ?_)
  · exact (unhide A3).S
  clear hK K
  try simp only [Act.put, qqA, qqB, qqC]
  refine wpAnyH_ready (rs := [8]) (by kernel_rfl) (by simp) ?_
  refine AllReadyH.cons (o := { dst := some 11, op := .buildSlice 22 3 #[(0, .tmp 5), (1, .tmp 7), (2, .tmp 10)], type := 22, pos := "l12_token.go:29", after := #[{ on := 2, ground := .data }, { on := 4, ground := .data }, { on := 7, ground := .data }], guard := none }) rfl (fun K hK => ?_) AllReadyH.nil
  obtain ⟨G, hG⟩ : ∃ G, G = w3.heap.size := ⟨_, rfl⟩
  have B4 := hide ((unhide B3).alloc (unhide B3).size (.cells #[.string C, .string win, .string N] 9))
  have A4 := hide ((unhide A3).alloc (.cells #[.string C, .string win, .string N] 9))
  have R4 : Hid (RowV (w3.alloc (.cells #[.string C, .string win, .string N] 9)) (some ⟨G, 0, none⟩) (cS [C, win, N])) := by rw [hG]; exact rowZ_at (base := w3.heap.size) (e := 9) (z := 1) (n := 3) (cap := 3) (by have h := World.ownsRow_lit (e := 9) (base := w3.heap.size) (size := 1) w3 #[.string C, .string win, .string N] 3 (Nat.le_refl _) (by unfold maxLen; omega) (by simp); exact h)
  go_simp
  refine hK.out _ _ ?_ (fun hHeld8 => ?_)
  · exact (unhide A4).S
  clear hK K
  try simp only [Act.put, qqA, qqB, qqC]
  rw [← hG]
  clear hG B3 A3
  generalize w3.alloc (.cells #[.string C, .string win, .string N] 9) = w4 at B4 A4 R4 hHeld8 ⊢
  refine wpAnyH_ready (rs := [9]) (by kernel_rfl) (by simp) ?_
  refine AllReadyH.cons (o := { dst := some 12, op := .call { callee := .value (.func 74), args := #[.const (.string { data := #[116, 111, 107, 101, 110] }), .tmp 11], argTypes := #[9, 22] }, type := 9, pos := "l12_token.go:29", after := #[{ on := 8, ground := .data }, { on := 7, ground := .chain }], guard := none }) rfl (fun K hK => ?_) AllReadyH.nil
  go_simp
  refine (ibj _ (some ⟨G, 0, none⟩) 3 3 [C, win, N] rfl (by decide) (hide (by decide)) HSZ R HRR _ (unhide R4)).mono ?_
  rintro e w5 ⟨rfl, hb5⟩
  have B5 := hide ((unhide B4).trans (hb5.mono (unhide B4).size))
  have A5 := hide ((unhide A4).below hb5)
  clear hb5 A4 B4 R4
  go_wp2_with fail
  refine hK.out _ _ ?_ (fun hHeld9 => ?_)
  · exact (unhide A5).S
  clear hK K
  try simp only [Act.put, qqA, qqB, qqC]
  refine wtk (i := 10) (oi := { dst := some 2, op := .assign (.tmp 12), type := 9, pos := "l12_token.go:29", after := #[{ on := 9, ground := .data }, { on := 9, ground := .chain }, { on := 0, ground := .phase }, { on := 1, ground := .phase }, { on := 2, ground := .phase }, { on := 3, ground := .phase }, { on := 4, ground := .phase }, { on := 5, ground := .phase }, { on := 6, ground := .phase }, { on := 7, ground := .phase }, { on := 8, ground := .phase }, { on := 9, ground := .phase }], guard := none }) (v := ?_) rfl (Or.inl ⟨by rfl, ?_⟩) (by assumption) ?_
  rotate_left 1
  · (intro w' hSw; (try dsimp only at hSw); go_simp; try with_reducible rfl)
  try simp only [Act.put, qqA, qqB, qqC]
  refine wpAnyH_done (by kernel_rfl) ?_ _
  go_wp2_with fail
  go_ret
  exact ⟨rfl, unhide B5⟩
theorem ihmacP (key msg H : ByteArray) (HK : Hid (key.size ≤ 65536)) (HM : Hid (msg.size ≤ 65536)) (HH : Hid (H = hmacB key msg)) (w : World) (hk : KIn w) :
    Calls Tryz.prog 97 #[.string key, .string msg] w fun e w' => e = .returned (.tuple #[.string H, .int .i64 0]) ∧ Below w.heap.size w w' := by
  have h1 := unhide HK
  have h2 := unhide HM
  have h := ihmac key msg (by omega) (by omega) w hk
  rw [(hm_ok (by omega) (by omega)).1, (hm_ok (by omega) (by omega)).2, ← unhide HH] at h
  exact h
theorem itextH (H : ByteArray) (HS : Hid (H.size = 32)) (D : ByteArray) (HD : Hid (D = hexT H)) (w : World) :
    Calls Tryz.prog 98 #[.string H] w fun e w' => e = .returned (.tuple #[.string D, .int .i64 0]) ∧ Below w.heap.size w w' := by
  have h := text8 H (by have := unhide HS; omega) w
  have h2 : faultOf H.size = 0 ∧ txtS H = ⟨(hexL H.data.toList).toArray⟩ := fault_ok _ (unhide HS)
  rw [h2.1, h2.2] at h
  rw [unhide HD]
  exact h
set_option maxHeartbeats 4000000 in
set_option maxRecDepth 100000 in
theorem imark (c : Int) (win : ByteArray) (n : Int) (HT : Hid (tokB c win n = true)) (key : ByteArray) (HKS : Hid (key.size ≤ 65536)) (M : ByteArray) (HM : Hid (M = mkT key c win n)) (w : World) (hp : PowIn w) (hk : KIn w) :
    Calls Tryz.prog 86 #[.agg #[.int .i64 c, .string win, .int .i64 n], .string key] w fun e w' => e = .returned (.string M) ∧ Below w.heap.size w w' := by
  have B0 := hide (Go.Joins.below_alloc1 w (.cells #[.int .i64 c, .string win, .int .i64 n] 105))
  have A0 := hide (BF.new w #[.int .i64 c, .string win, .int .i64 n] 105)
  have a0 := (unhide A0).S
  have HP := hide hp
  have HK := hide hk
  obtain ⟨R, hR⟩ : ∃ R, R = hdT c win n := ⟨_, rfl⟩
  have HR := hide hR
  have HRS : Hid (R.size ≤ 60) := by rw [hR]; exact hdT_size (unhide HT)
  obtain ⟨H, hH⟩ : ∃ H, H = hmacB key R := ⟨_, rfl⟩
  have HH := hide hH
  have HHS : Hid (H.size = 32) := by rw [hH]; exact hash_size _
  obtain ⟨D, hD⟩ : ∃ D, D = hexT H := ⟨_, rfl⟩
  have hds : D.size = 64 := by
    rw [hD]
    show (hexL H.data.toList).toArray.size = 64
    rw [List.size_toArray, hexL_len, show H.data.toList.length = H.size from Array.length_toList, unhide HHS]
  have hd32 : 32 ≤ D.size := by omega
  have HDD := hide hD
  have HMM : Hid (M = D.extract 0 32) := by show _ = _; rw [unhide HM, hD, hH, hR]; rfl
  clear hp hk hR hH hD HM hds
  go_enter Tryz.func86, Tryz.ntmps86
  go_wp2_with (first
    | (go_at_call 75; refine (ihead c win n HT R HR _ ((unhide HP).below (unhide B0) (unhide HP).pos)).mono ?_; rintro e w2 ⟨rfl, hb2⟩; have B2 := hide ((unhide B0).trans (hb2.mono (unhide B0).size)); clear hb2)
    | (go_at_call 97; have B2' := B2; refine (ihmacP key R H HKS (by have := unhide HRS; show _ ≤ _; omega) HH _ ((unhide HK).below (unhide B2) (unhide HK).pos)).mono ?_; rintro e w3 ⟨rfl, hb3⟩; have B3 := hide ((unhide B2).trans (hb3.mono (unhide B2).size)); clear hb3)
    | (go_at_call 98; have B3' := B3; refine (itextH H HHS D HDD _).mono ?_; rintro e w4 ⟨rfl, hb4⟩; have B4 := hide ((unhide B3).trans (hb4.mono (unhide B3).size)); clear hb4))
  go_ret
  rw [unhide HMM]
  exact ⟨rfl, unhide B4⟩
set_option maxHeartbeats 4000000 in
set_option maxRecDepth 100000 in
theorem itm (c : Int) (win : ByteArray) (n : Int) (key : ByteArray) (HKS : Hid (key.size ≤ 1048576)) (HWS : Hid (win.size ≤ 1048576)) (S : ByteArray) (HS : Hid (S = tmS key c win n)) (q : Int) (HQ : Hid (q = tmC key c win n)) (w : World) (hp : PowIn w) (hk : KIn w) :
    Calls Tryz.prog 73 #[.string key, .int .i64 c, .string win, .int .i64 n] w fun e w' => e = .returned (.tuple #[.string S, .int .i64 q]) ∧ Below w.heap.size w w' := by
  have h1 := unhide HKS
  have h2 := unhide HWS
  by_cases hl : 65536 < key.size ∨ 65536 < win.size
  · have hS : S = ⟨#[]⟩ := by rw [unhide HS]; unfold tmS tmL; rw [if_pos (decide_eq_true hl)]
    have hQ : q = 2 := by rw [unhide HQ]; unfold tmC tmL; rw [if_pos (decide_eq_true hl)]
    subst hS hQ
    clear HS HQ
    rcases hl with hl | hl
    · have hl' : (65536 : Int) < (key.size : Int) := by omega
      go_enter Tryz.func73, Tryz.ntmps73
      go_wp2_with fail
      go_ret2
      exact ⟨rfl, Below.refl _ _⟩
    · have hl' : (65536 : Int) < (win.size : Int) := by omega
      by_cases hl3 : 65536 < key.size
      all_goals
        go_enter Tryz.func73, Tryz.ntmps73
        go_wp2_with fail
        go_ret2
        exact ⟨rfl, Below.refl _ _⟩
  · have k1 : ¬ 65536 < key.size := fun h => hl (.inl h)
    have k2 : ¬ 65536 < win.size := fun h => hl (.inr h)
    have HK6 : Hid (key.size ≤ 65536) := by show _ ≤ _; omega
    have B0 := hide (Go.Joins.below_alloc1 w (.cells #[.int .i64 c, .string win, .int .i64 n] 105))
    have A0 := hide (BF.new w #[.int .i64 c, .string win, .int .i64 n] 105)
    have HP := hide hp
    have HK := hide hk
    obtain ⟨Q, hQ⟩ : ∃ Q, Q = tokB c win n := ⟨_, rfl⟩
    have HT := hide hQ
    have hS : S = if Q then mkT key c win n else ⟨#[]⟩ := by rw [unhide HS]; unfold tmS tmL; rw [if_neg (by simp; omega), hQ]
    have hC : q = if Q then 0 else 1 := by rw [unhide HQ]; unfold tmC tmL; rw [if_neg (by simp; omega), hQ]
    have HSS := hide hS
    have HCC := hide hC
    clear hS hC hQ hp hk HS HQ hl
    cases Q with
    | false =>
      obtain rfl : S = ⟨#[]⟩ := by rw [unhide HSS]; rfl
      obtain rfl : q = 1 := by rw [unhide HCC]; rfl
      clear HSS HCC
      go_enter Tryz.func73, Tryz.ntmps73
      go_wp2_with (go_at_call 85; refine (iclaimok c win n HWS false HT _).mono ?_; rintro e w2 ⟨rfl, hb2⟩; have B2 := hide ((unhide B0).trans (hb2.mono (unhide B0).size)); clear hb2)
      go_ret2
      exact ⟨rfl, unhide B2⟩
    | true =>
      obtain rfl : q = 0 := by rw [unhide HCC]; rfl
      have HM : Hid (S = mkT key c win n) := by show _ = _; rw [unhide HSS]; rfl
      clear HSS HCC
      go_enter Tryz.func73, Tryz.ntmps73
      go_wp2_with (first
        | (go_at_call 85; refine (iclaimok c win n HWS true HT _).mono ?_; rintro e w2 ⟨rfl, hb2⟩; have B2 := hide ((unhide B0).trans (hb2.mono (unhide B0).size)); have A2 := hide ((unhide A0).below hb2); have a2 := (unhide A2).S; clear hb2)
        | (go_at_call 86; have B2' := B2; refine (imark c win n (hide (unhide HT).symm) key HK6 S HM _ ((unhide HP).below (unhide B2) (unhide HP).pos) ((unhide HK).below (unhide B2) (unhide HK).pos)).mono ?_; rintro e w3 ⟨rfl, hb3⟩; have B3 := hide ((unhide B2).trans (hb3.mono (unhide B2).size)); clear hb3))
      go_ret2
      exact ⟨rfl, unhide B3⟩
end Go.Proofs.YtmmnoepcklfonaaGreatDoor
