/- impl's countNodes over a closure, impl.StoresHold. -/
import Derived.Test.YtjjdeejajbmecaaGreatDoorZG18
import Derived.Test.YtjjdeejajbmecaaGreatDoorZG32
import Derived.Test.YtjjdeejajbmecaaGreatDoorZG1
import Derived.Deep.Cut
namespace Go.Proofs.YtjjdeejajbmecaaGreatDoor
open Go.ChangeShapes Go.WideShapes Go.ChangeAt Go.RowKit
set_option linter.unusedVariables false
set_option maxHeartbeats 4000000 in
set_option maxRecDepth 100000 in
theorem iag (id nd tm vt ro cm el wt : Int) (up : Bool) (ea : Option Addr) (ec n0 : Nat) (l : List Ent) (HN0 : Hid (l.length = n0)) (hn0 : n0 ≤ 1048576) (va : Option Addr) (vc nv : Nat) (xa : Option Addr) (xc nx : Nat) (ga : Option Addr) (gc ng : Nat) (cb : Nat) (an : Option Addr) (kn nn : Nat) (sv wv : Value) (ad : Option Addr) (kd mD : Nat) (D : List ByteArray) (HMD : Hid (D.length = mD)) (hmD : mD ≤ 1048576) (hkd : mD ≤ kd) (R : Bool) (HR : Hid (R = begB D (datS l n0))) (w : World) (hC : BF cb #[.slice an nn kn, sv, wv, .slice ad mD kd] w) (hr : RowV w ea (cE l)) (hD : RowV w ad (cS D)) :
  Calls Tryz.prog 21 #[.agg #[.int .i64 id, .int .i64 nd, .int .i64 tm, .int .i64 vt, .int .i64 ro, .bool up, .slice ea n0 ec, .int .i64 cm, .int .i64 el, .int .i64 wt, .slice va nv vc, .slice xa nx xc, .slice ga ng gc], .pointer (some ⟨cb, 0, none⟩)] w fun e w' => e = .returned (.bool R) ∧ Below w.heap.size w w' := by
 have B0 := hide (Go.Joins.below_alloc1 w (Obj.cells #[.int .i64 id, .int .i64 nd, .int .i64 tm, .int .i64 vt, .int .i64 ro, .bool up, .slice ea n0 ec, .int .i64 cm, .int .i64 el, .int .i64 wt, .slice va nv vc, .slice xa nx xc, .slice ga ng gc] 60))
 have C0 := hide (hC.alloc (Obj.cells #[.int .i64 id, .int .i64 nd, .int .i64 tm, .int .i64 vt, .int .i64 ro, .bool up, .slice ea n0 ec, .int .i64 cm, .int .i64 el, .int .i64 wt, .slice va nv vc, .slice xa nx xc, .slice ga ng gc] 60))
 have A0 := hide (BF.new w #[.int .i64 id, .int .i64 nd, .int .i64 tm, .int .i64 vt, .int .i64 ro, .bool up, .slice ea n0 ec, .int .i64 cm, .int .i64 el, .int .i64 wt, .slice va nv vc, .slice xa nx xc, .slice ga ng gc] 60)
 have H1 := hide (hr.below (unhide B0))
 have H2 := hide (hD.below (unhide B0))
 have HR2 := hide (unhide HR)
 have C6 := hide hn0
 have M6 := hide hmD
 have HDL : Hid ((datS l n0).length = n0) := datS_len l n0 (by rw [unhide HN0]; exact Nat.le_refl _)
 clear hr hD hC
 go_enter Tryz.func21, Tryz.ntmps21
 go_wp2_with fail
 generalize w.alloc (Obj.cells #[.int .i64 id, .int .i64 nd, .int .i64 tm, .int .i64 vt, .int .i64 ro, .bool up, .slice ea n0 ec, .int .i64 cm, .int .i64 el, .int .i64 wt, .slice va nv vc, .slice xa nx xc, .slice ga ng gc] 60) = wa at B0 A0 C0 H1 H2 ⊢
 have SK : Hid (∀ w2, Below wa.heap.size wa w2 → (fun w' => (∀ o, w'.cell? ⟨w.heap.size, o, none⟩ = (#[.int .i64 id, .int .i64 nd, .int .i64 tm, .int .i64 vt, .int .i64 ro, .bool up, .slice ea n0 ec, .int .i64 cm, .int .i64 el, .int .i64 wt, .slice va nv vc, .slice xa nx xc, .slice ga ng gc] : Array Value)[o]?) ∧ (∀ o, w'.cell? ⟨cb, o, none⟩ = (#[.slice an nn kn, sv, wv, .slice ad mD kd] : Array Value)[o]?)) w2) := fun w2 hb => ⟨((unhide A0).below hb).S, ((unhide C0).below hb).S⟩
 have TD : Hid (Below wa.heap.size wa wa.drew) := (Below.refl _ _).drew
 clear A0 C0
 refine wp_region_held_drew (S := fun w' => (∀ o, w'.cell? ⟨w.heap.size, o, none⟩ = (#[.int .i64 id, .int .i64 nd, .int .i64 tm, .int .i64 vt, .int .i64 ro, .bool up, .slice ea n0 ec, .int .i64 cm, .int .i64 el, .int .i64 wt, .slice va nv vc, .slice xa nx xc, .slice ga ng gc] : Array Value)[o]?) ∧ (∀ o, w'.cell? ⟨cb, o, none⟩ = (#[.slice an nn kn, sv, wv, .slice ad mD kd] : Array Value)[o]?)) (by kernel_rfl) (unhide SK _ (unhide TD)) (fun hHeld => ?_)
 generalize wa.drew = wd at TD hHeld ⊢
 refine wtv 0 (oi := { dst := some 4, op := .fieldAddr 35 (.tmp 1) 3, type := 0, pos := "l09_cluster.go:291", after := #[], guard := none }) ?_
 refine wtv 1 (oi := { dst := some 5, op := .load 25 (.tmp 4), type := 25, pos := "l09_cluster.go:291", after := #[{ on := 0, ground := .data }], guard := none }) ?_
 refine wtv 2 (oi := { dst := some 6, op := .fieldAddr 60 (.tmp 2) 6, type := 0, pos := "l09_cluster.go:291", after := #[], guard := none }) ?_
 refine wtv 3 (oi := { dst := some 7, op := .load 44 (.tmp 6), type := 44, pos := "l09_cluster.go:291", after := #[{ on := 2, ground := .data }], guard := none }) ?_
 refine wpAnyH_ready (rs := [4]) (by kernel_rfl) (by simp) ?_
 refine AllReadyH.cons (o := { dst := some 8, op := .call { callee := .value (.func 23), args := #[.tmp 7], argTypes := #[44] }, type := 25, pos := "l09_cluster.go:291", after := #[{ on := 3, ground := .data }], guard := none }) rfl (fun K hK => ?_) AllReadyH.nil
 go_simp
 refine (idata ea ec n0 l HN0 (unhide C6) _ ((unhide H1).below (unhide TD))).mono ?_
 rintro e w2 ⟨v2, rfl, ho, hb2⟩
 have T2 := hide ((unhide TD).trans (hb2.mono (unhide TD).size))
 obtain ⟨a2, k2, rfl, hr2⟩ := ownZ_rowV ho
 have hk2 := own_caps ho
 have H3 := hide hr2
 have K2 := hide hk2
 clear hb2 ho hr2 hk2
 go_wp2_with fail
 refine hK.out _ _ ?_ (fun hHeld4 => ?_)
 ·exact unhide SK _ (unhide T2)
 clear hK K
 try simp only [Act.put, qqA, qqB, qqC]
 refine wpAnyH_ready (rs := [5]) (by kernel_rfl) (by simp) ?_
 refine AllReadyH.cons (o := { dst := some 9, op := .call { callee := .value (.func 22), args := #[.tmp 5, .tmp 8], argTypes := #[25, 25] }, type := 4, pos := "l09_cluster.go:291", after := #[{ on := 1, ground := .data }, { on := 4, ground := .data }, { on := 4, ground := .chain }], guard := none }) rfl (fun K hK => ?_) AllReadyH.nil
 go_simp
 refine (ibegs ad a2 kd k2 mD n0 D (datS l n0) HMD HDL (unhide M6) (unhide C6) (unhide K2) R HR2 _ ((unhide H2).below (unhide T2)) (unhide H3)).mono ?_
 rintro e w3 ⟨rfl, hb3⟩
 have T3 := hide ((unhide T2).trans (hb3.mono (unhide T2).size))
 clear hb3
 go_wp2_with fail
 refine hK.out _ _ ?_ (fun hHeld5 => ?_)
 ·exact unhide SK _ (unhide T3)
 clear hK K
 try simp only [Act.put, qqA, qqB, qqC]
 refine wtv 6 (oi := { dst := some 3, op := .assign (.tmp 9), type := 4, pos := "l09_cluster.go:291", after := #[{ on := 5, ground := .data }, { on := 5, ground := .chain }, { on := 0, ground := .phase }, { on := 1, ground := .phase }, { on := 2, ground := .phase }, { on := 3, ground := .phase }, { on := 4, ground := .phase }, { on := 5, ground := .phase }], guard := none }) ?_
 refine wpAnyH_done (by kernel_rfl) ?_ _
 have BR := hide ((unhide B0).trans ((unhide T3).mono (unhide B0).size))
 clear SK TD T2 T3 hHeld hHeld4 hHeld5 B0 H1 H2 H3
 go_wp2_with fail
 go_ret
 exact ⟨rfl, unhide BR⟩
set_option maxHeartbeats 4000000 in
set_option maxRecDepth 100000 in
theorem icnt (cb : Nat) (an : Option Addr) (kn nn : Nat) (sv wv : Value) (ad : Option Addr) (kd mD : Nat) (D : List ByteArray) (HMD : Hid (D.length = mD)) (hmD : mD ≤ 1048576) (hkd : mD ≤ kd) (N : List NdA) (HN : Hid (N.length = nn)) (hn : nn ≤ 5) (HF : Hid (∀ p ∈ N, NdA.fits 1048576 p ∧ (0 ≤ p.n.cm ∧ p.n.cm ≤ (p.n.l.length : Int)) ∧ p.n.l.length ≤ p.ec)) (w : World) (hC : BF cb #[.slice an nn kn, sv, wv, .slice ad mD kd] w) (hN : RowV w an (N.flatMap cN)) (hNE : ∀ p ∈ N, ∀ r ∈ nrows p, r.read w) (hD : RowV w ad (cS D)) :
  Calls Tryz.prog 24 #[.agg #[.slice an nn kn, sv, wv, .slice ad mD kd], .func (.func 21) #[] #[.pointer (some ⟨cb, 0, none⟩)]] w fun e w' => e = .returned (.int .i64 (cntB (fun q => begB D (datS q.l q.l.length)) N : Int)) ∧ Below w.heap.size w w' := by
 have B0 := hide (Go.Joins.below_alloc1 w (.cells #[.slice an nn kn, sv, wv, .slice ad mD kd] 35))
 have HRN := hide hN
 have HRE := hide hNE
 have HRD := hide hD
 have HCC := hide hC
 have HCN := hide (flat_len (c := cN) (z := 13) (fun p => rfl) N)
 clear hN hNE hD hC
 go_enter Tryz.func24, Tryz.ntmps24
 go_wp2_with fail
 go_loopw [5, 11] (fun s i wr => ∃ k m : Nat, k ≤ nn ∧ m ≤ k ∧ i = .int .i64 k ∧ s = .int .i64 (m : Int) ∧ Hid (m = cntB (fun q => begB D (datS q.l q.l.length)) (N.take k)) ∧ Hid (Below w.heap.size w wr)) (fun _ i _ => nn - (intOf i).toNat)
 case atStart => exact ⟨0, 0, by omega, by omega, rfl, rfl, rfl, B0⟩
 case round =>
  obtain ⟨k, m, hk, hm, rfl, rfl, HD, HB⟩ := hrel
  clear B0
  by_cases hlt : k < nn
  ·have hkn : k < N.length := by rw [unhide HN]; exact hlt
   obtain ⟨b, off, rfl, hblt, hcn⟩ := (unhide HRN).at (by rw [unhide HCN, unhide HN]; omega)
   have m1 := (row_N13 hcn k hkn).below (unhide HB) hblt
   have hfit := unhide HF _ (List.getElem_mem hkn)
   have hrd := nd_rows (fun r hr => (unhide HRE _ (List.getElem_mem hkn) r hr).below (unhide HB))
   have HD2 : Hid (cntB (fun q => begB D (datS q.l q.l.length)) (N.take (k + 1)) = m + (if (fun q => begB D (datS q.l q.l.length)) N[k].n then 1 else 0)) := by show _ = _; rw [unhide HD]; exact cnt_snoc hkn
   clear HD hcn
   generalize N[k] = P at m1 hfit hrd HD2
   obtain ⟨⟨id, nd, tm, vt, ro, up, l, cm, el, wt, lv, lx, lg⟩, ea, ec, va, vc, xa, xc, ga, gc⟩ := P
   obtain ⟨⟨f0, fv, fx, fg, fs⟩, ⟨hcm0, hcm1⟩, hec⟩ := hfit
   obtain ⟨n0, hnn0⟩ : ∃ n0, l.length = n0 := ⟨_, rfl⟩
   have HN0 : Hid (l.length = n0) := hnn0
   obtain ⟨nv, hnnv⟩ : ∃ nv, lv.length = nv := ⟨_, rfl⟩
   have HNv : Hid (lv.length = nv) := hnnv
   obtain ⟨nx, hnnx⟩ : ∃ nx, lx.length = nx := ⟨_, rfl⟩
   have HNx : Hid (lx.length = nx) := hnnx
   obtain ⟨ng, hnng⟩ : ∃ ng, lg.length = ng := ⟨_, rfl⟩
   have HNg : Hid (lg.length = ng) := hnng
   simp only [hnn0] at f0 hcm1 hec
   unfold N13 at m1
   simp only [hnn0, hnnv, hnnx, hnng] at m1
   obtain ⟨b1, hb1⟩ : ∃ b1, b1 = begB D (datS l n0) := ⟨_, rfl⟩
   have HB1 := hide hb1
   have HD3 : Hid (cntB (fun q => begB D (datS q.l q.l.length)) (N.take (k + 1)) = m + (if b1 then 1 else 0)) := by
    show _ = _; rw [unhide HD2, hb1]
    simp only [hnn0]
   have i1 : (k : Int) < (nn : Int) := by omega
   have i0 : (0 : Int) ≤ (k : Int) := by omega
   have TB := hide (Go.Joins.below_alloc1 wr (Obj.cells #[.int .i64 id, .int .i64 nd, .int .i64 tm, .int .i64 vt, .int .i64 ro, .bool up, .slice ea n0 ec, .int .i64 cm, .int .i64 el, .int .i64 wt, .slice va nv vc, .slice xa nx xc, .slice ga ng gc] 60))
   have BB := hide ((unhide HB).trans ((unhide TB).mono (unhide HB).size))
   have CB := hide (((unhide HCC).keep (unhide HB).size ((unhide HB).block cb (unhide HCC).lt)).alloc (Obj.cells #[.int .i64 id, .int .i64 nd, .int .i64 tm, .int .i64 vt, .int .i64 ro, .bool up, .slice ea n0 ec, .int .i64 cm, .int .i64 el, .int .i64 wt, .slice va nv vc, .slice xa nx xc, .slice ga ng gc] 60))
   have NB := (BF.new wr #[.int .i64 id, .int .i64 nd, .int .i64 tm, .int .i64 vt, .int .i64 ro, .bool up, .slice ea n0 ec, .int .i64 cm, .int .i64 el, .int .i64 wt, .slice va nv vc, .slice xa nx xc, .slice ga ng gc] 60).S
   have E0 := hide (hrd.1.below (unhide TB))
   have HDD := hide ((unhide HRD).below (unhide BB))
   clear hrd HD2 hb1 hnn0 hnnv hnnx hnng fs TB hkn fv fx fg hcm0 hcm1 HB
   go_wp2_with fail
   refine (iag id nd tm vt ro cm el wt up ea ec n0 l HN0 f0 va vc nv xa xc nx ga gc ng cb _ kn nn sv wv ad kd mD D HMD hmD hkd b1 HB1 _ (unhide CB) (unhide E0) (unhide HDD)).mono ?_
   rintro e w2 ⟨rfl, hb⟩
   have BR := hide ((unhide BB).trans (hb.mono (unhide BB).size))
   clear hb BB CB NB E0 HDD m1
   cases b1
   ·have HD4 : Hid (m = cntB (fun q => begB D (datS q.l q.l.length)) (N.take (k + 1))) := by show _ = _; rw [unhide HD3]; rfl
    clear HD3
    go_wp2_with fail
    go_roundw
    case rel => exact ⟨k + 1, m, by omega, by omega, by go_num, rfl, HD4, BR⟩
    case measure => simp [intOf]; omega
   ·have HD4 : Hid (m + 1 = cntB (fun q => begB D (datS q.l q.l.length)) (N.take (k + 1))) := by show _ = _; rw [unhide HD3]; rfl
    clear HD3
    go_wp2_with fail
    go_roundw
    case rel => exact ⟨k + 1, m + 1, by omega, by omega, by go_num, by go_num, HD4, BR⟩
    case measure => simp [intOf]; omega
  ·have HD4 : Hid (m = cntB (fun q => begB D (datS q.l q.l.length)) N) := by show _ = _; rw [unhide HD, List.take_of_length_le (by rw [unhide HN]; omega)]
   go_wp2_with fail
   go_ret
   exact ⟨by rw [← unhide HD4]; rfl, unhide HB⟩
set_option maxHeartbeats 4000000 in
set_option maxRecDepth 100000 in
theorem istoresHold (nv sv wv dv : Value) (c : Clu) (HF : Hid (c.fits 1048576)) (hcap : c.caps dv) (B A : Bool) (HB : Hid (B = cluB c.nds c.sts c.wire c.done)) (HA : Hid (A = holdsB c.nds c.done)) (w : World) (hE : Errs9 w) (h : CluR w nv sv wv dv c) :
  Calls Tryz.prog 7 #[.agg #[nv, sv, wv, dv]] w fun e w' => e = .returned (.tuple #[.bool (B && A), .int .i64 (if B then 0 else 1)]) ∧ Below w.heap.size w w' := by
 obtain ⟨an, kn, sa, ks, aw, kw, ad, kd, rfl, rfl, rfl, rfl, h1, h2, h3, h4, h5, h6⟩ := h.parts
 have hR := h
 obtain ⟨⟨f1, f2, f3, f4⟩, g1, g2, g3, g4⟩ := unhide HF
 have hkd := hcap.2 _ _ _ rfl
 have hec := hcap.1
 clear hcap
 have HRC := hide (CluR.below h (Go.Joins.below_alloc1 w (.cells #[.slice an c.nds.length kn, .slice sa c.sts.length ks, .slice aw c.wire.length kw, .slice ad c.done.length kd] 35)))
 obtain ⟨N, S, W, D⟩ := c
 simp only at *
 obtain ⟨nn, hnn⟩ : ∃ n, N.length = n := ⟨_, rfl⟩
 obtain ⟨ns, hns⟩ : ∃ n, S.length = n := ⟨_, rfl⟩
 obtain ⟨nw, hnw⟩ : ∃ n, W.length = n := ⟨_, rfl⟩
 obtain ⟨mD, hmD⟩ : ∃ n, D.length = n := ⟨_, rfl⟩
 have HNN : Hid (N.length = nn) := hnn
 have HMD : Hid (D.length = mD) := hmD
 simp only [hnn, hns, hnw, hmD] at f1 f4 hkd HRC ⊢
 have M6 := hide f4
 have KD := hide hkd
 have B0 := hide (Go.Joins.below_alloc1 w (Obj.cells #[.slice an nn kn, .slice sa ns ks, .slice aw nw kw, .slice ad mD kd] 35))
 have C0 := hide (BF.new w #[.slice an nn kn, .slice sa ns ks, .slice aw nw kw, .slice ad mD kd] 35)
 have HE := hide (hE.below (unhide B0))
 have H1 := hide (h1.below (unhide B0))
 have H2 : Hid (∀ p ∈ N, ∀ r ∈ nrows p, r.read (w.alloc (Obj.cells #[.slice an nn kn, .slice sa ns ks, .slice aw nw kw, .slice ad mD kd] 35))) := fun p hp r hr => (h2 p hp r hr).below (unhide B0)
 have H6 := hide (h6.below (unhide B0))
 have HB2 : Hid (B = cluB N S W D) := HB
 have HA2 := HA
 have HG := hide g1
 have HEC := hide hec
 clear h h1 h2 h3 h4 h5 h6 hE hR f1 f2 f3 f4 g1 g2 g3 g4 hkd hec hnn hns hnw hmD
 have cc := (unhide C0).S
 go_enter Tryz.func7, Tryz.ntmps7
 go_wp2_with fail
 refine (iclusterok _ _ _ _ ⟨N, S, W, D⟩ HF B HB2 _ (unhide HE) (unhide HRC)).mono ?_
 rintro e w1 ⟨rfl, hb⟩
 have B1 := hide ((unhide B0).trans (hb.mono (unhide B0).size))
 have C1 := hide ((unhide C0).below hb)
 have I1 := hide ((unhide H1).below hb)
 have I2 : Hid (∀ p ∈ N, ∀ r ∈ nrows p, r.read w1) := fun p hp r hr => (unhide H2 p hp r hr).below hb
 have I6 := hide ((unhide H6).below hb)
 clear hb B0 C0 H1 H2 H6 HE HRC cc
 have H1 := I1
 have H2 := I2
 have H6 := I6
 clear I1 I2 I6
 have cc := (unhide C1).S
 cases B
 ·go_wp2_with fail
  go_ret2
  exact ⟨rfl, unhide B1⟩
 have hq := (unhide HB2).symm
 have hok := clu_ok hq
 have N5 : Hid (nn ≤ 5) := by show _ ≤ _; rw [← unhide HNN]; exact hok.1
 have HOK : Hid (∀ p ∈ N, NdA.fits 1048576 p ∧ (0 ≤ p.n.cm ∧ p.n.cm ≤ (p.n.l.length : Int)) ∧ p.n.l.length ≤ p.ec) := fun p hp => ⟨unhide HG p hp, hok.2 p hp, unhide HEC p hp⟩
 clear hq hok
 go_wp2_with fail
 clear cc
 have SK : Hid (∀ w2, Below w1.heap.size w1 w2 → (fun w' => (∀ o, w'.cell? ⟨w.heap.size, o, none⟩ = (#[.slice an nn kn, .slice sa ns ks, .slice aw nw kw, .slice ad mD kd] : Array Value)[o]?)) w2) := fun w2 hb => ((unhide C1).below hb).S
 have TD : Hid (Below w1.heap.size w1 w1.drew) := (Below.refl _ _).drew
 obtain ⟨m, hm⟩ : ∃ m, m = cntB (fun q => begB D (datS q.l q.l.length)) N := ⟨_, rfl⟩
 have HM := hide hm
 have m5 : m ≤ 5 := by
  have := cnt_le (f := fun q => begB D (datS q.l q.l.length)) (N := N) (k := nn)
  rw [List.take_of_length_le (by rw [unhide HNN]; exact Nat.le_refl _), ← hm] at this
  have := unhide N5
  omega
 have gA : decide ((nn : Int) < 2 * (m : Int)) = A := by
  rw [unhide HA2]; unfold holdsB; rw [unhide HNN, ← hm]
  exact decide_eq_decide.2 (by omega)
 have q1 : 2 * (m : Int) ≤ 9223372036854775807 := by omega
 have q0 : 0 ≤ 2 * (m : Int) := by omega
 have gW : IntKind.i64.wrap (2 * (m : Int)) = 2 * (m : Int) := by rw [IntKind.wrap_i64]; omega
 clear hm
 refine wp_region_held_drew (S := fun w' => (∀ o, w'.cell? ⟨w.heap.size, o, none⟩ = (#[.slice an nn kn, .slice sa ns ks, .slice aw nw kw, .slice ad mD kd] : Array Value)[o]?)) (by kernel_rfl) (unhide SK _ (unhide TD)) (fun hHeld => ?_)
 generalize w1.drew = wd at TD hHeld ⊢
 refine wtv 0 (oi := { dst := some 9, op := .load 35 (.tmp 1), type := 35, pos := "l09_cluster.go:292", after := #[], guard := none }) ?_
 refine wtv 1 (oi := { dst := some 10, op := .move (.tmp 4), type := 63, pos := "l09_cluster.go:292", after := #[], guard := none }) ?_
 refine wtv 4 (oi := { dst := some 13, op := .fieldAddr 35 (.tmp 1) 0, type := 0, pos := "l09_cluster.go:292", after := #[], guard := none }) ?_
 refine wtv 5 (oi := { dst := some 14, op := .load 31 (.tmp 13), type := 31, pos := "l09_cluster.go:292", after := #[{ on := 4, ground := .data }], guard := none }) ?_
 refine wtv 6 (oi := { dst := some 15, op := .call { callee := .builtin Go.Builtin.len, args := #[.tmp 14], argTypes := #[31] }, type := 3, pos := "l09_cluster.go:292", after := #[{ on := 5, ground := .data }], guard := none }) ?_
 refine wpAnyH_ready (rs := [2]) (by kernel_rfl) (by simp) ?_
 refine AllReadyH.cons (o := { dst := some 11, op := .call { callee := .value (.func 24), args := #[.tmp 9, .tmp 10], argTypes := #[35, 63] }, type := 3, pos := "l09_cluster.go:292", after := #[{ on := 0, ground := .data }, { on := 1, ground := .data }], guard := none }) rfl (fun K hK => ?_) AllReadyH.nil
 go_simp
 refine (icnt w.heap.size an kn nn (.slice sa ns ks) (.slice aw nw kw) ad kd mD D HMD (unhide M6) (unhide KD) N HNN (unhide N5) HOK _ ((unhide C1).below (unhide TD)) ((unhide H1).below (unhide TD)) (fun p hp r hr => (unhide H2 p hp r hr).below (unhide TD)) ((unhide H6).below (unhide TD))).mono ?_
 rintro e w2 ⟨rfl, hb2⟩
 rw [← unhide HM]
 have T2 := hide ((unhide TD).trans (hb2.mono (unhide TD).size))
 clear hb2
 go_wp2_with fail
 refine hK.out _ _ ?_ (fun hHeld2 => ?_)
 ·exact unhide SK _ (unhide T2)
 clear hK K
 try simp only [Act.put, qqA, qqB, qqC]
 refine wtv 3 (oi := { dst := some 12, op := .binOp .mul 3 (.const (.int .i64 2)) (.tmp 11) 3, type := 3, pos := "l09_cluster.go:292", after := #[{ on := 2, ground := .data }], guard := none }) ?_
 refine wtv 7 (oi := { dst := some 16, op := .binOp .gtr 3 (.tmp 12) (.tmp 15) 3, type := 4, pos := "l09_cluster.go:292", after := #[{ on := 3, ground := .data }, { on := 6, ground := .data }], guard := none }) ?_
 refine wtv 8 (oi := { dst := some 2, op := .assign (.tmp 16), type := 4, pos := "l09_cluster.go:292", after := #[{ on := 7, ground := .data }, { on := 2, ground := .chain }, { on := 0, ground := .phase }, { on := 1, ground := .phase }, { on := 2, ground := .phase }, { on := 3, ground := .phase }, { on := 4, ground := .phase }, { on := 5, ground := .phase }, { on := 6, ground := .phase }, { on := 7, ground := .phase }], guard := none }) ?_
 refine wtv 9 (oi := { dst := some 3, op := .assign (.const (.int .i64 0)), type := 3, pos := "l09_cluster.go:292", after := #[{ on := 8, ground := .chain }, { on := 0, ground := .phase }, { on := 1, ground := .phase }, { on := 2, ground := .phase }, { on := 3, ground := .phase }, { on := 4, ground := .phase }, { on := 5, ground := .phase }, { on := 6, ground := .phase }, { on := 7, ground := .phase }, { on := 8, ground := .phase }], guard := none }) ?_
 refine wpAnyH_done (by kernel_rfl) ?_ _
 have BR := hide ((unhide B1).trans ((unhide T2).mono (unhide B1).size))
 clear SK TD T2 hHeld hHeld2 B1 C1 H1 H2 H6
 go_wp2_with fail
 go_ret2
 exact ⟨rfl, unhide BR⟩
end Go.Proofs.YtjjdeejajbmecaaGreatDoor
