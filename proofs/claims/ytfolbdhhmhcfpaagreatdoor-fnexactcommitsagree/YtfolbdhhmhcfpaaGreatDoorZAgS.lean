/- spec.CommitsAgree. -/
import Derived.Test.YtfolbdhhmhcfpaaGreatDoorZG18
import Derived.Test.YtfolbdhhmhcfpaaGreatDoorZClkT
import Derived.Deep.QuietTactic
namespace Go.Proofs.YtfolbdhhmhcfpaaGreatDoor
open Go.ChangeShapes Go.WideShapes Go.ChangeAt Go.RowKit
set_option linter.unusedVariables false
set_option maxHeartbeats 4000000 in
set_option maxRecDepth 100000 in
theorem scommitsAgree (nv sv wv dv : Value) (c : Clu) (HF : Hid (c.fits 1048576)) (B A : Bool) (HB : Hid (B = cluB c.nds c.sts c.wire c.done)) (HA : Hid (A = agreeB c.nds c.done)) (w : World) (h : CluR w nv sv wv dv c) :
  Calls Tryz.prog 5 #[.agg #[nv, sv, wv, dv]] w fun e w' => e = .returned (.tuple #[.bool (B && A), .int .i64 (if B then 0 else 1)]) ∧ Below w.heap.size w w' := by
 obtain ⟨an, kn, sa, ks, aw, kw, ad, kd, rfl, rfl, rfl, rfl, h1, h2, h3, h4, h5, h6⟩ := h.parts
 obtain ⟨⟨f1, f2, f3, f4⟩, g1, g2, g3, g4⟩ := unhide HF
 have HRC := hide (CluR.below h (Go.Joins.below_alloc1 w (.cells #[.slice an c.nds.length kn, .slice sa c.sts.length ks, .slice aw c.wire.length kw, .slice ad c.done.length kd] 35)))
 obtain ⟨N, S, W, D⟩ := c
 simp only at *
 obtain ⟨nn, hnn⟩ : ∃ n, N.length = n := ⟨_, rfl⟩
 obtain ⟨ns, hns⟩ : ∃ n, S.length = n := ⟨_, rfl⟩
 obtain ⟨nw, hnw⟩ : ∃ n, W.length = n := ⟨_, rfl⟩
 obtain ⟨mD, hmD⟩ : ∃ n, D.length = n := ⟨_, rfl⟩
 have HNN : Hid (N.length = nn) := hnn
 have HMD : Hid (D.length = mD) := hmD
 simp only [hnn, hns, hnw, hmD] at f1 f4 HRC ⊢
 have M6 := hide f4
 have B0 := hide (Go.Joins.below_alloc1 w (Obj.cells #[.slice an nn kn, .slice sa ns ks, .slice aw nw kw, .slice ad mD kd] 35))
 have C0 := hide (BF.new w #[.slice an nn kn, .slice sa ns ks, .slice aw nw kw, .slice ad mD kd] 35)
 have H1 := hide (h1.below (unhide B0))
 have H2 : Hid (∀ p ∈ N, ∀ r ∈ nrows p, r.read (w.alloc (Obj.cells #[.slice an nn kn, .slice sa ns ks, .slice aw nw kw, .slice ad mD kd] 35))) := fun p hp r hr => (h2 p hp r hr).below (unhide B0)
 have H6 := hide (h6.below (unhide B0))
 have HB2 : Hid (B = cluB N S W D) := HB
 have HA2 : Hid (A = agreeB N D) := HA
 have HG := hide g1
 have HCN := hide (flat_len (c := cN) (z := 13) (fun p => rfl) N)
 clear h h1 h2 h3 h4 h5 h6 f1 f2 f3 f4 g1 g2 g3 g4 hnn hns hnw hmD HA HB
 have cc := (unhide C0).S
 go_enter Tryz.func5, Tryz.ntmps5
 go_wp2_with fail
 refine (sclusterok _ _ _ _ ⟨N, S, W, D⟩ HF B HB2 _ (unhide HRC)).mono ?_
 rintro e w1 ⟨rfl, hb⟩
 have B1 := hide ((unhide B0).trans (hb.mono (unhide B0).size))
 have C1 := hide ((unhide C0).below hb)
 have I1 := hide ((unhide H1).below hb)
 have I2 : Hid (∀ p ∈ N, ∀ r ∈ nrows p, r.read w1) := fun p hp r hr => (unhide H2 p hp r hr).below hb
 have I6 := hide ((unhide H6).below hb)
 clear hb B0 C0 H1 H2 H6 HRC cc
 cases B
 ·go_wp2_with fail
  go_ret2
  exact ⟨rfl, unhide B1⟩
 have hq := (unhide HB2).symm
 have hok := clu_ok hq
 have N5 : Hid (nn ≤ 5) := by show _ ≤ _; rw [← unhide HNN]; exact hok.1
 have HOK : Hid (∀ p ∈ N, 0 ≤ p.n.cm ∧ p.n.cm ≤ (p.n.l.length : Int)) := hok.2
 have n5 := unhide N5
 clear hq hok HB2
 go_wp2_with fail
 go_loopw [4] (fun i wr => ∃ k : Nat, k ≤ nn ∧ i = .int .i64 k ∧ Hid (A = agreeB (N.drop k) D) ∧ Hid (Below w1.heap.size w1 wr)) (fun i _ => nn - (intOf i).toNat)
 case atStart => exact ⟨0, by omega, rfl, HA2, Below.refl _ _⟩
 case round =>
  obtain ⟨k, hk, rfl, HD, HB⟩ := hrel
  have C2 := hide ((unhide C1).below (unhide HB))
  have cc := (unhide C2).S
  by_cases hlt : k < nn
  ·have hkn : k < N.length := by rw [unhide HNN]; exact hlt
   obtain ⟨b, off, rfl, hblt, hcn⟩ := (unhide I1).at (by rw [unhide HCN, unhide HNN]; omega)
   have m1 := (row_N13 hcn k hkn).below (unhide HB) hblt
   have hfit := unhide HG _ (List.getElem_mem hkn)
   have hcmr := unhide HOK _ (List.getElem_mem hkn)
   have hrd := nd_rows (fun r hr => (unhide I2 _ (List.getElem_mem hkn) r hr).below (unhide HB))
   have HD2 : Hid (A = (agB N[k].n D && agreeB (N.drop (k + 1)) D)) := by show _ = _; rw [unhide HD]; exact agree_step hkn
   clear HD hcn
   generalize N[k] = P at m1 hfit hrd HD2 hcmr
   obtain ⟨⟨id, nd, tm, vt, ro, up, l, cm, el, wt, lv, lx, lg⟩, ea, ec, va, vc, xa, xc, ga, gc⟩ := P
   obtain ⟨f0, fv, fx, fg, fs⟩ := hfit
   obtain ⟨hcm0, hcm1⟩ := hcmr
   obtain ⟨c0, rfl⟩ : ∃ c0 : Nat, cm = (c0 : Int) := ⟨cm.toNat, by simp only at hcm0; omega⟩
   obtain ⟨n0, hnn0⟩ : ∃ n0, l.length = n0 := ⟨_, rfl⟩
   have HN0 : Hid (l.length = n0) := hnn0
   obtain ⟨nv, hnnv⟩ : ∃ nv, lv.length = nv := ⟨_, rfl⟩
   have HNv : Hid (lv.length = nv) := hnnv
   obtain ⟨nx, hnnx⟩ : ∃ nx, lx.length = nx := ⟨_, rfl⟩
   have HNx : Hid (lx.length = nx) := hnnx
   obtain ⟨ng, hnng⟩ : ∃ ng, lg.length = ng := ⟨_, rfl⟩
   have HNg : Hid (lg.length = ng) := hnng
   simp only [hnn0] at f0 hcm1
   unfold N13 at m1
   simp only [hnn0, hnnv, hnnx, hnng] at m1
   have hc0 : c0 ≤ n0 := by omega
   obtain ⟨b1, hb1⟩ : ∃ b1, b1 = begB (datS l c0) D := ⟨_, rfl⟩
   have HB1 := hide hb1
   have HD3 : Hid (A = (b1 && agreeB (N.drop (k + 1)) D)) := by
    show _ = _; rw [unhide HD2, hb1]; simp only [agB, Int.toNat_natCast]; try rfl
   have HDL : Hid ((datS l c0).length = c0) := datS_len l c0 (by rw [hnn0]; exact hc0)
   have i1 : (k : Int) < (nn : Int) := by omega
   have i0 : (0 : Int) ≤ (k : Int) := by omega
   have TB := hide (Go.Joins.below_alloc1 wr (Obj.cells #[.int .i64 id, .int .i64 nd, .int .i64 tm, .int .i64 vt, .int .i64 ro, .bool up, .slice ea n0 ec, .int .i64 (c0 : Int), .int .i64 el, .int .i64 wt, .slice va nv vc, .slice xa nx xc, .slice ga ng gc] 47))
   have BB := hide ((unhide HB).trans ((unhide TB).mono (unhide HB).size))
   have C3 := hide ((unhide C1).below (unhide BB))
   have A3 := hide (BF.new wr #[.int .i64 id, .int .i64 nd, .int .i64 tm, .int .i64 vt, .int .i64 ro, .bool up, .slice ea n0 ec, .int .i64 (c0 : Int), .int .i64 el, .int .i64 wt, .slice va nv vc, .slice xa nx xc, .slice ga ng gc] 47)
   have E0 := hide (hrd.1.below (unhide TB))
   have H6 := hide ((unhide I6).below (unhide BB))
   have nb := (unhide A3).S
   have c3 := (unhide C3).S
   clear hrd HD2 hb1 hnn0 hnnv hnnx hnng fs TB hkn fv fx fg hcm0 hcm1
   by_cases hcD : c0 ≤ mD
   case neg =>
    have g : (mD : Int) < (c0 : Int) := by omega
    have HD4 : Hid (A = false) := by show _ = _; rw [unhide HD3, unhide HB1, beg_long (by rw [unhide HDL, unhide HMD]; exact hcD)]; rfl
    go_wp2_with fail
    go_ret2
    exact ⟨by rw [unhide HD4]; rfl, (unhide B1).trans ((unhide BB).mono (unhide B1).size)⟩
   have g : ¬ (mD : Int) < (c0 : Int) := by omega
   go_wp2_with fail
   clear cc m1 nb c3 g
   obtain ⟨nb, hnb⟩ : ∃ nb, nb = wr.heap.size := ⟨_, rfl⟩
   rw [← hnb] at A3 ⊢
   clear hnb
   generalize wr.alloc (Obj.cells #[.int .i64 id, .int .i64 nd, .int .i64 tm, .int .i64 vt, .int .i64 ro, .bool up, .slice ea n0 ec, .int .i64 (c0 : Int), .int .i64 el, .int .i64 wt, .slice va nv vc, .slice xa nx xc, .slice ga ng gc] 47) = wa at BB A3 C3 E0 H6 ⊢
   clear HB C2
   go_loopw [6] (fun i wq => ∃ q : Nat, q ≤ c0 ∧ i = .int .i64 q ∧ Hid (∀ j (h1 : j < (datS l c0).length) (h2 : j < D.length), j < q → (datS l c0)[j] = D[j]) ∧ Hid (Below wa.heap.size wa wq)) (fun i _ => c0 - (intOf i).toNat)
   case atStart => exact ⟨0, by omega, rfl, fun j _ _ h => absurd h (Nat.not_lt_zero _), Below.refl _ _⟩
   case round =>
    obtain ⟨q, hq, rfl, HQ, HB⟩ := hrel
    have c4 := ((unhide C3).below (unhide HB)).S
    have n4 := ((unhide A3).below (unhide HB)).S
    by_cases hqc : q < c0
    ·have hql : q < l.length := by rw [unhide HN0]; omega
     have hqD : q < D.length := by rw [unhide HMD]; omega
     obtain ⟨b2, o2, rfl, hlt2, hc2⟩ := (unhide E0).at (by rw [cE_len, unhide HN0]; omega)
     obtain ⟨b3, o3, rfl, hlt3, hc3⟩ := (unhide H6).at (by rw [cS_len, unhide HMD]; omega)
     obtain ⟨x0, x1⟩ := row_ent hc2 q hql
     have y1 := hc3 q _ (cS_at D q hqD)
     obtain ⟨d, ed⟩ : ∃ d, d = l[q].2 := ⟨_, rfl⟩
     obtain ⟨e, ee⟩ : ∃ e, e = D[q] := ⟨_, rfl⟩
     rw [← ed] at x1
     rw [← ee] at y1
     have hx1 := ((unhide HB).cell (p := ⟨b2, o2 + q * 2 + 1, none⟩) hlt2).trans x1
     have hy1 := ((unhide HB).cell (p := ⟨b3, o3 + q, none⟩) hlt3).trans y1
     have hdl : q < (datS l c0).length := by rw [unhide HDL]; exact hqc
     have hda : (datS l c0)[q] = d := by rw [ed]; exact datS_at hdl hql
     have j1 : (q : Int) < (c0 : Int) := by omega
     have j2 : (q : Int) < (n0 : Int) := by omega
     have j3 : (q : Int) < (mD : Int) := by omega
     have j0 : (0 : Int) ≤ (q : Int) := by omega
     by_cases heq : d = e
     ·have HQ2 : Hid (∀ j (h1 : j < (datS l c0).length) (h2 : j < D.length), j < q + 1 → (datS l c0)[j] = D[j]) := fun j h1 h2 hj => by
       by_cases e1 : j = q
       ·subst e1; rw [hda, heq, ee]
       ·exact unhide HQ j h1 h2 (by omega)
      subst heq
      have nd : (d.toList != d.toList) = false := by simp
      clear hc2 hc3 x0 x1 y1 ed ee HQ hda
      go_wp2_with fail
      go_quiet (fail)
      go_wp2_with fail
      go_roundw
      case rel => exact ⟨q + 1, by omega, by go_num, HQ2, below_drewA (unhide HB) _⟩
      case measure => simp [intOf]; omega
     ·have HD4 : Hid (A = false) := by show _ = _; rw [unhide HD3, unhide HB1, beg_false (q := q) (h1 := hdl) (h2 := hqD) (by rw [hda, ← ee]; exact heq)]; rfl
      have hne2 := list_ne heq
      have nd : (d.toList != e.toList) = true := by simpa using hne2
      have nb : (d.toList == e.toList) = false := by simpa using hne2
      clear hc2 hc3 x0 x1 y1 ed ee HQ hda heq
      go_wp2_with fail
      go_quiet (fail)
      go_wp2_with fail
      go_ret2
      exact ⟨by rw [unhide HD4]; rfl, (unhide B1).trans (((unhide BB).trans ((below_drewA (unhide HB) _).mono (unhide BB).size)).mono (unhide B1).size)⟩
    ·have HD4 : Hid (A = agreeB (N.drop (k + 1)) D) := by
      show _ = _; rw [unhide HD3, unhide HB1, beg_true (by rw [unhide HDL, unhide HMD]; exact hcD) (fun j h1 h2 => unhide HQ j h1 h2 (by rw [unhide HDL] at h1; omega))]; rfl
     have BR := hide ((unhide BB).trans ((unhide HB).mono (unhide BB).size))
     clear HD3 HQ
     go_wp2_with fail
     go_roundw
     case rel => exact ⟨k + 1, by omega, by go_num, HD4, BR⟩
     case measure => simp [intOf]; omega
  ·have HD4 : Hid (A = true) := by show _ = _; rw [unhide HD, agree_end (by rw [unhide HNN]; omega)]
   go_wp2_with fail
   go_ret2
   exact ⟨by rw [unhide HD4]; rfl, (unhide B1).trans ((unhide HB).mono (unhide B1).size)⟩
end Go.Proofs.YtfolbdhhmhcfpaaGreatDoor
