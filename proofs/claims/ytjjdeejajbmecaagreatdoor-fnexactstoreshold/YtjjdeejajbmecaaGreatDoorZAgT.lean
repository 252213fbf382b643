/- spec.StoresHold. -/
import Derived.Test.YtjjdeejajbmecaaGreatDoorZG18
import Derived.Test.YtjjdeejajbmecaaGreatDoorZClkT
import Derived.Deep.QuietTactic
namespace Go.Proofs.YtjjdeejajbmecaaGreatDoor
open Go.ChangeShapes Go.WideShapes Go.ChangeAt Go.RowKit
set_option linter.unusedVariables false
theorem clu_ld {N : List NdA} {S : List StA} {W : List MgA} {D : List ByteArray} (h : cluB N S W D = true) : S.length = N.length ∧ D.length ≤ 60 ∧ ∀ k (h1 : k < N.length) (h2 : k < S.length), ldB S[k].1 S[k].2 N[k].n.tm N[k].n.vt N[k].n.l = true ∧ N[k].n.l.length ≤ 60 := by
 unfold cluB at h
 simp only [Bool.and_eq_true, decide_eq_true_eq] at h
 refine ⟨h.1.1.1.2, h.2.1, ?_⟩
 have go : ∀ (N : List NdA) (S : List StA) (i n : Nat), nodesB n i N S = true → ∀ k (h1 : k < N.length) (h2 : k < S.length), ldB S[k].1 S[k].2 N[k].n.tm N[k].n.vt N[k].n.l = true ∧ N[k].n.l.length ≤ 60 := by
  intro N
  induction N with
  | nil => intro S i n _ k h1; simp at h1
  | cons q N ih =>
   intro S i n hb k h1 h2
   cases S with
   | nil => simp at h2
   | cons r S =>
    simp only [nodesB, Bool.and_eq_true] at hb
    cases k with
    | zero =>
     have h3 := hb.1
     unfold oneB at h3
     simp only [Bool.and_eq_true] at h3
     exact ⟨h3.2, (state_parts (nodeB_state h3.1.2)).2.2.1⟩
    | succ k => exact ih S (i + 1) n hb.2 k (by simpa using h1) (by simpa using h2)
 exact go N S 0 N.length h.1.1.2
theorem ld_parts {d : ByteArray} {s tm vt : Int} {l : List Ent} (h : ldB d s tm vt l = true) : d.size ≤ 60000 ∧ ¬ (frs d.size d.data.toList).2.2 = 8 ∧ apAll (0, -1, []) (frs d.size d.data.toList).1 = some (tm, vt, l) := by
 unfold ldB stoB at h
 simp only [Bool.and_eq_true, decide_eq_true_eq] at h
 exact ⟨h.1.1.1.1.1, h.1.1.2, h.2⟩
theorem sbit01 (b : Bool) (w : World) : Calls Tryz.prog 15 #[.bool b] w fun e w' => e = .returned (.int .i64 ((if b then 1 else 0 : Nat) : Int)) ∧ w' = w := by
 cases b
 ·go_enter Tryz.func15, Tryz.ntmps15
  go_wp2_with fail
  go_ret
  exact ⟨rfl, rfl⟩
 ·go_enter Tryz.func15, Tryz.ntmps15
  go_wp2_with fail
  go_ret
  exact ⟨rfl, rfl⟩
set_option maxHeartbeats 4000000 in
set_option maxRecDepth 100000 in
theorem sstoresHold (nv sv wv dv : Value) (c : Clu) (HF : Hid (c.fits 1048576)) (B A : Bool) (HB : Hid (B = cluB c.nds c.sts c.wire c.done)) (HA : Hid (A = holdsB c.nds c.done)) (w : World) (h : CluR w nv sv wv dv c) :
  Calls Tryz.prog 5 #[.agg #[nv, sv, wv, dv]] w fun e w' => e = .returned (.tuple #[.bool (B && A), .int .i64 (if B then 0 else 1)]) ∧ Below w.heap.size w w' := by
 obtain ⟨an, kn, sa, ks, aw, kw, ad, kd, rfl, rfl, rfl, rfl, h1, h2, h3, h4, h5, h6⟩ := h.parts
 have HRC := hide (CluR.below h (Go.Joins.below_alloc1 w (.cells #[.slice an c.nds.length kn, .slice sa c.sts.length ks, .slice aw c.wire.length kw, .slice ad c.done.length kd] 35)))
 obtain ⟨N, S, W, D⟩ := c
 simp only at *
 obtain ⟨nn, hnn⟩ : ∃ n, N.length = n := ⟨_, rfl⟩
 obtain ⟨ns, hns⟩ : ∃ n, S.length = n := ⟨_, rfl⟩
 obtain ⟨nw, hnw⟩ : ∃ n, W.length = n := ⟨_, rfl⟩
 obtain ⟨mD, hmD⟩ : ∃ n, D.length = n := ⟨_, rfl⟩
 have HNN : Hid (N.length = nn) := hnn
 have HNS : Hid (S.length = ns) := hns
 have HMD : Hid (D.length = mD) := hmD
 simp only [hnn, hns, hnw, hmD] at HRC ⊢
 have B0 := hide (Go.Joins.below_alloc1 w (Obj.cells #[.slice an nn kn, .slice sa ns ks, .slice aw nw kw, .slice ad mD kd] 35))
 have C0 := hide (BF.new w #[.slice an nn kn, .slice sa ns ks, .slice aw nw kw, .slice ad mD kd] 35)
 have H3 := hide (h3.below (unhide B0))
 have H6 := hide (h6.below (unhide B0))
 have HB2 : Hid (B = cluB N S W D) := HB
 have HA2 : Hid (A = holdsB N D) := HA
 have HCS := hide (flat_len (c := cSt) (z := 2) (fun p => rfl) S)
 clear h h1 h2 h3 h4 h5 h6 hnn hns hnw hmD HA HB
 have cc := (unhide C0).S
 go_enter Tryz.func5, Tryz.ntmps5
 go_wp2_with fail
 refine (sclusterok _ _ _ _ ⟨N, S, W, D⟩ HF B HB2 _ (unhide HRC)).mono ?_
 rintro e w1 ⟨rfl, hb⟩
 have B1 := hide ((unhide B0).trans (hb.mono (unhide B0).size))
 have C1 := hide ((unhide C0).below hb)
 have I3 := hide ((unhide H3).below hb)
 have I6 := hide ((unhide H6).below hb)
 clear hb B0 C0 H3 H6 HRC cc
 cases B
 ·go_wp2_with fail
  go_ret2
  exact ⟨rfl, unhide B1⟩
 have hq := (unhide HB2).symm
 obtain ⟨hsn, hd60, hld⟩ := clu_ld hq
 have hok := clu_ok hq
 have n5 : nn ≤ 5 := by rw [← unhide HNN]; exact hok.1
 have hnsn : ns = nn := by rw [← unhide HNS, ← unhide HNN]; exact hsn
 have m60 : mD ≤ 60 := by rw [← unhide HMD]; exact hd60
 have HLD := hide hld
 obtain rfl := hnsn
 clear hq hok HB2 hsn hd60 hld
 go_wp2_with fail
 go_loopw [4, 5] (fun s i wr => ∃ k m : Nat, k ≤ ns ∧ m ≤ k ∧ i = .int .i64 k ∧ s = .int .i64 (m : Int) ∧ Hid (m = cntB (fun q => begB D (datS q.l q.l.length)) (N.take k)) ∧ Hid (Below w1.heap.size w1 wr)) (fun _ i _ => ns - (intOf i).toNat)
 case atStart => exact ⟨0, 0, by omega, by omega, rfl, rfl, rfl, Below.refl _ _⟩
 case round =>
  obtain ⟨k, m, hk, hm, rfl, rfl, HD, HB⟩ := hrel
  have C2 := hide ((unhide C1).below (unhide HB))
  have cc := (unhide C2).S
  by_cases hlt : k < ns
  ·have hkn : k < N.length := by rw [unhide HNN]; exact hlt
   have hks : k < S.length := by rw [unhide HNS]; exact hlt
   obtain ⟨sb, so, rfl, hslt, hcs⟩ := (unhide I3).at (by rw [unhide HCS, unhide HNS]; omega)
   have m2 := (row_S2 hcs k hks).below (unhide HB) hslt
   have hl := unhide HLD k hkn hks
   have HD2 : Hid (cntB (fun q => begB D (datS q.l q.l.length)) (N.take (k + 1)) = m + (if begB D (datS N[k].n.l N[k].n.l.length) then 1 else 0)) := by show _ = _; rw [unhide HD]; exact cnt_snoc hkn
   clear HD hcs
   generalize N[k] = P at hl HD2
   generalize S[k] = q at m2 hl
   obtain ⟨d, s⟩ := q
   obtain ⟨⟨p, hp⟩, n0, hn0⟩ : (∃ p, P.n = p) ∧ ∃ n0, P.n.l.length = n0 := ⟨⟨_, rfl⟩, _, rfl⟩
   rw [hp] at hl HD2 hn0
   clear hp
   obtain ⟨hl1, hl60⟩ := hl
   obtain ⟨hd60, h8, hap⟩ := ld_parts hl1
   simp only at hd60 h8 hap
   have n60 : n0 ≤ 60 := by rw [← hn0]; exact hl60
   obtain ⟨l, hpl⟩ : ∃ l, p.l = l := ⟨_, rfl⟩
   rw [hpl] at hap HD2 hn0
   have HN0 := hide hn0
   unfold S2 at m2
   simp only at m2
   have HAP := hide hap
   have H8 := hide h8
   clear hl1 hl60 hap h8 hpl hkn hks
   obtain ⟨b1, hb1⟩ : ∃ b1, b1 = begB D (datS l n0) := ⟨_, rfl⟩
   have HB1 := hide hb1
   have HD3 : Hid (cntB (fun q => begB D (datS q.l q.l.length)) (N.take (k + 1)) = m + (if b1 then 1 else 0)) := by show _ = _; rw [unhide HD2, hb1, hn0]
   have HDL : Hid ((datS l n0).length = n0) := datS_len l n0 (by rw [hn0]; exact Nat.le_refl _)
   clear HD2 hb1 hn0
   have i1 : (k : Int) < (ns : Int) := by omega
   have i0 : (0 : Int) ≤ (k : Int) := by omega
   go_wp2_with fail
   refine (srec0 d s d.size rfl hd60 _).mono ?_
   rintro e w5 ⟨hto, hb5⟩
   have T5 := hide ((unhide HB).trans (hb5.mono (unhide HB).size))
   clear hb5 m2 cc
   rcases hto with ⟨cx, x, y, a2, n2, cp, hcc, rfl⟩ | ⟨tm2, vt2, l2, a2, n2, cp, -, hap, hn2, ho, rfl⟩
   ·exfalso
    rcases hcc with ⟨h, -⟩ | ⟨-, h, -⟩
    ·exact unhide H8 h
    ·rw [unhide HAP] at h; cases h
   obtain ⟨Kf, hKf⟩ : ∃ K, K = (frs d.size d.data.toList).2.1 := ⟨_, rfl⟩
   rw [← hKf]
   have hl2 : l2 = l := by
    have e := hap.symm.trans (unhide HAP)
    injection e with e
    exact (Prod.mk.inj (Prod.mk.inj e).2).2
   subst hl2
   obtain rfl : n2 = n0 := by rw [← hn2]; exact unhide HN0
   have hr2 : RowV w5 a2 (cE l2) := by obtain ⟨a3, c3, e3, h3⟩ := ownZ_rowV ho; injection e3 with e3; subst e3; exact h3
   have V6 := hide (Go.Joins.below_alloc2 w5 (Obj.cells #[.int .i64 tm2, .int .i64 vt2, .slice a2 n2 cp] 46) (Obj.cells #[.string (d.extract 0 Kf), .int .i64 (Kf : Int)] 48))
   have T6 := hide ((unhide T5).trans ((unhide V6).mono (unhide T5).size))
   have RL := hide (hr2.below (unhide V6))
   have LF := hide ((BF.new w5 #[.int .i64 tm2, .int .i64 vt2, .slice a2 n2 cp] 46).alloc (Obj.cells #[.string (d.extract 0 Kf), .int .i64 (Kf : Int)] 48))
   have C6 := hide ((unhide C1).below (unhide T6))
   have J6 := hide ((unhide I6).below (unhide T6))
   have lf := (unhide LF).S
   have c6 := (unhide C6).S
   clear hap hn2 hr2 ho hKf V6 T5 C2 HB HAP H8
   obtain ⟨b0, hb0⟩ : ∃ b0, b0 = decide ((mD : Int) ≤ (n2 : Int)) := ⟨_, rfl⟩
   have g0 : decide ((mD : Int) ≤ (n2 : Int)) = b0 := hb0.symm
   have HB0 : Hid (b0 = decide (mD ≤ n2)) := by show _ = _; rw [hb0]; exact decide_eq_decide.2 (by omega)
   clear hb0
   go_wp2_with fail
   clear lf c6 g0
   obtain ⟨lb, hlb⟩ : ∃ lb, lb = w5.heap.size := ⟨_, rfl⟩
   rw [← hlb] at LF ⊢
   clear hlb
   generalize hwa : (w5.alloc (Obj.cells #[.int .i64 tm2, .int .i64 vt2, .slice a2 n2 cp] 46)).alloc (Obj.cells #[.string (d.extract 0 Kf), .int .i64 (Kf : Int)] 48) = wa at T6 RL LF C6 J6 ⊢
   clear hwa
   go_loopw [9, 10] (fun f i wq => ∃ (q : Nat) (b : Bool), q ≤ mD ∧ i = .int .i64 q ∧ f = .bool b ∧ Hid ((b = true → mD ≤ n2 ∧ ∀ j (h1 : j < D.length) (h2 : j < (datS l2 n2).length), j < q → D[j] = (datS l2 n2)[j]) ∧ (b = false → b1 = false)) ∧ Hid (Below wa.heap.size wa wq)) (fun _ i _ => mD - (intOf i).toNat)
   case atStart =>
    refine ⟨0, b0, by omega, rfl, by rw [unhide HB0], ⟨fun h => ⟨of_decide_eq_true (by rw [← unhide HB0]; exact h), fun j _ _ h => absurd h (Nat.not_lt_zero _)⟩, fun h => ?_⟩, Below.refl _ _⟩
    rw [unhide HB1]
    refine beg_long (by rw [unhide HMD, unhide HDL]; exact of_decide_eq_false (by rw [← unhide HB0]; exact h))
   case round =>
    obtain ⟨q, b, hq, rfl, rfl, HQ, HB⟩ := hrel
    have c7 := ((unhide C6).below (unhide HB)).S
    have l7 := ((unhide LF).below (unhide HB)).S
    cases b
    ·have HD4 : Hid (m = cntB (fun q => begB D (datS q.l q.l.length)) (N.take (k + 1))) := by show _ = _; rw [unhide HD3, (unhide HQ).2 rfl]; rfl
     have BR := hide ((unhide T6).trans ((unhide HB).mono (unhide T6).size))
     go_wp2_with fail
     refine (sbit01 false _).mono ?_
     rintro e w8 ⟨rfl, rfl⟩
     clear HD3 HQ c7 l7
     go_wp2_with fail
     go_roundw
     case rel => exact ⟨k + 1, m, by omega, by omega, by go_num, by simp, HD4, BR⟩
     case measure => simp [intOf]; omega
    obtain ⟨hmn, hQ⟩ := (unhide HQ).1 rfl
    by_cases hqc : q < mD
    ·have hqD : q < D.length := by rw [unhide HMD]; omega
     have hql : q < l2.length := by rw [unhide HN0]; omega
     obtain ⟨b2, o2, rfl, hlt2, hc2⟩ := (unhide RL).at (by rw [cE_len, unhide HN0]; omega)
     obtain ⟨b3, o3, rfl, hlt3, hc3⟩ := (unhide J6).at (by rw [cS_len, unhide HMD]; omega)
     obtain ⟨x0, x1⟩ := row_ent hc2 q hql
     have y1 := hc3 q _ (cS_at D q hqD)
     obtain ⟨d2, ed⟩ : ∃ d, d = l2[q].2 := ⟨_, rfl⟩
     obtain ⟨e, ee⟩ : ∃ e, e = D[q] := ⟨_, rfl⟩
     rw [← ed] at x1
     rw [← ee] at y1
     have hx1 := ((unhide HB).cell (p := ⟨b2, o2 + q * 2 + 1, none⟩) hlt2).trans x1
     have hy1 := ((unhide HB).cell (p := ⟨b3, o3 + q, none⟩) hlt3).trans y1
     have hdl : q < (datS l2 n2).length := by rw [unhide HDL]; omega
     have hda : (datS l2 n2)[q] = d2 := by rw [ed]; exact datS_at hdl hql
     have j2 : (q : Int) < (n2 : Int) := by omega
     have j3 : (q : Int) < (mD : Int) := by omega
     have j0 : (0 : Int) ≤ (q : Int) := by omega
     obtain ⟨bb, hbb⟩ : ∃ bb, bb = (d2.toList == e.toList) := ⟨_, rfl⟩
     have gb : (d2.toList == e.toList) = bb := hbb.symm
     have HQ2 : Hid ((bb = true → mD ≤ n2 ∧ ∀ j (h1 : j < D.length) (h2 : j < (datS l2 n2).length), j < q + 1 → D[j] = (datS l2 n2)[j]) ∧ (bb = false → b1 = false)) := by
      refine ⟨fun h => ⟨hmn, fun j h1 h2 hj => ?_⟩, fun h => ?_⟩
      ·by_cases e1 : j = q
       ·subst e1
        rw [hda, ← ee]
        rw [hbb] at h
        exact (ByteArray.ext (by rw [beq_iff_eq, ByteArray.toList_eq, ByteArray.toList_eq] at h; exact Array.toList_inj.1 h)).symm
       ·exact hQ j h1 h2 (by omega)
      ·rw [unhide HB1]
       refine beg_false (q := q) (h1 := hqD) (h2 := hdl) ?_
       rw [hda, ← ee]
       intro x
       rw [hbb, x] at h
       simp at h
     clear hc2 hc3 x0 x1 y1 ed ee hda hQ HQ hbb
     go_wp2_with fail
     go_quiet (fail)
     go_wp2_with fail
     go_roundw
     case rel => exact ⟨q + 1, bb, by omega, by go_num, by first | rfl | rw [gb], HQ2, below_drewA (unhide HB) _⟩
     case measure => simp [intOf]; omega
    ·have hb1 : b1 = true := by
      rw [unhide HB1]
      exact beg_true (by rw [unhide HMD, unhide HDL]; exact hmn) (fun j h1 h2 => hQ j h1 h2 (by rw [unhide HMD] at h1; omega))
     have HD4 : Hid (m + 1 = cntB (fun q => begB D (datS q.l q.l.length)) (N.take (k + 1))) := by show _ = _; rw [unhide HD3, hb1]; rfl
     have BR := hide ((unhide T6).trans ((unhide HB).mono (unhide T6).size))
     clear hQ HQ hb1 hmn HB1
     go_wp2_with fail
     refine (sbit01 true _).mono ?_
     rintro e w8 ⟨rfl, rfl⟩
     clear HD3 c7 l7
     have q1 : (m : Int) + 1 ≤ 9223372036854775807 := by omega
     go_wp2_with fail
     go_roundw
     case rel => exact ⟨k + 1, m + 1, by omega, by omega, by go_num, by simp, HD4, BR⟩
     case measure => simp [intOf]; omega
  ·have HD4 : Hid (A = decide ((ns : Int) < 2 * (m : Int))) := by
    show _ = _; rw [unhide HA2]; unfold holdsB
    rw [unhide HNN, unhide HD, List.take_of_length_le (by rw [unhide HNN]; omega)]
    exact decide_eq_decide.2 (by omega)
   have q1 : 2 * (m : Int) ≤ 9223372036854775807 := by omega
   have q0 : 0 ≤ 2 * (m : Int) := by omega
   have gW : IntKind.i64.wrap (2 * (m : Int)) = 2 * (m : Int) := by rw [IntKind.wrap_i64]; omega
   go_wp2_with fail
   go_ret2
   exact ⟨by rw [unhide HD4]; rfl, (unhide B1).trans ((unhide HB).mono (unhide B1).size)⟩
end Go.Proofs.YtjjdeejajbmecaaGreatDoor
