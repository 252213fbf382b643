/- A tick: what the specification answers, whole. -/
import Derived.Test.YtjlajpnhcphngaaZStkS
namespace Go.Proofs.Ytjlajpnhcphngaa
open Go.ChangeShapes Go.WideShapes Go.ChangeAt Go.RowKit
set_option linter.unusedVariables false
theorem logB_up {T T' : Int} (h : T ≤ T') : ∀ (l : List Ent) (p : Int), logB T p l = true → logB T' p l = true
  | [], _, _ => rfl
  | e :: l, p, hl => by
    unfold logB entB inB at hl ⊢
    simp only [Bool.and_eq_true, decide_eq_true_eq] at hl ⊢
    exact ⟨⟨⟨hl.1.1.1, Int.le_trans hl.1.1.2 h⟩, hl.1.2⟩, logB_up h l e.1 hl.2⟩
set_option maxHeartbeats 4000000 in
set_option maxRecDepth 100000 in
theorem stickA (P lo : Nat) (N : Nf) (hB : nfB N = true) (hU : N.up = true) (dr : Nat) (hdr : dr ≤ 1000000) (eA : Option Addr) (eC : Nat) (vA : Option Addr) (vC : Nat) (xA : Option Addr) (xC : Nat) (gA : Option Addr) (gC : Nat) (bo co : Nat) (w : World) (hP : BF P #[.int .i64 N.id, .int .i64 N.nd, .int .i64 N.tm, .int .i64 N.vt, .int .i64 N.ro, .bool N.up, .slice eA N.l.length eC, .int .i64 N.cm, .int .i64 N.el, .int .i64 N.wt, .slice vA N.lv.length vC, .slice xA N.lx.length xC, .slice gA N.lg.length gC, .slice (some ⟨bo, 0, none⟩) 0 co] w) (hlo : lo ≤ P) (he : w.ownsRow lo 68 2 (.slice eA N.l.length eC) N.l.length (cE N.l)) (hv : w.ownsRow lo 3 1 (.slice vA N.lv.length vC) N.lv.length (cI N.lv)) (hx : w.ownsRow lo 3 1 (.slice xA N.lx.length xC) N.lx.length (cI N.lx)) (hg : w.ownsRow lo 3 1 (.slice gA N.lg.length gC) N.lg.length (cI N.lg)) (hO : w.ownsRow lo 54 9 (.slice (some ⟨bo, 0, none⟩) 0 co) 0 []) (hbo : bo ≠ P) (d2 : ∀ j, (Value.slice xA N.lx.length xC).ownBlock = some j → (Value.slice gA N.lg.length gC).ownBlock ≠ some j) (p0 : (Value.slice eA N.l.length eC).ownBlock ≠ some P) (p1 : (Value.slice vA N.lv.length vC).ownBlock ≠ some P) (p2 : (Value.slice xA N.lx.length xC).ownBlock ≠ some P) (p3 : (Value.slice gA N.lg.length gC).ownBlock ≠ some P) (N' : Nf) (M : List Mg) (hNM : tkP N dr = (N', M)) :
    Calls Try.prog 37 #[.pointer (some ⟨P, 0, none⟩), .int .i64 (dr : Int)] w fun e w' => ∃ eA eC vA vC xA xC gA gC a1 n1 c1 L1, e = .returned (.tuple #[]) ∧ BF P #[.int .i64 N'.id, .int .i64 N'.nd, .int .i64 N'.tm, .int .i64 N'.vt, .int .i64 N'.ro, .bool N'.up, .slice eA N'.l.length eC, .int .i64 N'.cm, .int .i64 N'.el, .int .i64 N'.wt, .slice vA N'.lv.length vC, .slice xA N'.lx.length xC, .slice gA N'.lg.length gC, .slice a1 n1 c1] w' ∧ (w'.ownsRow lo 68 2 (.slice eA N'.l.length eC) N'.l.length (cE N'.l) ∧ w'.ownsRow lo 3 1 (.slice vA N'.lv.length vC) N'.lv.length (cI N'.lv) ∧ w'.ownsRow lo 3 1 (.slice xA N'.lx.length xC) N'.lx.length (cI N'.lx) ∧ w'.ownsRow lo 3 1 (.slice gA N'.lg.length gC) N'.lg.length (cI N'.lg)) ∧ MOwn w' lo (.slice a1 n1 c1) L1 ∧ L1.map (·.1) = M ∧ Below lo w w' := by
  obtain ⟨nd', c', hnd, hcm, h5, h1, hcn, hn60, hlx, hlg, hJ, hlog, htm, hid, hel, hup⟩ := nf_parts hB
  obtain ⟨id, nd, tm, vt, ro, up, l, cm, el, wt, lv, lx, lg⟩ := N
  simp only at hnd hcm hU hcn hn60 hlx hlg hJ hlog htm hid hel hup hP he hv hx hg d2 p0 p1 p2 p3
  subst hnd hcm hU
  have hlw : lo ≤ w.heap.size := Nat.le_trans hlo (Nat.le_of_lt hP.lt)
  have hcap : l.length ≤ eC := by
    rcases he.2 with ⟨h0, h2⟩ | ⟨gq, cq, cur, hvq, _, _, hnc, _⟩
    · rw [h2]; exact Nat.zero_le _
    · injection hvq with _ _ e3; rw [e3]; exact hnc
  by_cases hro : ro = 2
  · subst hro
    by_cases h2 : 2 ≤ mn (el + 1) 1000
    · have hT : tkP ⟨id, (nd' : Int), tm, vt, 2, true, l, (c' : Int), el, wt, lv, lx, lg⟩ dr = (⟨id, (nd' : Int), tm, vt, 2, true, l, (c' : Int), 0, wt, lv, lx, lg⟩, tls id tm (c' : Int) l (jOf lx) nd') := by
        unfold tkP; rw [if_pos rfl, if_pos h2]; simp only [Int.toNat_natCast]
      rw [hT] at hNM
      injection hNM with hN hM
      subst hN hM
      refine (stick_tell P lo id nd' tm vt c' el wt true eA eC l.length vA vC lv.length xA xC lx.length gA gC lg.length bo co l rfl hn60 hcap h5 hcn hel _ rfl dr h2 lx (jOf lx) hJ rfl hlx w hP hlo hO hbo (rowZ_at he) (rowZ_at hx) (offA_own he (fun j hj => ⟨fun e => p0 (by rw [← e]; exact hj), fun e => by cases e⟩)) (offA_own hx (fun j hj => ⟨fun e => p2 (by rw [← e]; exact hj), fun e => by cases e⟩)) (offA_own he (fun j hj => ⟨fun e => p0 (by rw [← e]; exact hj), fun e => own_apartS he hO (by decide) j hj e⟩)) (offA_own hx (fun j hj => ⟨fun e => p2 (by rw [← e]; exact hj), fun e => own_apartS hx hO (by decide) j hj e⟩))).mono ?_
      rintro e w' ⟨a1, n1, c1, L1, rfl, hP', hM', hL', ht⟩
      exact ⟨eA, eC, vA, vC, xA, xC, gA, gC, a1, n1, c1, L1, rfl, hP', ⟨own_twoS he ht p0 (fun j hj e => own_apartS he hO (by decide) j hj e), own_twoS hv ht p1 (fun j hj e => own_apartS hv hO (by decide) j hj e), own_twoS hx ht p2 (fun j hj e => own_apartS hx hO (by decide) j hj e), own_twoS hg ht p3 (fun j hj e => own_apartS hg hO (by decide) j hj e)⟩, hM', hL', below_two (Below.refl _ _) ht hlw hlo (fun j e => (hO.lt j e).1)⟩
    · have hT : tkP ⟨id, (nd' : Int), tm, vt, 2, true, l, (c' : Int), el, wt, lv, lx, lg⟩ dr = (⟨id, (nd' : Int), tm, vt, 2, true, l, (c' : Int), mn (el + 1) 1000, wt, lv, lx, lg⟩, []) := by
        unfold tkP; rw [if_pos rfl, if_neg h2]
      rw [hT] at hNM
      injection hNM with hN hM
      subst hN hM
      refine (stick_rest P lo id nd' tm vt c' el wt true eA eC l.length vA vC lv.length xA xC lx.length gA gC lg.length bo co l rfl hn60 hcap h5 hcn hel _ rfl dr h2 w hP).mono ?_
      rintro e w' ⟨rfl, hP', ht⟩
      exact ⟨eA, eC, vA, vC, xA, xC, gA, gC, some ⟨bo, 0, none⟩, 0, co, [], rfl, hP', ⟨own_twoS he ht p0, own_twoS hv ht p1, own_twoS hx ht p2, own_twoS hg ht p3⟩, ⟨own_twoS hO ht (fun h => hbo (Option.some.inj h)), (fun p hp => by cases hp), List.Pairwise.nil, (fun p hp => by cases hp)⟩, rfl, below_two (Below.refl _ _) ht hlw hlo (fun j e => by cases e)⟩
  · by_cases h2 : wt ≤ mn (el + 1) 1000
    · by_cases h3 : tm < 1000
      · obtain ⟨bx, cx, hxe, -, -⟩ := hx.form (by omega)
        obtain ⟨bg, cg, hge, -, -⟩ := hg.form (by omega)
        injection hxe with q1 _ q3
        injection hge with q4 _ q6
        subst q1 q3 q4 q6
        rw [hlx] at hx p2 d2 hP
        rw [hlg] at hg p3 d2 hP
        have hXG : bx ≠ bg := fun e => d2 bx rfl (by rw [e]; rfl)
        have hNP : bx ≠ P ∧ bg ≠ P ∧ bo ≠ P := ⟨fun e => p2 (by rw [e]; rfl), fun e => p3 (by rw [e]; rfl), hbo⟩
        by_cases h9 : nd' = 1
        · have hT : tkP ⟨id, (nd' : Int), tm, vt, ro, true, l, (c' : Int), el, wt, lv, lx, lg⟩ dr = (ldN (stN ⟨id, (nd' : Int), tm, vt, ro, true, l, (c' : Int), el, wt, lv, lx, lg⟩ dr), ldMs (stN ⟨id, (nd' : Int), tm, vt, ro, true, l, (c' : Int), el, wt, lv, lx, lg⟩ dr)) := by
            unfold tkP; rw [if_neg hro, if_pos ⟨h2, h3⟩, if_pos (by simp only; omega)]
          have hN9 : ldN (stN ⟨id, (nd' : Int), tm, vt, ro, true, l, (c' : Int), el, wt, lv, lx, lg⟩ dr) = ⟨id, (nd' : Int), tm + 1, id, 2, true, ldL (tm + 1) l, ((advN id (tm + 1) nd' (ldL (tm + 1) l) (List.replicate nd' (0 : Int)) c' (ldL (tm + 1) l).length : Nat) : Int), 0, 5 + (dr : Int) % 8, [id], List.replicate nd' ((l.length : Int) + 1), List.replicate nd' (0 : Int)⟩ := by
            unfold ldN stN; simp only [Int.toNat_natCast]
          have hM9 : ldMs (stN ⟨id, (nd' : Int), tm, vt, ro, true, l, (c' : Int), el, wt, lv, lx, lg⟩ dr) = tls id (tm + 1) ((advN id (tm + 1) nd' (ldL (tm + 1) l) (List.replicate nd' (0 : Int)) c' (ldL (tm + 1) l).length : Nat) : Int) (ldL (tm + 1) l) (fun _ => l.length) nd' := by
            unfold ldMs; rw [hN9]; unfold stN; simp only [Int.toNat_natCast]
          rw [hT, hN9, hM9] at hNM
          injection hNM with hN hM
          subst hN hM
          refine (stick_one P lo id nd' tm vt ro c' el wt true eA eC l.length vA vC lv.length bx xC bg gC bo co l rfl hn60 hcap h5 hcn hel _ rfl dr lx lg hlx hlg hdr htm (tm + 1) rfl h9 (logB_up (by omega) l 1 hlog) hro h2 h3 w hP hlo he hx hg hO p0 hNP hXG).mono ?_
          rintro e w' ⟨ea, ec, gV, a1, n1, c1, L1, rfl, f1, f2, f3, f4, f5, f6, f7, f8⟩
          have r1 : (List.replicate nd' ((l.length : Int) + 1)).length = nd' := by simp
          have r2 : (List.replicate nd' (0 : Int)).length = nd' := by simp
          refine ⟨ea, ec, some ⟨gV, 0, none⟩, 1, some ⟨bx, 0, none⟩, xC, some ⟨bg, 0, none⟩, gC, a1, n1, c1, L1, rfl, ?_, ⟨f2, f3, ?_, ?_⟩, f6, f7, f8⟩
          · simp only [r1, r2]; exact f1
          · simp only [r1]; exact f4
          · simp only [r2]; exact f5
        · have hT : tkP ⟨id, (nd' : Int), tm, vt, ro, true, l, (c' : Int), el, wt, lv, lx, lg⟩ dr = (⟨id, (nd' : Int), tm + 1, id, 1, true, l, (c' : Int), 0, 5 + (dr : Int) % 8, [id], lx, lg⟩, asks id (tm + 1) l.length (tAt l l.length) nd') := by
            unfold tkP; rw [if_neg hro, if_pos ⟨h2, h3⟩, if_neg (by simp only; omega)]; unfold stN; simp only [Int.toNat_natCast]
          rw [hT] at hNM
          injection hNM with hN hM
          subst hN hM
          refine (stick_many P lo id nd' tm vt ro c' el wt true eA eC l.length vA vC lv.length bx xC bg gC bo co l rfl hn60 hcap h5 hcn hel _ rfl dr lx lg hlx hlg hdr htm (tm + 1) rfl _ rfl (by omega) hro h2 h3 w hP hlo he hx hg hO p0 hNP hXG).mono ?_
          rintro e w' ⟨gV, a1, n1, c1, L1, rfl, f1, f2, f3, f4, f5, f6, f7, f8⟩
          refine ⟨eA, eC, some ⟨gV, 0, none⟩, 1, some ⟨bx, 0, none⟩, xC, some ⟨bg, 0, none⟩, gC, a1, n1, c1, L1, rfl, ?_, ⟨f2, f3, ?_, ?_⟩, f6, f7, f8⟩
          · simp only [hlx, hlg]; exact f1
          · simp only [hlx]; exact f4
          · simp only [hlg]; exact f5
      · have hT : tkP ⟨id, (nd' : Int), tm, vt, ro, true, l, (c' : Int), el, wt, lv, lx, lg⟩ dr = (⟨id, (nd' : Int), tm, vt, ro, true, l, (c' : Int), mn (el + 1) 1000, wt, lv, lx, lg⟩, []) := by
          unfold tkP; rw [if_neg hro, if_neg (fun h => h3 h.2)]
        rw [hT] at hNM
        injection hNM with hN hM
        subst hN hM
        refine (stick_late P lo id nd' tm vt ro c' el wt true eA eC l.length vA vC lv.length xA xC lx.length gA gC lg.length bo co l rfl hn60 hcap h5 hcn hel _ rfl dr hro h2 h3 w hP).mono ?_
        rintro e w' ⟨rfl, hP', ht⟩
        exact ⟨eA, eC, vA, vC, xA, xC, gA, gC, some ⟨bo, 0, none⟩, 0, co, [], rfl, hP', ⟨own_twoS he ht p0, own_twoS hv ht p1, own_twoS hx ht p2, own_twoS hg ht p3⟩, ⟨own_twoS hO ht (fun h => hbo (Option.some.inj h)), (fun p hp => by cases hp), List.Pairwise.nil, (fun p hp => by cases hp)⟩, rfl, below_two (Below.refl _ _) ht hlw hlo (fun j e => by cases e)⟩
    · have hT : tkP ⟨id, (nd' : Int), tm, vt, ro, true, l, (c' : Int), el, wt, lv, lx, lg⟩ dr = (⟨id, (nd' : Int), tm, vt, ro, true, l, (c' : Int), mn (el + 1) 1000, wt, lv, lx, lg⟩, []) := by
        unfold tkP; rw [if_neg hro, if_neg (fun h => h2 h.1)]
      rw [hT] at hNM
      injection hNM with hN hM
      subst hN hM
      refine (stick_wait P lo id nd' tm vt ro c' el wt true eA eC l.length vA vC lv.length xA xC lx.length gA gC lg.length bo co l rfl hn60 hcap h5 hcn hel _ rfl dr hro h2 w hP).mono ?_
      rintro e w' ⟨rfl, hP', ht⟩
      exact ⟨eA, eC, vA, vC, xA, xC, gA, gC, some ⟨bo, 0, none⟩, 0, co, [], rfl, hP', ⟨own_twoS he ht p0, own_twoS hv ht p1, own_twoS hx ht p2, own_twoS hg ht p3⟩, ⟨own_twoS hO ht (fun h => hbo (Option.some.inj h)), (fun p hp => by cases hp), List.Pairwise.nil, (fun p hp => by cases hp)⟩, rfl, below_two (Below.refl _ _) ht hlw hlo (fun j e => by cases e)⟩
end Go.Proofs.Ytjlajpnhcphngaa
