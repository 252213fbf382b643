/- A tick: what the program answers, whole. -/
import Derived.Test.YtjlajpnhcphngaaZTkI
namespace Go.Proofs.Ytjlajpnhcphngaa
open Go.ChangeShapes Go.WideShapes Go.ChangeAt Go.RowKit
set_option linter.unusedVariables false
set_option maxHeartbeats 4000000 in
set_option maxRecDepth 100000 in
theorem itickA (P lo : Nat) (N : Nf) (hB : nfB N = true) (hU : N.up = true) (dr : Nat) (hdr : dr ≤ 1000000) (eA : Option Addr) (eC : Nat) (vA : Option Addr) (vC : Nat) (xA : Option Addr) (xC : Nat) (gA : Option Addr) (gC : Nat) (w : World) (hP : BF P #[.int .i64 N.id, .int .i64 N.nd, .int .i64 N.tm, .int .i64 N.vt, .int .i64 N.ro, .bool N.up, .slice eA N.l.length eC, .int .i64 N.cm, .int .i64 N.el, .int .i64 N.wt, .slice vA N.lv.length vC, .slice xA N.lx.length xC, .slice gA N.lg.length gC] w) (hlo : lo ≤ P) (he : w.ownsRow lo 68 2 (.slice eA N.l.length eC) N.l.length (cE N.l)) (hv : w.ownsRow lo 3 1 (.slice vA N.lv.length vC) N.lv.length (cI N.lv)) (hx : w.ownsRow lo 3 1 (.slice xA N.lx.length xC) N.lx.length (cI N.lx)) (hg : w.ownsRow lo 3 1 (.slice gA N.lg.length gC) N.lg.length (cI N.lg)) (d1 : ∀ j, (Value.slice vA N.lv.length vC).ownBlock = some j → (Value.slice xA N.lx.length xC).ownBlock ≠ some j ∧ (Value.slice gA N.lg.length gC).ownBlock ≠ some j) (d2 : ∀ j, (Value.slice xA N.lx.length xC).ownBlock = some j → (Value.slice gA N.lg.length gC).ownBlock ≠ some j) (p0 : (Value.slice eA N.l.length eC).ownBlock ≠ some P) (p1 : (Value.slice vA N.lv.length vC).ownBlock ≠ some P) (p2 : (Value.slice xA N.lx.length xC).ownBlock ≠ some P) (p3 : (Value.slice gA N.lg.length gC).ownBlock ≠ some P) :
    Calls Try.prog 25 #[.pointer (some ⟨P, 0, none⟩), .int .i64 (dr : Int)] w fun e w' => PtA w w' P lo e (tkP N dr).1 (tkP N dr).2 := by
  obtain ⟨nd', c', hnd, hcm, h5, h1, hcn, hn60, hlx, hlg, hJ, hlog, htm, hid, hel, hup⟩ := nf_parts hB
  obtain ⟨id, nd, tm, vt, ro, up, l, cm, el, wt, lv, lx, lg⟩ := N
  simp only at hnd hcm hU hcn hn60 hlx hlg hJ hlog htm hid hel hup hP he hv hx hg d1 d2 p0 p1 p2 p3
  subst hnd hcm hU
  have hlw : lo ≤ w.heap.size := Nat.le_trans hlo (Nat.le_of_lt hP.lt)
  have hcap : l.length ≤ eC := by
    rcases he.2 with ⟨h0, h2⟩ | ⟨gq, cq, cur, hvq, _, _, hnc, _⟩
    · rw [h2]; exact Nat.zero_le _
    · injection hvq with _ _ e3; rw [e3]; exact hnc
  by_cases hro : ro = 2
  · subst hro
    by_cases h2 : 2 ≤ mn (el + 1) 1000
    · have hT : tkP ⟨id, (nd' : Int), tm, vt, 2, true, l, (c' : Int), el, wt, lv, lx, lg⟩ dr = (⟨id, (nd' : Int), tm, vt, 2, true, l, (c' : Int), 0, wt, lv, lx, lg⟩, tls id tm (c' : Int) l (jOf lx) nd') := by
        unfold tkP; rw [if_pos rfl, if_pos h2]; simp only [Int.toNat_natCast]
      rw [hT]
      refine (itick_tell P lo id nd' tm vt c' el wt true eA eC l.length vA vC lv.length xA xC lx.length gA gC lg.length l rfl hn60 hcap h5 h1 hcn hel _ rfl dr h2 lx (jOf lx) hJ rfl hlx w hP (rowZ_at he) (rowZ_at hx) (offA_own he (fun j hj => ⟨fun e => p0 (by rw [← e]; exact hj), fun e => by cases e⟩)) (offA_own hx (fun j hj => ⟨fun e => p2 (by rw [← e]; exact hj), fun e => by cases e⟩))).mono ?_
      rintro e w' ⟨vm, LL, rfl, hP', hL, hM, ht⟩
      exact ⟨eA, eC, vA, vC, xA, xC, gA, gC, vm, LL, w.heap.size, rfl, hP', own_two he ht p0, own_two hv ht p1, own_two hx ht p2, own_two hg ht p3, d1, d2, (fun j h => by rcases h with h | h | h | h; exact (he.lt j h).2; exact (hv.lt j h).2; exact (hx.lt j h).2; exact (hg.lt j h).2), ⟨hP.lt, hlw⟩, hL, hM, below_two (Below.refl _ _) ht hlw hlo (fun j e => by cases e)⟩
    · have hT : tkP ⟨id, (nd' : Int), tm, vt, 2, true, l, (c' : Int), el, wt, lv, lx, lg⟩ dr = (⟨id, (nd' : Int), tm, vt, 2, true, l, (c' : Int), mn (el + 1) 1000, wt, lv, lx, lg⟩, []) := by
        unfold tkP; rw [if_pos rfl, if_neg h2]
      rw [hT]
      refine (itick_rest P lo id nd' tm vt c' el wt true eA eC l.length vA vC lv.length xA xC lx.length gA gC lg.length l rfl hn60 hcap h5 h1 hcn hel _ rfl dr h2 w hP).mono ?_
      rintro e w' ⟨rfl, hP', ht⟩
      exact ⟨eA, eC, vA, vC, xA, xC, gA, gC, .slice none 0 0, [], w.heap.size, rfl, hP', own_two he ht p0, own_two hv ht p1, own_two hx ht p2, own_two hg ht p3, d1, d2, (fun j h => by rcases h with h | h | h | h; exact (he.lt j h).2; exact (hv.lt j h).2; exact (hx.lt j h).2; exact (hg.lt j h).2), ⟨hP.lt, hlw⟩, rfl, MOwn.nil _ _, below_two (Below.refl _ _) ht hlw hlo (fun j e => by cases e)⟩
  · by_cases h2 : wt ≤ mn (el + 1) 1000
    · by_cases h3 : tm < 1000
      · by_cases h9 : nd' = 1
        · have hT : tkP ⟨id, (nd' : Int), tm, vt, ro, true, l, (c' : Int), el, wt, lv, lx, lg⟩ dr = (ldN (stN ⟨id, (nd' : Int), tm, vt, ro, true, l, (c' : Int), el, wt, lv, lx, lg⟩ dr), ldMs (stN ⟨id, (nd' : Int), tm, vt, ro, true, l, (c' : Int), el, wt, lv, lx, lg⟩ dr)) := by
            unfold tkP; rw [if_neg hro, if_pos ⟨h2, h3⟩, if_pos (by simp only; omega)]
          have hN : ldN (stN ⟨id, (nd' : Int), tm, vt, ro, true, l, (c' : Int), el, wt, lv, lx, lg⟩ dr) = ⟨id, (nd' : Int), tm + 1, id, 2, true, ldL (tm + 1) l, ((advN id (tm + 1) nd' (ldL (tm + 1) l) (List.replicate nd' (0 : Int)) c' (ldL (tm + 1) l).length : Nat) : Int), 0, 5 + (dr : Int) % 8, [id], List.replicate nd' ((l.length : Int) + 1), List.replicate nd' (0 : Int)⟩ := by
            unfold ldN stN; simp only [Int.toNat_natCast]
          have hM9 : ldMs (stN ⟨id, (nd' : Int), tm, vt, ro, true, l, (c' : Int), el, wt, lv, lx, lg⟩ dr) = tls id (tm + 1) ((advN id (tm + 1) nd' (ldL (tm + 1) l) (List.replicate nd' (0 : Int)) c' (ldL (tm + 1) l).length : Nat) : Int) (ldL (tm + 1) l) (fun _ => l.length) nd' := by
            unfold ldMs; rw [hN]; unfold stN; simp only [Int.toNat_natCast]
          rw [hT, hN, hM9]
          refine (itick_one P lo id nd' tm vt ro c' el wt true eA eC l.length vA vC lv.length xA xC lx.length gA gC lg.length l rfl hn60 hcap h5 h1 hcn hel _ rfl dr hdr htm (tm + 1) rfl h9 hro h2 h3 w hP hlo he p0).mono ?_
          rintro e w' ⟨ea, ec, gN, gM, gV, vm, LL, lom, rfl, g1, g2, g3, g4, g5, g6, g7, g8, g9, g10, g11⟩
          have r1 : (List.replicate nd' ((l.length : Int) + 1)).length = nd' := by simp
          have r2 : (List.replicate nd' (0 : Int)).length = nd' := by simp
          refine ⟨ea, ec, some ⟨gV, 0, none⟩, 1, some ⟨gN, 0, none⟩, nd', some ⟨gM, 0, none⟩, nd', vm, LL, lom, rfl, ?_, g2, own_low g3 hlw, ?_, ?_, ?_, ?_, ?_, ⟨g8.1, by omega⟩, g9, g10, below_two (Below.refl _ _) g11 hlw hlo (fun j e => (he.lt j e).1)⟩
          · simp only [r1, r2]; exact g1
          · simp only [r1]; exact own_low g4 hlw
          · simp only [r2]; exact own_low g5 hlw
          · intro j hj
            have e1 : gV = j := Option.some.inj hj
            exact ⟨fun e => g6.2.1 (e1.trans (Option.some.inj e).symm), fun e => g6.2.2 (e1.trans (Option.some.inj e).symm)⟩
          · intro j hj e
            exact g6.1 ((Option.some.inj hj).trans (Option.some.inj e).symm)
          · intro j hj
            rcases hj with hj | hj | hj | hj
            · exact g8.2.1 j hj
            · have e1 : gV = j := Option.some.inj hj; omega
            · have e1 : gN = j := Option.some.inj hj; omega
            · have e1 : gM = j := Option.some.inj hj; omega
        · have hT : tkP ⟨id, (nd' : Int), tm, vt, ro, true, l, (c' : Int), el, wt, lv, lx, lg⟩ dr = (⟨id, (nd' : Int), tm + 1, id, 1, true, l, (c' : Int), 0, 5 + (dr : Int) % 8, [id], lx, lg⟩, asks id (tm + 1) l.length (tAt l l.length) nd') := by
            unfold tkP; rw [if_neg hro, if_pos ⟨h2, h3⟩, if_neg (by simp only; omega)]; unfold stN; simp only [Int.toNat_natCast]
          rw [hT]
          refine (itick_many P lo id nd' tm vt ro c' el wt true eA eC l.length vA vC lv.length xA xC lx.length gA gC lg.length l rfl hn60 hcap h5 h1 hcn hel _ rfl dr hdr htm (tm + 1) rfl _ rfl (by omega) hro h2 h3 w hP hlo he p0).mono ?_
          rintro e w' ⟨gV, vm, LL, lom, rfl, f1, f2, f3, f4, f5, f6⟩
          have y := (f2.lt gV rfl).1
          refine ⟨eA, eC, some ⟨gV, 0, none⟩, 1, xA, xC, gA, gC, vm, LL, lom, rfl, f1, own_two he f6 p0, own_low f2 hlw, own_two hx f6 p2, own_two hg f6 p3, ?_, d2, ?_, ⟨f3.1, by omega⟩, f4, f5, below_two (Below.refl _ _) f6 hlw hlo (fun j e => by cases e)⟩
          · intro j hj
            have e1 : gV = j := Option.some.inj hj
            exact ⟨fun e => by have := (hx.lt j e).2; omega, fun e => by have := (hg.lt j e).2; omega⟩
          · intro j hj
            rcases hj with hj | hj | hj | hj
            · have := (he.lt j hj).2; omega
            · have e1 : gV = j := Option.some.inj hj; omega
            · have := (hx.lt j hj).2; omega
            · have := (hg.lt j hj).2; omega
      · have hT : tkP ⟨id, (nd' : Int), tm, vt, ro, true, l, (c' : Int), el, wt, lv, lx, lg⟩ dr = (⟨id, (nd' : Int), tm, vt, ro, true, l, (c' : Int), mn (el + 1) 1000, wt, lv, lx, lg⟩, []) := by
          unfold tkP; rw [if_neg hro, if_neg (fun h => h3 h.2)]
        rw [hT]
        refine (itick_late P lo id nd' tm vt ro c' el wt true eA eC l.length vA vC lv.length xA xC lx.length gA gC lg.length l rfl hn60 hcap h5 h1 hcn hel _ rfl dr hro h2 h3 w hP).mono ?_
        rintro e w' ⟨rfl, hP', ht⟩
        exact ⟨eA, eC, vA, vC, xA, xC, gA, gC, .slice none 0 0, [], w.heap.size, rfl, hP', own_two he ht p0, own_two hv ht p1, own_two hx ht p2, own_two hg ht p3, d1, d2, (fun j h => by rcases h with h | h | h | h; exact (he.lt j h).2; exact (hv.lt j h).2; exact (hx.lt j h).2; exact (hg.lt j h).2), ⟨hP.lt, hlw⟩, rfl, MOwn.nil _ _, below_two (Below.refl _ _) ht hlw hlo (fun j e => by cases e)⟩
    · have hT : tkP ⟨id, (nd' : Int), tm, vt, ro, true, l, (c' : Int), el, wt, lv, lx, lg⟩ dr = (⟨id, (nd' : Int), tm, vt, ro, true, l, (c' : Int), mn (el + 1) 1000, wt, lv, lx, lg⟩, []) := by
        unfold tkP; rw [if_neg hro, if_neg (fun h => h2 h.1)]
      rw [hT]
      refine (itick_wait P lo id nd' tm vt ro c' el wt true eA eC l.length vA vC lv.length xA xC lx.length gA gC lg.length l rfl hn60 hcap h5 h1 hcn hel _ rfl dr hro h2 w hP).mono ?_
      rintro e w' ⟨rfl, hP', ht⟩
      exact ⟨eA, eC, vA, vC, xA, xC, gA, gC, .slice none 0 0, [], w.heap.size, rfl, hP', own_two he ht p0, own_two hv ht p1, own_two hx ht p2, own_two hg ht p3, d1, d2, (fun j h => by rcases h with h | h | h | h; exact (he.lt j h).2; exact (hv.lt j h).2; exact (hx.lt j h).2; exact (hg.lt j h).2), ⟨hP.lt, hlw⟩, rfl, MOwn.nil _ _, below_two (Below.refl _ _) ht hlw hlo (fun j e => by cases e)⟩
theorem one_range {w : World} {lo lom : Nat} {e : TypeId} {z : Nat} {v : Value} {n : Nat} {xs : List Value} (h : w.ownsRow lo e z v n xs) (hl : ∀ j, v.ownBlock = some j → j < lom) (h1 : lo ≤ lom) (h2 : lom ≤ w.heap.size) : ∃ l r, HeldZ z w l r e v n xs ∧ lo ≤ l ∧ r ≤ lom ∧ ((v.ownBlock = none ∧ l = lo ∧ r = lo) ∨ ∃ j, v.ownBlock = some j ∧ l = j ∧ r = j + 1) := by
  cases hb : v.ownBlock with
  | none => exact ⟨lo, lo, ⟨h, (fun k hk => by rw [hb] at hk; cases hk), by omega⟩, Nat.le_refl _, h1, .inl ⟨rfl, rfl, rfl⟩⟩
  | some j =>
    have hj := hl j hb
    have hlo := (h.lt j hb).1
    exact ⟨j, j + 1, ⟨own_up h (fun k hk => by rw [hb] at hk; injection hk with hk; omega), (fun k hk => by rw [hb] at hk; injection hk with hk; omega), by omega⟩, hlo, by omega, .inr ⟨j, rfl, rfl, rfl⟩⟩
theorem apart_of {w : World} {lo lom : Nat} {E V X G : Value} {n nv nx ng : Nat} {xe xv xx xg : List Value} (he : w.ownsRow lo 68 2 E n xe) (hv : w.ownsRow lo 3 1 V nv xv) (hx : w.ownsRow lo 3 1 X nx xx) (hg : w.ownsRow lo 3 1 G ng xg) (d1 : ∀ j, V.ownBlock = some j → X.ownBlock ≠ some j ∧ G.ownBlock ≠ some j) (d2 : ∀ j, X.ownBlock = some j → G.ownBlock ≠ some j) (hl : ∀ j, (E.ownBlock = some j ∨ V.ownBlock = some j ∨ X.ownBlock = some j ∨ G.ownBlock = some j) → j < lom) (h1 : lo ≤ lom) (h2 : lom ≤ w.heap.size) :
    ∃ l0 h0 l1 h1 l2 h2 l3 h3, (HeldZ 2 w l0 h0 68 E n xe ∧ Held w l1 h1 3 V nv xv ∧ Held w l2 h2 3 X nx xx ∧ Held w l3 h3 3 G ng xg) ∧ Apart lo lom l0 h0 l1 h1 l2 h2 l3 h3 := by
  have ev := own_apartS he hv (by decide)
  have ex := own_apartS he hx (by decide)
  have eg := own_apartS he hg (by decide)
  obtain ⟨l0, r0, q0, a0, b0, c0⟩ := one_range he (fun j hj => hl j (.inl hj)) h1 h2
  obtain ⟨l1, r1, q1, a1, b1, c1⟩ := one_range hv (fun j hj => hl j (.inr (.inl hj))) h1 h2
  obtain ⟨l2, r2, q2, a2, b2, c2⟩ := one_range hx (fun j hj => hl j (.inr (.inr (.inl hj)))) h1 h2
  obtain ⟨l3, r3, q3, a3, b3, c3⟩ := one_range hg (fun j hj => hl j (.inr (.inr (.inr hj)))) h1 h2
  have pr : ∀ (U W : Value) (l r l' r' : Nat), (∀ j, U.ownBlock = some j → W.ownBlock ≠ some j) → lo ≤ l → lo ≤ l' → ((U.ownBlock = none ∧ l = lo ∧ r = lo) ∨ ∃ j, U.ownBlock = some j ∧ l = j ∧ r = j + 1) → ((W.ownBlock = none ∧ l' = lo ∧ r' = lo) ∨ ∃ j, W.ownBlock = some j ∧ l' = j ∧ r' = j + 1) → (r ≤ l' ∨ r' ≤ l) := by
    intro U W l r l' r' hd hl hl' h h'
    rcases h with ⟨_, e1, e2⟩ | ⟨j, e0, e1, e2⟩
    · left; omega
    · rcases h' with ⟨_, e3, e4⟩ | ⟨j', e5, e3, e4⟩
      · right; omega
      · have : j ≠ j' := fun e => hd j e0 (by rw [e]; exact e5)
        omega
  refine ⟨l0, r0, l1, r1, l2, r2, l3, r3, ⟨q0, q1, q2, q3⟩, ?_⟩
  exact ⟨pr E V l0 r0 l1 r1 ev a0 a1 c0 c1, pr E X l0 r0 l2 r2 ex a0 a2 c0 c2, pr E G l0 r0 l3 r3 eg a0 a3 c0 c3, pr V X l1 r1 l2 r2 (fun j h => (d1 j h).1) a1 a2 c1 c2, pr V G l1 r1 l3 r3 (fun j h => (d1 j h).2) a1 a3 c1 c3, pr X G l2 r2 l3 r3 d2 a2 a3 c2 c3, a0, b0, a1, b1, a2, b2, a3, b3⟩
end Go.Proofs.Ytjlajpnhcphngaa
