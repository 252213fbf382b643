/- stepOf: what the program answers at every state and every byte. -/
import Derived.Test.YtgggghgbgndmhaaDoorStepM
import Derived.Test.YtgggghgbgndmhaaDoorActL
namespace Go.Proofs.YtgggghgbgndmhaaDoor
open Go.ChangeShapes Go.WideShapes Go.ChangeAt Go.RowKit
/-- The table of steps lies in its variable. -/
def StepsIn (w : World) : Prop := ∀ k r, stepTab[k]? = some r → w.cell? ⟨4, k * 5, none⟩ = some (.int .i64 r.st) ∧ w.cell? ⟨4, k * 5 + 1, none⟩ = some (.int .i64 r.fi) ∧ w.cell? ⟨4, k * 5 + 2, none⟩ = some (.int .i64 r.la) ∧ w.cell? ⟨4, k * 5 + 3, none⟩ = some (.int .i64 r.dd) ∧ w.cell? ⟨4, k * 5 + 4, none⟩ = some (.int .i64 r.nx)
theorem StepsIn.pos {w : World} (h : StepsIn w) : 4 < w.heap.size := World.block_lt_of_cell? w _ (h 0 _ rfl).1
theorem StepsIn.below {w w' : World} {B : Nat} (h : StepsIn w) (hb : Below B w w') (h0 : 4 < B) : StepsIn w' := fun k r hr => by
  obtain ⟨h1, h2, h3, h4, h5⟩ := h k r hr
  exact ⟨(hb.cell (p := ⟨4, k * 5, none⟩) h0).trans h1, (hb.cell (p := ⟨4, k * 5 + 1, none⟩) h0).trans h2, (hb.cell (p := ⟨4, k * 5 + 2, none⟩) h0).trans h3, (hb.cell (p := ⟨4, k * 5 + 3, none⟩) h0).trans h4, (hb.cell (p := ⟨4, k * 5 + 4, none⟩) h0).trans h5⟩
theorem bcellB {B : Nat} {W w1 : World} (hb : Below B W w1) : (∀ b o, b < B → w1.cell? ⟨b, o, none⟩ = W.cell? ⟨b, o, none⟩) ∧ (∀ b o, b < B → w1.frozen? ⟨b, o, none⟩ = W.frozen? ⟨b, o, none⟩) :=
  ⟨fun b o h => hb.cell (p := ⟨b, o, none⟩) h, fun b o h => hb.frozen (p := ⟨b, o, none⟩) h⟩

set_option maxHeartbeats 400000 in
set_option maxRecDepth 100000 in
theorem istep (s b r0 r1 r2 r3 r4 : Int) (hr : stepAt s b = ⟨r0, r1, r2, r3, r4⟩) (w : World) (ht : StepsIn w) :
    Calls Tryd.prog 39 #[.int .i64 s, .int .i64 b] w fun e w' => e = .returned (.agg #[.int .i64 r0, .int .i64 r1, .int .i64 r2, .int .i64 r3, .int .i64 r4]) ∧ Below w.heap.size w w' := by
  have HR := hide hr
  have HP := hide ht.pos
  have HT := hide ht
  clear hr ht
  go_enter Tryd.func39, Tryd.ntmps39
  go_wp2_with fail
  go_loopw [7] (fun i wr => ∃ k : Nat, k ≤ 33 ∧ i = .int .i64 k ∧ Hid (stepAt s b = stepFrom s b (stepTab.drop k)) ∧ Hid (Below (w.heap.size + 1) (w.alloc (.cells #[.int .i64 0, .int .i64 0, .int .i64 0, .int .i64 0, .int .i64 0] 68)) wr)) (fun i _ => 33 - (intOf i).toNat)
  case atStart => exact ⟨0, by omega, rfl, rfl, Below.refl _ _⟩
  case round =>
    obtain ⟨k, hk, rfl, HF, HB⟩ := hrel
    have hc := fun o => (bcellB (unhide HB)).1 w.heap.size o (Nat.lt_succ_self _)
    have hf := fun o => (bcellB (unhide HB)).2 w.heap.size o (Nat.lt_succ_self _)
    have hz : w.heap.size < wr.heap.size := by have := (unhide HB).size; simp at this; omega
    have HW : Below w.heap.size w wr := ((Below.refl _ _).alloc (Nat.le_refl _) _).trans ((unhide HB).mono (Nat.le_succ _))
    by_cases hlt : k < 33
    · obtain ⟨⟨p0, p1, p2, p3, p4⟩, hr, hd⟩ := drop_tab k hlt
      obtain ⟨h1, h2, h3, h4, h5⟩ := ((unhide HT).below ((Below.refl _ _).alloc (Nat.le_refl _) _) (unhide HP)).below (unhide HB) (Nat.lt_succ_of_lt (unhide HP)) k _ hr
      have HD := hide hd
      have k1 : (k : Int) < 33 := by omega
      clear hr hd
      dsimp only at h1 h2 h3 h4 h5
      by_cases hit : p0 = s ∧ p1 ≤ b ∧ b ≤ p2
      · obtain ⟨rfl, hp1, hp2⟩ := hit
        have HE := (unhide HR).symm.trans (unhide HF)
        rw [unhide HD, from_hit (by simp [stepHit, hp1, hp2])] at HE
        injection HE with e0 e1 e2 e3 e4
        subst e0 e1 e2 e3 e4
        clear HT HR HF HD
        have hne : ¬ wr.heap.size = w.heap.size := by omega
        have hne2 : ¬ w.heap.size = wr.heap.size := by omega
        go_wp2_with fail
        refine bodyPost_ret (v := .agg #[.int .i64 r0, .int .i64 r1, .int .i64 r2, .int .i64 r3, .int .i64 r4]) (by simp [results, Tryd.results39, go_sem, hc, hz]) rfl ⟨rfl, ?_⟩
        exact (((((HW.setCell (Nat.le_refl _) _).setCell (Nat.le_refl _) _).setCell (Nat.le_refl _) _).setCell (Nat.le_refl _) _).setCell (Nat.le_refl _) _).alloc (by simp; omega) _
      · have HN : Hid (stepAt s b = stepFrom s b (stepTab.drop (k + 1))) := by
          show _ = _
          rw [unhide HF, unhide HD, from_miss]
          simp [stepHit]; intro h1 h2; omega
        have RB : ∀ o, Hid (Below (w.heap.size + 1) (w.alloc (.cells #[.int .i64 0, .int .i64 0, .int .i64 0, .int .i64 0, .int .i64 0] 68)) (wr.alloc o)) := fun o => (unhide HB).alloc hz o
        clear HT HR HF HD hc hf
        by_cases hs : p0 = s
        · subst hs
          have hit2 : ¬ (p1 ≤ b ∧ b ≤ p2) := fun h => hit ⟨rfl, h⟩
          clear hit
          by_cases hp1 : p1 ≤ b
          · have hp2 : ¬ b ≤ p2 := fun h => hit2 ⟨hp1, h⟩
            clear hit2
            go_wp2_with fail
            go_roundw
            case rel => exact ⟨k + 1, by omega, by go_num, HN, RB _⟩
            case measure => simp [intOf]; omega
          · clear hit2
            go_wp2_with fail
            go_roundw
            case rel => exact ⟨k + 1, by omega, by go_num, HN, RB _⟩
            case measure => simp [intOf]; omega
        · clear hit
          go_wp2_with fail
          go_roundw
          case rel => exact ⟨k + 1, by omega, by go_num, HN, RB _⟩
          case measure => simp [intOf]; omega
    · have HE := (unhide HR).symm.trans (unhide HF)
      rw [List.drop_of_length_le (by rw [stepTab_len]; omega)] at HE
      injection HE with e0 e1 e2 e3 e4
      subst e0 e1 e2 e3 e4
      clear HT HR HF
      go_wp2_with fail
      refine bodyPost_ret (v := .agg #[.int .i64 0, .int .i64 0, .int .i64 0, .int .i64 0, .int .i64 0]) (by simp [results, Tryd.results39, go_sem, hc]) rfl ⟨rfl, ?_⟩
      exact ((((HW.setCell (Nat.le_refl _) _).setCell (Nat.le_refl _) _).setCell (Nat.le_refl _) _).setCell (Nat.le_refl _) _).setCell (Nat.le_refl _) _
end Go.Proofs.YtgggghgbgndmhaaDoor
