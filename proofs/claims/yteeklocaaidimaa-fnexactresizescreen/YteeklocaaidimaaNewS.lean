/- NewScreen: what the specification answers. -/
import Derived.Test.YteeklocaaidimaaNewI
import Derived.Test.YteeklocaaidimaaInS
import Derived.Test.YteeklocaaidimaaSizeT
namespace Go.Proofs.Yteeklocaaidimaa
open Go.ChangeShapes Go.WideShapes Go.ChangeAt Go.RowKit
theorem lit_emptyP (w : World) (base : Nat) (t : TypeId) (hb : base ≤ w.heap.size) : (w.alloc (.cells #[] t)).ownsRow base t 2 (.slice (some ⟨w.heap.size, 0, none⟩) 0 0) 0 (cP []) := by
  have := World.ownsRow_lit (e := t) (base := base) (size := 2) w #[] 0 hb (by unfold maxLen; omega) (by simp)
  simpa [cP] using this
theorem lit_atS (w : World) (s base : Nat) (t : TypeId) (hs : w.heap.size = s) (hb : base ≤ s) : (w.alloc (.cells #[] t)).ownsRow base t 1 (.slice (some ⟨s, 0, none⟩) 0 0) 0 (cS []) := by
  subst hs
  have := World.ownsRow_lit (e := t) (base := base) (size := 1) w #[] 0 hb (by unfold maxLen; omega) (by simp)
  simpa [cS] using this
theorem own_appP {w : World} {base : Nat} {e : TypeId} {v : Value} {n : Nat} {c : Int × Int} (h : w.ownsRow base e 2 v (n + 1) (cP (List.replicate n c) ++ [.int .i64 c.1, .int .i64 c.2])) : w.ownsRow base e 2 v (n + 1) (cP (List.replicate (n + 1) c)) := by
  rw [List.replicate_succ', cP_app]; exact h
set_option maxHeartbeats 400000 in
set_option maxRecDepth 100000 in
theorem sblank (n : Nat) (hn : n ≤ 1000) (w : World) : Calls Try.prog 43 #[.int .i64 (n : Int)] w fun e w' => ∃ v, e = .returned v ∧ w'.ownsRow w.heap.size 51 2 v n (cP (List.replicate n (32, 0))) ∧ Below w.heap.size w w' := by
  obtain ⟨i0, hi, hz0, hz1, hz2⟩ := info_parts Try.infL51
  go_enter Try.func43, Try.ntmps43
  go_wp2_with fail
  go_loopw [3, 4] (fun v i wr => ∃ j : Nat, j ≤ n ∧ i = .int .i64 j ∧ Hid (wr.ownsRow w.heap.size 51 2 v j (cP (List.replicate j (32, 0)))) ∧ Hid (Below w.heap.size w wr)) (fun _ i _ => n - (intOf i).toNat)
  case atStart => exact ⟨0, by omega, rfl, lit_emptyP _ _ _ (Nat.le_refl _), (Below.refl _ _).alloc (Nat.le_refl _) _⟩
  case round =>
    obtain ⟨j, hj, rfl, HO, HB⟩ := hrel
    have hz := (unhide HB).size
    by_cases hlt : j < n
    · have hlt' : (j : Int) < (n : Int) := by omega
      have hown := unhide HO
      go_wp2_with (at_builtin; refine wpList_append_lies _ rfl (.tmp 11) (.tmp 13) 27 rfl w.heap.size 51 i0 (.agg #[.int .i64 0, .int .i64 0]) 2 16 Try.underlying27 hi hz0 hz1 hz2 rfl (by decide) _ _ _ rfl (hown.alloc _) ⟨wr.heap.size, 0, none⟩ 1 1 [.int .i64 32, .int .i64 0] rfl rfl (by exact news_new wr [.int .i64 32, .int .i64 0] 51) (by intro u hu; simp at hu; rcases hu with rfl | rfl <;> rfl) (by decide) (by unfold maxLen; omega) (by omega) (by simp; omega) _ rfl ?_; intro g2 c2 w2 hown2 hgrow2 hat2 hlt2; have HB2 := hide (below_app (unhide HB) hz hown (Nat.le_refl _) hgrow2); have HO2 := hide (own_appP (c := (32, 0)) hown2); clear hown2 hgrow2 hat2 hlt2)
      go_roundw
      case rel => exact ⟨j + 1, by omega, by go_num, HO2, HB2⟩
      case measure => simp [intOf]; omega
    · have ej : j = n := by omega
      subst ej
      go_wp2_with fail
      go_ret
      exact ⟨_, rfl, unhide HO, unhide HB⟩
set_option maxHeartbeats 1000000 in
set_option maxRecDepth 100000 in
theorem snew (W H p : Nat) (hW : 2 ≤ W ∧ W ≤ 24) (hH : 2 ≤ H ∧ H ≤ 10) (hp : p = W * H) (w : World) :
    Calls Try.prog 30 #[.int .i64 (W : Int), .int .i64 (H : Int)] w fun e w' => ∃ vc vh, e = .returned (.agg #[.int .i64 (W : Int), .int .i64 (H : Int), .int .i64 0, .int .i64 0, .int .i64 0, .int .i64 0, .int .i64 ((H : Int) - 1), .int .i64 0, .int .i64 0, .string ⟨#[]⟩, vc, vh]) ∧
      w'.ownsRow w.heap.size 51 2 vc p (cP (List.replicate p (32, 0))) ∧ w'.ownsRow w.heap.size 9 1 vh 0 (cS []) ∧ Below w.heap.size w w' := by
  have p1 : (W : Int) * (H : Int) = (p : Int) := by rw [hp]; simp
  have p2 : p ≤ 240 := by rw [hp]; exact Nat.mul_le_mul hW.2 hH.2
  clear hp
  go_enter Try.func30, Try.ntmps30
  go_wp2_with (go_at_call 43; refine (sblank p (by omega) _).mono ?_; rintro e w1 ⟨v, rfl, ho, hb⟩; obtain ⟨a, cap, rfl, -⟩ := ownZ_rowV ho; obtain ⟨hc, hf⟩ := bcell hb; have z2 : ∀ o, w1.cell? ⟨w.heap.size, o, none⟩ = (#[.int .i64 0, .int .i64 0, .int .i64 0, .int .i64 0, .int .i64 0, .int .i64 0, .int .i64 0, .int .i64 0, .int .i64 0, .string ⟨#[]⟩, .slice none 0 0, .slice none 0 0] : Array Value)[o]? := (fun o => by rw [hc _ _ (by simp)]; exact World.cell?_alloc_mark w _ _ _ o); have f2 : ∀ o, w1.frozen? ⟨w.heap.size, o, none⟩ = false := (fun o => by rw [hf _ _ (by simp)]; simp [go_sem]); have HO := hide ho; have HB := hide hb; have hz : w.heap.size < w1.heap.size := (by have := hb.size; simp at this; omega); clear ho hb hc hf)
  refine bodyPost_ret (v := .agg #[.int .i64 (W : Int), .int .i64 (H : Int), .int .i64 0, .int .i64 0, .int .i64 0, .int .i64 0, .int .i64 ((H : Int) - 1), .int .i64 0, .int .i64 0, .string ⟨#[]⟩, .slice a p cap, .slice (some ⟨w1.heap.size, 0, none⟩) 0 0]) (by simp [results, Try.results30, go_sem, z2, hz]) rfl ⟨_, _, rfl, ?_, ?_, ?_⟩
  · have hl1 : w.heap.size < w.heap.size + 1 := by omega
    refine World.ownsRow.alloc ?_ _
    refine Go.Joins.ownsRow_le (base := w.heap.size + 1) ?_ (by omega)
    iterate 12 refine ownsRow_setCell_below ?_ (by exact hl1) _
    have o := unhide HO
    simp at o
    exact o
  · exact lit_atS _ _ _ _ (by simp) (by omega)
  · refine Below.alloc ?_ (by simp; omega) _
    iterate 12 refine Below.setCell ?_ (by exact Nat.le_refl _) _
    exact ((Below.refl w.heap.size w).alloc (Nat.le_refl _) _).trans ((unhide HB).mono (by simp))
end Go.Proofs.Yteeklocaaidimaa
