/- NewScreen: what the program answers. -/
import Derived.Test.YteeklocaaidimaaScrL
import Derived.Test.YteeklocaaidimaaSizeB
namespace Go.Proofs.Yteeklocaaidimaa
open Go.ChangeShapes Go.WideShapes Go.ChangeAt Go.RowKit
set_option maxHeartbeats 1000000 in
set_option maxRecDepth 100000 in
theorem iblank (B g n cap s d lo : Nat) (l : List (Int × Int)) (el : l.length = n) (hn : n ≤ 1048576) (hc : n ≤ cap) (hd : s + d ≤ n) (hd0 : 0 < d) (w : World) (hcell : w.cell? ⟨B, 10, none⟩ = some (.slice (some ⟨g, 0, none⟩) n cap)) (ho : w.ownsRow lo 51 2 (.slice (some ⟨g, 0, none⟩) n cap) n (cP l)) :
    Calls Try.prog 38 #[.pointer (some ⟨B, 0, none⟩), .int .i64 (s : Int), .int .i64 ((s + d : Nat) : Int)] w fun e w' => e = .returned (.tuple #[]) ∧ w'.ownsRow lo 51 2 (.slice (some ⟨g, 0, none⟩) n cap) n (cP (blk l s d)) ∧ w.grownBy w' (some g) := by
  obtain ⟨e, he⟩ : ∃ e : Nat, e = s + d := ⟨_, rfl⟩
  rw [← he]
  have HO := hide ho
  have HL := hide el
  have HE := hide he
  have h1 : (e : Int) ≤ (n : Int) := by omega
  have h2 : (s : Int) ≤ (e : Int) := by omega
  have h3 : (n : Int) ≤ (cap : Int) := by omega
  have h4 : (e : Int) ≤ (cap : Int) := by omega
  have h5 : e ≤ cap := by omega
  have h6 : s ≤ e := by omega
  have h7 : ¬ e = s := by omega
  have h8 : e - s = d := by omega
  clear ho el he
  go_enter Try.func38, Try.ntmps38
  go_wp2_with fail
  go_loopw [18] (fun i wr => ∃ j : Nat, j ≤ d ∧ i = .int .i64 j ∧ Hid (wr.ownsRow lo 51 2 (.slice (some ⟨g, 0, none⟩) n cap) n (cP (blk l s j))) ∧ Hid (w.grownBy wr (some g))) (fun i _ => d - (intOf i).toNat)
  case atStart => exact ⟨0, by omega, rfl, HO, grownBy_refl _ _⟩
  case round =>
    clear HO hcell
    obtain ⟨j, hj, rfl, HO, HG⟩ := hrel
    by_cases hlt : j < d
    · have hown := unhide HO
      have hk : s + j < (blk l s j).length := by rw [blk_len, unhide HL]; omega
      obtain ⟨c0, c1⟩ := cP_at (blk l s j) (s + j) hk
      have x0 := (hown.cellAt ((s + j) * 2) (by omega)).trans c0
      have x1 := (hown.cellAt ((s + j) * 2 + 1) (by omega)).trans c1
      have f0 := hown.frozenAt ((s + j) * 2)
      have f1 := hown.frozenAt ((s + j) * 2 + 1)
      have R := ((hown.stored ((s + j) * 2) (.int .i64 32)).1.stored ((s + j) * 2 + 1) (.int .i64 0)).1
      have RG := World.grownBy.trans' (World.grownBy.trans' (unhide HG) (stored_grown (g := g) (j := (s + j) * 2) (u := .int .i64 32))) (stored_grown (g := g) (j := (s + j) * 2 + 1) (u := .int .i64 0))
      rw [cP_set] at R
      rw [show (s + j) * 2 = s * 2 + j * 2 from by omega] at x0 x1 f0 f1 R RG
      have HR := hide R
      have HRG := hide RG
      have hlt' : (j : Int) < (d : Int) := by omega
      clear R RG hown c0 c1 HO HG
      go_wp2_with fail
      go_roundw
      case rel => exact ⟨j + 1, by omega, by go_num, HR, HRG⟩
      case measure => simp [intOf]; omega
    · have ej : j = d := by omega
      subst ej
      go_wp2_with fail
      go_end0
      exact ⟨rfl, unhide HO, unhide HG⟩
set_option maxHeartbeats 1000000 in
set_option maxRecDepth 100000 in
theorem iblankscr (W H p : Nat) (hW : 2 ≤ W ∧ W ≤ 24) (hH : 2 ≤ H ∧ H ≤ 10) (hp : p = W * H) (w : World) :
    Calls Try.prog 20 #[.int .i64 (W : Int), .int .i64 (H : Int)] w fun e w' => ∃ g, e = .returned (.agg #[.int .i64 (W : Int), .int .i64 (H : Int), .int .i64 0, .int .i64 0, .int .i64 0, .int .i64 0, .int .i64 ((H : Int) - 1), .int .i64 0, .int .i64 0, .string ⟨#[]⟩, .slice (some ⟨g, 0, none⟩) p p, .slice none 0 0]) ∧
      w'.ownsRow w.heap.size 51 2 (.slice (some ⟨g, 0, none⟩) p p) p (cP (List.replicate p (32, 0))) ∧ Below w.heap.size w w' := by
  obtain ⟨i0, hi, hz0, hz1, hz2⟩ := info_parts Try.infL51
  have p1 : (W : Int) * (H : Int) = (p : Int) := by rw [hp]; simp
  have p2 : p ≤ 240 := by rw [hp]; exact Nat.mul_le_mul hW.2 hH.2
  have p3 : 0 < p := by rw [hp]; exact Nat.mul_pos (by omega) (by omega)
  clear hp
  go_enter Try.func20, Try.ntmps20
  go_wp2_with (at_make; refine wpList_make_full _ rfl _ _ 27 rfl w.heap.size 51 i0 (.agg #[.int .i64 0, .int .i64 0]) 2 Try.underlying27 hi hz0 hz1 .i64 .i64 _ _ p rfl rfl rfl rfl (by rw [hz2]; omega) (by unfold maxLen; omega) (by simp) ?_; intro w1 hown hgrow)
  have hlt := hown.lt _ rfl
  simp at hown hlt
  rw [show (Value.agg #[.int .i64 0, .int .i64 0]).cells = #[.int .i64 0, .int .i64 0] from rfl, made_two, ← cP_rep] at hown
  have hb1 : Below w.heap.size w w1 := ((Below.refl w.heap.size w).alloc (Nat.le_refl _) _).grown hgrow (by simp) (fun k hk => by cases hk)
  have z0 : ∀ o, w1.cell? ⟨w.heap.size, o, none⟩ = (#[.int .i64 0, .int .i64 0, .int .i64 0, .int .i64 0, .int .i64 0, .int .i64 0, .int .i64 0, .int .i64 0, .int .i64 0, .string ⟨#[]⟩, .slice none 0 0, .slice none 0 0] : Array Value)[o]? := fun o => by
    rw [World.cell?_of_block (hgrow.block w.heap.size (by simp) (by simp))]; exact World.cell?_alloc_mark w _ _ _ o
  have f0 : ∀ o, w1.frozen? ⟨w.heap.size, o, none⟩ = false := fun o => by
    rw [World.frozen?_of_block (hgrow.block w.heap.size (by simp) (by simp))]; simp [go_sem]
  have T := iblank w1.heap.size (w.heap.size + 1) p p 0 p w.heap.size (List.replicate p (0, 0)) List.length_replicate (by omega) (Nat.le_refl _) (by omega) p3 (w1.alloc (.cells #[.int .i64 (W : Int), .int .i64 (H : Int), .int .i64 0, .int .i64 0, .int .i64 0, .int .i64 0, .int .i64 ((H : Int) - 1), .int .i64 0, .int .i64 0, .string ⟨#[]⟩, .slice (some ⟨w.heap.size + 1, 0, none⟩) p p, .slice none 0 0] 29)) (World.cell?_alloc_mark w1 _ _ _ 10) (hown.alloc _)
  rw [Nat.zero_add, blk_rep] at T
  change Calls _ _ #[_, .int .i64 0, _] _ _ at T
  have HB1 := hide (hb1.alloc hb1.size (.cells #[.int .i64 (W : Int), .int .i64 (H : Int), .int .i64 0, .int .i64 0, .int .i64 0, .int .i64 0, .int .i64 ((H : Int) - 1), .int .i64 0, .int .i64 0, .string ⟨#[]⟩, .slice (some ⟨w.heap.size + 1, 0, none⟩) p p, .slice none 0 0] 29))
  clear hown hgrow hb1
  refine T.mono ?_
  clear T
  rintro e w3 ⟨rfl, ho3, hg3⟩
  have s3 : ∀ o, w3.cell? ⟨w1.heap.size, o, none⟩ = (#[.int .i64 (W : Int), .int .i64 (H : Int), .int .i64 0, .int .i64 0, .int .i64 0, .int .i64 0, .int .i64 ((H : Int) - 1), .int .i64 0, .int .i64 0, .string ⟨#[]⟩, .slice (some ⟨w.heap.size + 1, 0, none⟩) p p, .slice none 0 0] : Array Value)[o]? := fun o => by
    rw [World.cell?_of_block (hg3.block w1.heap.size (by simp) (by simp; omega))]; exact World.cell?_alloc_mark w1 _ _ _ o
  have z3 : ∀ o, w3.cell? ⟨w.heap.size, o, none⟩ = (#[.int .i64 0, .int .i64 0, .int .i64 0, .int .i64 0, .int .i64 0, .int .i64 0, .int .i64 0, .int .i64 0, .int .i64 0, .string ⟨#[]⟩, .slice none 0 0, .slice none 0 0] : Array Value)[o]? := fun o => by
    rw [World.cell?_of_block (hg3.block w.heap.size (by simp; omega) (by simp)), World.cell?_alloc_past _ _ _ (by omega)]; exact z0 o
  have f3 : ∀ o, w3.frozen? ⟨w.heap.size, o, none⟩ = false := fun o => by
    rw [World.frozen?_of_block (hg3.block w.heap.size (by simp; omega) (by simp)), World.frozen?_of_block (w := w1) (Below.heap_alloc w1 _ w.heap.size (by omega))]; exact f0 o
  have HB3 := hide ((unhide HB1).grown hg3 (unhide HB1).size (fun k hk => by simp at hk; omega))
  have HO3 := hide (show w3.ownsRow (w.heap.size + 1) 51 2 (.slice (some ⟨w.heap.size + 1, 0, none⟩) p p) p (cP (List.replicate p (32, 0))) from by
    obtain ⟨h1, h2⟩ := ho3
    refine ⟨h1, ?_⟩
    rcases h2 with ⟨h2, _⟩ | ⟨g, cap, cur, h2, h3, h4⟩
    · cases h2
    · cases h2; exact .inr ⟨_, _, cur, rfl, Nat.le_refl _, h4⟩)
  clear z0 f0 HB1 ho3 hg3
  go_wp2_with fail
  refine bodyPost_ret (v := .agg #[.int .i64 (W : Int), .int .i64 (H : Int), .int .i64 0, .int .i64 0, .int .i64 0, .int .i64 0, .int .i64 ((H : Int) - 1), .int .i64 0, .int .i64 0, .string ⟨#[]⟩, .slice (some ⟨w.heap.size + 1, 0, none⟩) p p, .slice none 0 0]) (by simp [results, Try.results20, go_sem, z3]) rfl ⟨w.heap.size + 1, rfl, ?_, ?_⟩
  · have hl1 : w.heap.size < w.heap.size + 1 := by omega
    refine Go.Joins.ownsRow_le (base := w.heap.size + 1) ?_ (by omega)
    repeat refine ownsRow_setCell_below ?_ (by exact hl1) _
    exact unhide HO3
  · repeat refine Below.setCell ?_ (by exact Nat.le_refl _) _
    exact unhide HB3
end Go.Proofs.Yteeklocaaidimaa
