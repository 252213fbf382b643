/- RowCells: what the program answers. -/
import Derived.Test.YtokfmcajikmhmaaRowP
import Derived.Test.YtokfmcajikmhmaaAppG
namespace Go.Proofs.Ytokfmcajikmhmaa
open Go.ChangeShapes Go.WideShapes Go.ChangeAt Go.RowKit
set_option linter.unusedVariables false
/-- The bytes of cells: rune (three), look (one). -/
def rowB (l : List (Int × Int)) : List UInt8 := l.flatMap fun c => be c.1.toNat 3 ++ be c.2.toNat 1
theorem rowB_snoc (l : List (Int × Int)) (c : Int × Int) : rowB (l ++ [c]) = (rowB l ++ be c.1.toNat 3) ++ be c.2.toNat 1 := by simp [rowB]
theorem rowB_len (l : List (Int × Int)) : (rowB l).length = l.length * 4 := by
  induction l with
  | nil => rfl
  | cons c l ih => simp only [rowB, List.flatMap_cons, List.length_append, be_len] at ih ⊢; rw [ih, List.length_cons]; omega
set_option maxHeartbeats 2000000 in
set_option maxRecDepth 100000 in
theorem irowcells (B W y f b off n cap : Nat) (l : List (Int × Int)) (el : l.length = n) (hf : f = y * W) (hW : 0 < W ∧ W ≤ 24) (hn : f + W ≤ n) (hc : n ≤ cap) (hn2 : n ≤ 1048576) (hcell : ∀ q (h : q < l.length), cellB l[q] = true) (w : World) (hB : B < w.heap.size) (c0 : w.cell? ⟨B, 0, none⟩ = some (.int .i64 (W : Int))) (c10 : w.cell? ⟨B, 10, none⟩ = some (.slice (some ⟨b, off, none⟩) n cap))
    (hb : b < w.heap.size) (hr : ∀ i u, (cP l)[i]? = some u → w.cell? ⟨b, off + i, none⟩ = some u) :
    Calls Try.prog 22 #[.pointer (some ⟨B, 0, none⟩), .int .i64 (y : Int)] w fun e w' => e = .returned (.string ⟨(rowB ((l.drop f).take W)).toArray⟩) ∧ Below w.heap.size w w' := by
  obtain ⟨i0, hi, hz0, hz1, hz2⟩ := info_parts Try.infN5
  have HT : Hid (∀ w2 : World, w2.cell? ⟨B, 0, none⟩ = some (.int .i64 (W : Int)) → w2.cell? ⟨B, 10, none⟩ = some (.slice (some ⟨b, off, none⟩) n cap) → Calls Try.prog 43 #[.pointer (some ⟨B, 0, none⟩), .int .i64 (y : Int)] w2 fun e w' => e = .returned (.slice (some ⟨b, off + f * 2, none⟩) W W) ∧ Below w2.heap.size w2 w') := fun w2 a1 a2 => irow B W y f (f + W) b off n cap hf rfl hW hn hc hn2 w2 a1 a2
  have HR := hide hr
  have HC := hide hcell
  have HL := hide el
  obtain ⟨p, hp⟩ : ∃ p, p = W * 4 := ⟨_, rfl⟩
  have p1 : (W : Int) * 4 = (p : Int) := by rw [hp]; push_cast; rfl
  have p2 : p ≤ 96 := by omega
  clear hr hcell hf hp
  go_enter Try.func22, Try.ntmps22
  go_wp2_with (first | (at_make; refine wpList_make_own _ rfl _ _ 27 rfl w.heap.size 5 i0 (.int .u8 0) 1 Try.underlying27 hi hz0 hz1 .i64 .i64 _ p rfl rfl rfl (by rw [hz2]; omega) (by unfold maxLen; omega) (Nat.le_refl _) ?_; intro w1 hown hgrow; have hb1 := (Below.refl w.heap.size w).grown hgrow (Nat.le_refl _) (fun k hk => by cases hk); have d0 := (hb1.cell (p := ⟨B, 0, none⟩) hB).trans c0; have d10 := (hb1.cell (p := ⟨B, 10, none⟩) hB).trans c10; have HB1 := hide hb1; have HO1 := hide hown; clear hb1 hgrow hown) | (go_at_call 43; refine (unhide HT _ d0 d10).mono ?_; rintro e w2 ⟨rfl, hb2⟩; have HB2 := hide ((unhide HB1).trans (hb2.mono (unhide HB1).size)); have HO2 := hide ((heldZ_of (unhide HO1)).below hb2 (Nat.le_refl _)).own; clear hb2))
  clear d0 d10 c0 c10 HT
  go_loopw [5, 18] (fun v i wr => ∃ k : Nat, k ≤ W ∧ i = .int .i64 k ∧ Hid (wr.ownsRow w.heap.size 5 1 v (rowB ((l.drop f).take k)).length (B8 (rowB ((l.drop f).take k)))) ∧ Hid (Below w.heap.size w wr)) (fun _ i _ => W - (intOf i).toNat)
  case atStart => exact ⟨0, by omega, rfl, by simpa [rowB, B8] using HO2, HB2⟩
  case round =>
    clear HO1 HB1 HO2 HB2
    obtain ⟨k, hk, rfl, HO, HB⟩ := hrel
    by_cases hlt : k < W
    · have hq : f + k < l.length := by rw [unhide HL]; omega
      obtain ⟨x0, x1⟩ := row_two (unhide HR) (f + k) hq
      have hcb := unhide HC (f + k) hq
      obtain ⟨x, z, ex, ez, hx, hz9⟩ : ∃ x z : Nat, l[f + k].1 = (x : Int) ∧ l[f + k].2 = (z : Int) ∧ x ≤ 1114111 ∧ z ≤ 127 := by
        unfold cellB at hcb
        rw [Bool.and_eq_true] at hcb
        have h1 : 32 ≤ l[f + k].1 ∧ l[f + k].1 ≤ 1114111 ∧ l[f + k].1 ≠ 127 ∧ ¬ (55296 ≤ l[f + k].1 ∧ l[f + k].1 ≤ 57343) := of_decide_eq_true hcb.1
        have h2 : 0 ≤ l[f + k].2 ∧ l[f + k].2 ≤ 127 := of_decide_eq_true hcb.2
        exact ⟨l[f + k].1.toNat, l[f + k].2.toNat, by omega, by omega, by omega, by omega⟩
      obtain ⟨R, hR⟩ : ∃ R, R = rowB ((l.drop f).take k) := ⟨_, rfl⟩
      have HN : Hid (rowB ((l.drop f).take (k + 1)) = (R ++ be x 3) ++ be z 1) := by
        show _ = _
        rw [List.take_succ_eq_append_getElem (by rw [List.length_drop]; omega), rowB_snoc, List.getElem_drop, hR, ex, ez, Int.toNat_natCast, Int.toNat_natCast]
      have hRl : R.length ≤ 96 := by rw [hR, rowB_len, List.length_take]; omega
      rw [ex] at x0
      rw [ez] at x1
      have hy0 : wr.cell? ⟨b, off + f * 2 + k * 2, none⟩ = some (.int .i64 (x : Int)) := by
        rw [show off + f * 2 + k * 2 = off + (f + k) * 2 from by omega]; exact ((unhide HB).cell (p := ⟨b, off + (f + k) * 2, none⟩) hb).trans x0
      have hy1 : wr.cell? ⟨b, off + f * 2 + k * 2 + 1, none⟩ = some (.int .i64 (z : Int)) := by
        rw [show off + f * 2 + k * 2 + 1 = off + (f + k) * 2 + 1 from by omega]; exact ((unhide HB).cell (p := ⟨b, off + (f + k) * 2 + 1, none⟩) hb).trans x1
      rw [← hR] at HO
      have hlt' : (k : Int) < (W : Int) := by omega
      have hzz := (unhide HB).size
      have hown := unhide HO
      have hne : ∀ j, u5.ownBlock = some j → j < wr.heap.size := fun j hj => (hown.lt j hj).2
      have HBW := hide ((unhide HB).alloc hzz (.cells #[.int .i64 (x : Int), .int .i64 (z : Int)] 56))
      clear x0 x1 hcb ex ez hR hq
      go_wp2_with fail
      go_region_held3 (fun w' => w'.cell? ⟨wr.heap.size, 0, none⟩ = some (.int .i64 (x : Int)) ∧ w'.cell? ⟨wr.heap.size, 1, none⟩ = some (.int .i64 (z : Int))) (first | exact K3 | exact K2 | go_keep) (first | (have hq := HO2; go_at_call 41; refine (iappendG w.heap.size _ (R ++ be x 3) z 1 (by omega) (by decide) (by rw [List.length_append, be_len]; omega) _ (unhide HO2) hz2').mono ?_; rintro e w3 ⟨v3, rfl, ho3, hb3, hg3, hk3⟩; have K3 : w3.cell? ⟨wr.heap.size, 0, none⟩ = some (.int .i64 (x : Int)) ∧ w3.cell? ⟨wr.heap.size, 1, none⟩ = some (.int .i64 (z : Int)) := ⟨(World.cell?_of_block (hg3.block wr.heap.size hz3' hn2')).trans K2.1, (World.cell?_of_block (hg3.block wr.heap.size hz3' hn2')).trans K2.2⟩; have HO3 := hide ho3; have HB3 := hide ((unhide HB2).trans hb3); clear ho3 hb3 hg3 hk3) | (go_at_call 41; refine (iappendG w.heap.size _ R x 3 (by omega) (by decide) (by omega) _ ((hown.alloc (.cells #[.int .i64 (x : Int), .int .i64 (z : Int)] 56)).drew) (by simp; omega)).mono ?_; rintro e w2 ⟨v2, rfl, ho2, hb2, hg2, hk2⟩; have hz3' : wr.heap.size < w2.heap.size := (by have := hg2.size; simp at this; omega); have K2 : w2.cell? ⟨wr.heap.size, 0, none⟩ = some (.int .i64 (x : Int)) ∧ w2.cell? ⟨wr.heap.size, 1, none⟩ = some (.int .i64 (z : Int)) := ⟨(World.cell?_of_block ((undrew hg2).block wr.heap.size (by simp) (fun e => absurd (hne _ e.symm) (Nat.lt_irrefl _)))).trans (World.cell?_alloc_mark wr _ _ _ 0), (World.cell?_of_block ((undrew hg2).block wr.heap.size (by simp) (fun e => absurd (hne _ e.symm) (Nat.lt_irrefl _)))).trans (World.cell?_alloc_mark wr _ _ _ 1)⟩; have hn2' : some wr.heap.size ≠ v2.ownBlock := (fun e => by rcases hk2 _ e.symm with h | h; exact absurd (hne _ h) (Nat.lt_irrefl _); exact absurd h (by simp)); have HO2 := hide ho2; have HB2 := hide ((unhide HBW).trans (below_undrew hb2)); have hz2' : w.heap.size ≤ w2.heap.size := (by omega); clear ho2 hb2 hg2 hk2))
      go_wp2_with fail
      go_roundw
      case rel => exact ⟨k + 1, by omega, by go_num, by show World.ownsRow _ _ _ _ _ _ _; rw [unhide HN]; exact unhide HO3, HB3⟩
      case measure => simp [intOf]; omega
    · have ek : k = W := by omega
      subst ek
      have hcv := conv_own (P := Try.prog) Try.underlying27 Try.underlying5 Try.underlying9 (unhide HO)
      go_wp2_with fail
      go_ret
      exact ⟨rfl, unhide HB⟩
/-- What RowCells answers. -/
def rcV (ok : Bool) (W H : Int) (l : List (Int × Int)) (y : Int) : ByteArray := if ok then (if inB y 0 (H - 1) then ⟨(rowB ((l.drop (y.toNat * W.toNat)).take W.toNat)).toArray⟩ else ⟨#[]⟩) else ⟨#[]⟩
def rcC (ok : Bool) (H y : Int) : Int := if ok then (if inB y 0 (H - 1) then 0 else 4) else 1
end Go.Proofs.Ytokfmcajikmhmaa
