/- A big screen marked by the laws' own helper. -/
import Derived.Test.YteeklocaaidimaaScrL
namespace Go.Proofs.Yteeklocaaidimaa
open Go.ChangeShapes Go.WideShapes Go.ChangeAt Go.RowKit
set_option linter.unusedVariables false
set_option maxHeartbeats 400000 in
set_option maxRecDepth 100000 in
theorem markString2 (v : Value) (n lo hi k0 : Nat) (xs : List Value) (hn : n ≤ 1048576) (h1 : 0 < k0) (hk0 : k0 ≤ 2097153) (w : World) (h : Held w lo hi 9 v n xs) :
    Calls Try.prog 25 #[v, .int .i64 (k0 : Int)] w fun e w' => e = .returned (.int .i64 ((k0 + n : Nat) : Int)) ∧ Held w' lo hi 9 v n ((List.range n).map fun j => .string (mtS (k0 + j))) ∧ w.grownBy w' v.ownBlock := by
  have HX := hide (show xs.length = n from by have := h.1.1; omega)
  rcases h.1.2 with ⟨rfl, rfl⟩ | ⟨g, cap, cur, rfl, _⟩
  · go_enter Try.func25, Try.ntmps25
    go_wp2_with fail
    go_loopw [1, 5] (fun kk i wr => kk = .int .i64 (k0 : Int) ∧ i = .int .i64 0 ∧ wr = w) (fun _ _ _ => 0)
    case atStart => exact ⟨rfl, rfl, rfl⟩
    case round =>
      obtain ⟨rfl, rfl, rfl⟩ := hrel
      have h' : Held wr lo hi 9 (.slice none 0 0) 0 ((List.range 0).map fun j => .string (mtS (k0 + j))) := by
        have := List.length_eq_zero_iff.1 (unhide HX); subst this; exact h
      go_wp2_with fail
      go_ret
      exact ⟨ret_int (by simp), h', grownBy_refl _ _⟩
  · have HH := hide h
    clear h
    go_enter Try.func25, Try.ntmps25
    go_wp2_with fail
    go_loopw [1, 5] (fun kk i wr => ∃ j q : Nat, j ≤ n ∧ Hid (q = k0 + j) ∧ i = .int .i64 j ∧ kk = .int .i64 (q : Int) ∧ Hid (Held wr lo hi 9 (.slice (some ⟨g, 0, none⟩) n cap) n (markV xs (fun j => .string (mtS (k0 + j))) j)) ∧ Hid (w.grownBy wr (some g))) (fun _ i _ => n - (intOf i).toNat)
    case atStart => exact ⟨0, k0, by omega, rfl, rfl, rfl, by rw [markV_zero]; exact HH, grownBy_refl _ _⟩
    case round =>
      clear HH
      obtain ⟨j, q, hj, HQ, rfl, rfl, HH, HG⟩ := hrel
      have hq := unhide HQ
      have hq2 : q ≤ 4000000 := by omega
      by_cases hlt : j < n
      · have hlt' : (j : Int) < (n : Int) := by omega
        have hq1 : 0 < q := by omega
        clear hq
        go_wp2_with fail
        refine (markText27 q hq1 hq2 _).mono ?_
        rintro e w2 ⟨rfl, hb2⟩
        obtain ⟨u0, hu0⟩ := cell_of (xs := xs) (j := j) (by rw [unhide HX]; exact hlt)
        have H2 := (unhide HH).below hb2 (unhide HH).le
        have hown := H2.1
        have hc2 : w2.cell? ⟨g, j, none⟩ = some u0 := by rw [hown.cellAt j (by omega), markV_at, hu0]
        have hf2 := hown.frozenAt j
        have hz2 : ¬ w2.heap.size = g := by have := (H2.blk g rfl).2; have := H2.le; omega
        have R := (hown.stored j (.string (mtS q))).1
        have hqe : mtS q = mtS (k0 + j) := by rw [unhide HQ]
        have hst := markV_set xs (fun j => Value.string (mtS (k0 + j))) j (by rw [unhide HX]; exact hlt)
        rw [hqe] at R
        rw [hst] at R
        rw [← hqe] at R
        have RH : Hid (Held (w2.setCell ⟨g, j, none⟩ (.string (mtS q))) lo hi 9 (.slice (some ⟨g, 0, none⟩) n cap) n (markV xs (fun j => .string (mtS (k0 + j))) (j + 1))) := ⟨R, H2.2.1, by have := H2.2.2; simpa using this⟩
        have RG := hide (World.grownBy.trans' (World.grownBy.trans' (unhide HG) (below_asGrown hb2)) (stored_grown (g := g) (j := j) (u := .string (mtS q))))
        clear hown R HH HG hu0 H2 hst hqe hb2
        go_wp2_with fail
        go_roundw
        case rel => exact ⟨j + 1, q + 1, by omega, by show q + 1 = k0 + (j + 1); have := unhide HQ; omega, by go_num, by go_num, RH, RG⟩
        case measure => simp [intOf]; omega
      · have ej : j = n := by omega
        rw [ej, markV_all xs _ n (unhide HX).symm] at HH
        have eq2 : (q : Int) = ((k0 + n : Nat) : Int) := by omega
        clear hq
        go_wp2_with fail
        go_ret
        exact ⟨ret_int eq2, unhide HH, unhide HG⟩
set_option maxHeartbeats 1000000 in
set_option maxRecDepth 100000 in
theorem markScr2 (i0 i1 i2 i3 i4 i5 i6 i7 i8 : Int) (t : ByteArray) (vc vh : Value) (n m lo hi : Nat) (q : Int) (xs ys : List Value) (hq : q = ((1 + n * 2 + m : Nat) : Int)) (hn : n ≤ 1048576) (hm : m ≤ 1048576) (w : World) (hc : HeldZ 2 w lo hi 51 vc n xs) (hh : HeldZ 1 w lo hi 9 vh m ys) :
    Calls Try.prog 9 #[.agg #[.int .i64 i0, .int .i64 i1, .int .i64 i2, .int .i64 i3, .int .i64 i4, .int .i64 i5, .int .i64 i6, .int .i64 i7, .int .i64 i8, .string t, vc, vh], .int .i64 1] w fun e w' => e = .returned (.int .i64 q) ∧ HeldZ 2 w' lo hi 51 vc n (onesCell 1 n) ∧ HeldZ 1 w' lo hi 9 vh m ((List.range m).map fun j => .string (mtS (1 + n * 2 + j))) ∧ Spared w w' lo hi := by
  have HC := hide hc
  have HH := hide hh
  have HQ := hide hq
  have hb0 := (Below.refl w.heap.size w).alloc (Nat.le_refl _) (Obj.cells #[.int .i64 i0, .int .i64 i1, .int .i64 i2, .int .i64 i3, .int .i64 i4, .int .i64 i5, .int .i64 i6, .int .i64 i7, .int .i64 i8, .string t, vc, vh] 29)
  have HB0 := hide hb0
  clear hb0 hc hh hq
  go_enter Try.func9, Try.ntmps9
  go_wp2_with fail
  refine (markCell vc n lo hi 1 xs (by omega) (by decide) _ ((unhide HC).below (unhide HB0) (unhide HC).le)).mono ?_
  rintro e w1 ⟨rfl, hc1, hg1⟩
  have H0 := (unhide HH).below (unhide HB0) (unhide HH).le
  have C0 := (unhide HC).below (unhide HB0) (unhide HC).le
  have HC1 := hide hc1
  have HH1 := hide (H0.kept2 hg1 (own_apart H0.1 C0.1 (by decide)))
  have hb1 : w.heap.size < w1.heap.size := by have := hg1.size; simp at this; omega
  have hk1 : ∀ o, w1.cell? ⟨w.heap.size, o, none⟩ = (w.alloc (Obj.cells #[.int .i64 i0, .int .i64 i1, .int .i64 i2, .int .i64 i3, .int .i64 i4, .int .i64 i5, .int .i64 i6, .int .i64 i7, .int .i64 i8, .string t, vc, vh] 29)).cell? ⟨w.heap.size, o, none⟩ := fun o => World.cell?_of_block (hg1.block w.heap.size (by simp) (fun e => by have := (C0.blk _ e.symm).2; have := (unhide HC).le; omega))
  have S1 := hide ((Spared.of_below (unhide HB0) lo hi).trans (Spared.of_grown hg1 (fun k hk => C0.blk k hk)))
  obtain ⟨p, hp⟩ : ∃ p : Nat, p = 1 + n * 2 := ⟨_, rfl⟩
  rw [← hp]
  have HP := hide hp
  have hp1 : p ≤ 2097153 := by omega
  have hp0 : 0 < p := by omega
  have hc9 := hk1 11
  clear hc1 hg1 H0 C0 hk1 hp
  simp only [World.cell?_alloc_mark] at hc9
  go_wp2_with fail
  refine (markString2 vh m lo hi p ys (by omega) hp0 hp1 _ (heldZ_1 (unhide HH1))).mono ?_
  rintro e w2 ⟨rfl, hh2, hg2⟩
  have HC2 := hide ((unhide HC1).kept2 hg2 (own_apart (unhide HC1).1 (unhide HH1).1 (by decide)))
  have S2 := hide ((unhide S1).trans (Spared.of_grown hg2 (fun k hk => (unhide HH1).blk k hk)))
  have HH2 := hide hh2
  clear hh2 hg2 hc9
  go_wp2_with fail
  go_ret
  refine ⟨ret_int ?_, unhide HC2, ?_, unhide S2⟩
  · have h1 := unhide HQ; have h2 := unhide HP; omega
  · rw [← unhide HP]; exact held_Z (unhide HH2)
end Go.Proofs.Yteeklocaaidimaa
