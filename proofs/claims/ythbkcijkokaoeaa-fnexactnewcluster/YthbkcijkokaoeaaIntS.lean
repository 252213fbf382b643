/- Rows of integers: the laws' own helpers. -/
import Derived.Test.YthbkcijkokaoeaaRowV
namespace Go.Proofs.Ythbkcijkokaoeaa
open Go.ChangeShapes Go.WideShapes Go.ChangeAt Go.RowKit
theorem Try.infL3 : (Try.prog.info? 3).map (fun i => (i.zero, i.size, i.bytes)) = some (some (.int .i64 0), 1, 8) := by kernel_rfl
def cI (l : List Int) : List Value := l.map fun c => .int .i64 (c)
theorem cI_len (l : List Int) : (cI l).length = l.length := by simp [cI]
theorem cI_at (l : List Int) (k : Nat) (h : k < l.length) : (cI l)[k]? = some (.int .i64 (l[k])) := by simp [cI, List.getElem?_eq_getElem h]
theorem cI_app (l m : List Int) : cI (l ++ m) = cI l ++ cI m := by simp [cI]
theorem cI_one (l : List Int) : ∀ u ∈ cI l, u.oneCell' = true := by
  intro u hu; simp [cI] at hu; obtain ⟨c, _, rfl⟩ := hu; rfl

set_option maxHeartbeats 400000 in
set_option maxRecDepth 100000 in
theorem sameInt (a c : Option Addr) (cap cap2 : Nat) (l : List Int) (hl : l.length ≤ 1048576) (w : World) (hr : RowV w a (cI l)) (hr2 : RowV w c (cI l)) :
    Calls Try.prog 38 #[.slice a l.length cap, .slice c l.length cap2] w fun e w' => e = .returned (.bool true) ∧ Below w.heap.size w w' := by
  have HR := hide hr
  have HR2 := hide hr2
  have HCL := hide (cI_len l)
  clear hr hr2
  have hne : ((l.length : Int) != (l.length : Int)) = false := by simp
  go_enter Try.func38, Try.ntmps38
  go_wp2_with fail
  go_loopw [5] (fun i wr => ∃ k : Nat, k ≤ l.length ∧ i = .int .i64 k ∧ Below w.heap.size w wr) (fun i _ => l.length - (intOf i).toNat)
  case atStart => exact ⟨0, by omega, rfl, Below.refl _ _⟩
  case round =>
    obtain ⟨k, hk, rfl, hb⟩ := hrel
    by_cases hlt : k < l.length
    · obtain ⟨b, off, ha, hblt, hc⟩ := (unhide HR).at (by rw [unhide HCL]; omega)
      obtain ⟨b2, off2, ha2, hblt2, hc2⟩ := (unhide HR2).at (by rw [unhide HCL]; omega)
      subst ha ha2
      have hc1 : wr.cell? ⟨b, off + k, none⟩ = some (.int .i64 (l[k])) := (hb.cell (p := ⟨b, off + k, none⟩) hblt).trans (hc k _ (cI_at l k hlt))
      have hc3 : wr.cell? ⟨b2, off2 + k, none⟩ = some (.int .i64 (l[k])) := (hb.cell (p := ⟨b2, off2 + k, none⟩) hblt2).trans (hc2 k _ (cI_at l k hlt))
      have hlt' : (k : Int) < (l.length : Int) := by omega
      have hlt0 : (0 : Int) ≤ (k : Int) := by omega
      have hne2 : ((l[k] : Int) != (l[k] : Int)) = false := by simp
      clear hc hc2 HR HR2 HCL
      go_wp2_with fail
      go_region_held3 (fun w' => w'.cell? ⟨b, off + k, none⟩ = some (.int .i64 (l[k])) ∧ w'.cell? ⟨b2, off2 + k, none⟩ = some (.int .i64 (l[k]))) (go_keep) (fail)
      all_goals
        go_wp2_with fail
        go_roundw
        case rel => exact ⟨k + 1, by omega, by go_num, hb.drew⟩
        case measure => simp [intOf]; omega
    · go_wp2_with fail
      go_ret
      exact ⟨rfl, hb⟩

def onesInt (n : Nat) : List Value := (List.range n).map fun j => .int .i64 (((1 + j : Nat) : Int))
set_option maxHeartbeats 400000 in
set_option maxRecDepth 100000 in
theorem markInt (v : Value) (n lo hi k0 : Nat) (xs : List Value) (hn : n ≤ 2000000) (hk0 : k0 ≤ 2000000) (w : World) (h : Held w lo hi 3 v n xs) :
    Calls Try.prog 32 #[v, .int .i64 (k0 : Int)] w fun e w' => e = .returned (.int .i64 ((k0 + n : Nat) : Int)) ∧ Held w' lo hi 3 v n ((List.range n).map fun j => .int .i64 (((k0 + j : Nat) : Int))) ∧ w.grownBy w' v.ownBlock := by
  have HX := hide (show xs.length = n from by have := h.1.1; omega)
  rcases h.1.2 with ⟨rfl, rfl⟩ | ⟨g, cap, cur, rfl, _⟩
  · go_enter Try.func32, Try.ntmps32
    go_wp2_with fail
    go_loopw [1, 5] (fun kk i wr => kk = .int .i64 (k0 : Int) ∧ i = .int .i64 0 ∧ wr = w) (fun _ _ _ => 0)
    case atStart => exact ⟨rfl, rfl, rfl⟩
    case round =>
      obtain ⟨rfl, rfl, rfl⟩ := hrel
      have h' : Held wr lo hi 3 (.slice none 0 0) 0 ((List.range 0).map fun j => .int .i64 (((k0 + j : Nat) : Int))) := by
        have := List.length_eq_zero_iff.1 (unhide HX); subst this; exact h
      go_wp2_with fail
      go_ret
      exact ⟨ret_int (by simp), h', grownBy_refl _ _⟩
  · have HH := hide h
    clear h
    go_enter Try.func32, Try.ntmps32
    go_wp2_with fail
    go_loopw [1, 5] (fun kk i wr => ∃ j q : Nat, j ≤ n ∧ q = k0 + j ∧ i = .int .i64 j ∧ kk = .int .i64 (q : Int) ∧ Held wr lo hi 3 (.slice (some ⟨g, 0, none⟩) n cap) n (markV xs (fun j => .int .i64 (((k0 + j : Nat) : Int))) j) ∧ w.grownBy wr (some g)) (fun _ i _ => n - (intOf i).toNat)
    case atStart => exact ⟨0, k0, by omega, rfl, rfl, rfl, by rw [markV_zero]; exact unhide HH, grownBy_refl _ _⟩
    case round =>
      clear HH
      obtain ⟨j, q, hj, hq, rfl, rfl, HH, hg⟩ := hrel
      by_cases hlt : j < n
      · obtain ⟨u0, hu0⟩ := cell_of (xs := xs) (j := j) (by rw [unhide HX]; exact hlt)
        have hown := HH.1
        have hc2 : wr.cell? ⟨g, j, none⟩ = some u0 := by rw [hown.cellAt j (by omega), markV_at, hu0]
        have hf2 := hown.frozenAt j
        have hlt' : (j : Int) < (n : Int) := by omega
        have hq2 : (q : Int) ≤ 4000000 := by omega
        have R := (hown.stored j (.int .i64 (((k0 + j : Nat) : Int)))).1
        rw [markV_set xs (fun j => .int .i64 (((k0 + j : Nat) : Int))) j (by rw [unhide HX]; exact hlt)] at R
        have RH : Held (wr.setCell ⟨g, j, none⟩ (.int .i64 (((k0 + j : Nat) : Int)))) lo hi 3 (.slice (some ⟨g, 0, none⟩) n cap) n (markV xs (fun j => .int .i64 (((k0 + j : Nat) : Int))) (j + 1)) := ⟨R, HH.2.1, by have := HH.2.2; simpa using this⟩
        have RG := World.grownBy.trans' hg (stored_grown (g := g) (j := j) (u := .int .i64 (((k0 + j : Nat) : Int))))
        have hqe : ((k0 + j : Nat) : Int) = (q : Int) := by omega
        rw [hqe] at RH RG
        have RH := hide RH
        have RG := hide RG
        have HQ := hide hq
        clear hqe hq
        have hne : ((q : Int) != (q : Int)) = false := by simp
        clear hown R HH hg hu0
        go_wp2_with fail
        go_roundw
        case rel => exact ⟨j + 1, q + 1, by omega, by have := unhide HQ; omega, by go_num, by go_num, unhide RH, unhide RG⟩
        case measure => simp [intOf]; omega
      · have ej : j = n := by omega
        rw [ej, markV_all xs _ n (unhide HX).symm] at HH
        have eq2 : (q : Int) = ((k0 + n : Nat) : Int) := by omega
        clear hq
        go_wp2_with fail
        go_ret
        exact ⟨ret_int eq2, HH, hg⟩

set_option maxHeartbeats 400000 in
set_option maxRecDepth 100000 in
theorem heldInt (v : Value) (n lo hi k0 : Nat) (hn : n ≤ 2000000) (hk0 : k0 ≤ 2000000) (w : World) (h : Held w lo hi 3 v n ((List.range n).map fun j => .int .i64 (((k0 + j : Nat) : Int)))) :
    Calls Try.prog 35 #[v, .int .i64 (k0 : Int)] w fun e w' => e = .returned (.int .i64 ((k0 + n : Nat) : Int)) ∧ Below w.heap.size w w' := by
  obtain ⟨a, cap, rfl, hr⟩ := h.row
  have HR := hide hr
  clear hr h
  go_enter Try.func35, Try.ntmps35
  go_wp2_with fail
  go_loopw [1, 5] (fun kk i wr => ∃ j q : Nat, j ≤ n ∧ q = k0 + j ∧ i = .int .i64 j ∧ kk = .int .i64 (q : Int) ∧ Below w.heap.size w wr) (fun _ i _ => n - (intOf i).toNat)
  case atStart => exact ⟨0, k0, by omega, rfl, rfl, rfl, Below.refl _ _⟩
  case round =>
    obtain ⟨j, q, hj, hq, rfl, rfl, hb⟩ := hrel
    by_cases hlt : j < n
    · obtain ⟨b, off, ha, hblt, hc⟩ := (unhide HR).at (by simp; omega)
      subst ha
      have hc1 : wr.cell? ⟨b, off + j, none⟩ = some (.int .i64 (((k0 + j : Nat) : Int))) := (hb.cell (p := ⟨b, off + j, none⟩) hblt).trans (hc j _ (by rw [List.getElem?_map, List.getElem?_range hlt]; rfl))
      have hlt' : (j : Int) < (n : Int) := by omega
      have hlt0 : (0 : Int) ≤ (j : Int) := by omega
      have hqe : ((k0 + j : Nat) : Int) = (q : Int) := by omega
      have hq2 : (q : Int) ≤ 4000000 := by omega
      rw [hqe] at hc1
      have HQ := hide hq
      clear hqe hq
      have hne : ((q : Int) != (q : Int)) = false := by simp
      clear hc HR
      go_wp2_with fail
      all_goals
        go_roundw
        case rel => exact ⟨j + 1, q + 1, by omega, by have := unhide HQ; omega, by go_num, by go_num, hb⟩
        case measure => simp [intOf]; omega
    · go_wp2_with fail
      go_ret
      exact ⟨ret_int (by omega), hb⟩

theorem markInt1 (v : Value) (n lo hi : Nat) (q : Int) (xs : List Value) (hq : q = ((1 + n : Nat) : Int)) (hn : n ≤ 2000000) (w : World) (h : Held w lo hi 3 v n xs) :
    Calls Try.prog 32 #[v, .int .i64 1] w fun e w' => e = .returned (.int .i64 q) ∧ Held w' lo hi 3 v n (onesInt n) ∧ w.grownBy w' v.ownBlock := by
  subst hq; exact markInt v n lo hi 1 xs hn (by decide) w h
theorem heldInt1 (v : Value) (n lo hi : Nat) (q : Int) (hq : q = ((1 + n : Nat) : Int)) (hn : n ≤ 2000000) (w : World) (h : Held w lo hi 3 v n (onesInt n)) :
    Calls Try.prog 35 #[v, .int .i64 1] w fun e w' => e = .returned (.int .i64 q) ∧ Below w.heap.size w w' := by
  subst hq; exact heldInt v n lo hi 1 hn (by decide) w h
end Go.Proofs.Ythbkcijkokaoeaa
