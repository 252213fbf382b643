/- Texts put together: IntK NdR. -/
import Derived.Test.YtjlajpnhcphngaaZG2
import Derived.Test.YtjlajpnhcphngaaZNdL
import Derived.Test.YtjlajpnhcphngaaZG12
/- Marks in a row of integers from any number on, and these found again. -/
namespace Go.Proofs.Ytjlajpnhcphngaa
open Go.ChangeShapes Go.WideShapes Go.ChangeAt Go.RowKit
set_option maxHeartbeats 400000 in
set_option maxRecDepth 100000 in
theorem markIntK (v : Value) (n lo hi k0 : Nat) (xs : List Value) (hn : n ≤ 3000000) (hk0 : k0 ≤ 3000000) (w : World) (h : Held w lo hi 3 v n xs) :
    Calls Try.prog 30 #[v, .int .i64 (k0 : Int)] w fun e w' => e = .returned (.int .i64 ((k0 + n : Nat) : Int)) ∧ Held w' lo hi 3 v n ((List.range n).map fun j => .int .i64 (((k0 + j : Nat) : Int))) ∧ w.grownBy w' v.ownBlock := by
  have HX := hide (show xs.length = n from by have := h.1.1; omega)
  rcases h.1.2 with ⟨rfl, rfl⟩ | ⟨g, cap, cur, rfl, _⟩
  · go_enter Try.func30, Try.ntmps30
    go_wp2_with fail
    go_loopw [1, 5] (fun kk i wr => kk = .int .i64 (k0 : Int) ∧ i = .int .i64 0 ∧ wr = w) (fun _ _ _ => 0)
    case atStart => exact ⟨rfl, rfl, rfl⟩
    case round =>
      obtain ⟨rfl, rfl, rfl⟩ := hrel
      have h' : Held wr lo hi 3 (.slice none 0 0) 0 ((List.range 0).map fun j => .int .i64 (((k0 + j : Nat) : Int))) := by
        have := List.length_eq_zero_iff.1 (unhide HX); subst this; exact h
      go_wp2_with fail
      go_ret
      exact ⟨ret_int (by simp), h', grownBy_refl _ _⟩
  · have HH := hide h
    clear h
    go_enter Try.func30, Try.ntmps30
    go_wp2_with fail
    go_loopw [1, 5] (fun kk i wr => ∃ j q : Nat, j ≤ n ∧ q = k0 + j ∧ i = .int .i64 j ∧ kk = .int .i64 (q : Int) ∧ Held wr lo hi 3 (.slice (some ⟨g, 0, none⟩) n cap) n (markV xs (fun j => .int .i64 (((k0 + j : Nat) : Int))) j) ∧ w.grownBy wr (some g)) (fun _ i _ => n - (intOf i).toNat)
    case atStart => exact ⟨0, k0, by omega, rfl, rfl, rfl, by rw [markV_zero]; exact unhide HH, grownBy_refl _ _⟩
    case round =>
      clear HH
      obtain ⟨j, q, hj, hq, rfl, rfl, HH, hg⟩ := hrel
      by_cases hlt : j < n
      · obtain ⟨u0, hu0⟩ := cell_of (xs := xs) (j := j) (by rw [unhide HX]; exact hlt)
        have hown := HH.1
        have hc2 : wr.cell? ⟨g, j, none⟩ = some u0 := by rw [hown.cellAt j (by omega), markV_at, hu0]
        have hf2 := hown.frozenAt j
        have hlt' : (j : Int) < (n : Int) := by omega
        have hq2 : (q : Int) ≤ 8000000 := by omega
        have R := (hown.stored j (.int .i64 (((k0 + j : Nat) : Int)))).1
        rw [markV_set xs (fun j => .int .i64 (((k0 + j : Nat) : Int))) j (by rw [unhide HX]; exact hlt)] at R
        have RH : Held (wr.setCell ⟨g, j, none⟩ (.int .i64 (((k0 + j : Nat) : Int)))) lo hi 3 (.slice (some ⟨g, 0, none⟩) n cap) n (markV xs (fun j => .int .i64 (((k0 + j : Nat) : Int))) (j + 1)) := ⟨R, HH.2.1, by have := HH.2.2; simpa using this⟩
        have RG := World.grownBy.trans' hg (stored_grown (g := g) (j := j) (u := .int .i64 (((k0 + j : Nat) : Int))))
        have hqe : ((k0 + j : Nat) : Int) = (q : Int) := by omega
        rw [hqe] at RH RG
        have RH := hide RH
        have RG := hide RG
        have HQ := hide hq
        clear hqe hq
        have hne : ((q : Int) != (q : Int)) = false := by simp
        clear hown R HH hg hu0
        go_wp2_with fail
        go_roundw
        case rel => exact ⟨j + 1, q + 1, by omega, by have := unhide HQ; omega, by go_num, by go_num, unhide RH, unhide RG⟩
        case measure => simp [intOf]; omega
      · have ej : j = n := by omega
        rw [ej, markV_all xs _ n (unhide HX).symm] at HH
        have eq2 : (q : Int) = ((k0 + n : Nat) : Int) := by omega
        clear hq
        go_wp2_with fail
        go_ret
        exact ⟨ret_int eq2, HH, hg⟩

set_option maxHeartbeats 400000 in
set_option maxRecDepth 100000 in
theorem heldIntK (v : Value) (n lo hi k0 : Nat) (hn : n ≤ 3000000) (hk0 : k0 ≤ 3000000) (w : World) (h : Held w lo hi 3 v n ((List.range n).map fun j => .int .i64 (((k0 + j : Nat) : Int)))) :
    Calls Try.prog 32 #[v, .int .i64 (k0 : Int)] w fun e w' => e = .returned (.int .i64 ((k0 + n : Nat) : Int)) ∧ Below w.heap.size w w' := by
  obtain ⟨a, cap, rfl, hr⟩ := h.row
  have HR := hide hr
  clear hr h
  go_enter Try.func32, Try.ntmps32
  go_wp2_with fail
  go_loopw [1, 5] (fun kk i wr => ∃ j q : Nat, j ≤ n ∧ q = k0 + j ∧ i = .int .i64 j ∧ kk = .int .i64 (q : Int) ∧ Below w.heap.size w wr) (fun _ i _ => n - (intOf i).toNat)
  case atStart => exact ⟨0, k0, by omega, rfl, rfl, rfl, Below.refl _ _⟩
  case round =>
    obtain ⟨j, q, hj, hq, rfl, rfl, hb⟩ := hrel
    by_cases hlt : j < n
    · obtain ⟨b, off, ha, hblt, hc⟩ := (unhide HR).at (by simp; omega)
      subst ha
      have hc1 : wr.cell? ⟨b, off + j, none⟩ = some (.int .i64 (((k0 + j : Nat) : Int))) := (hb.cell (p := ⟨b, off + j, none⟩) hblt).trans (hc j _ (by rw [List.getElem?_map, List.getElem?_range hlt]; rfl))
      have hlt' : (j : Int) < (n : Int) := by omega
      have hlt0 : (0 : Int) ≤ (j : Int) := by omega
      have hqe : ((k0 + j : Nat) : Int) = (q : Int) := by omega
      have hq2 : (q : Int) ≤ 8000000 := by omega
      rw [hqe] at hc1
      have HQ := hide hq
      clear hqe hq
      have hne : ((q : Int) != (q : Int)) = false := by simp
      clear hc HR
      go_wp2_with fail
      all_goals
        go_roundw
        case rel => exact ⟨j + 1, q + 1, by omega, by have := unhide HQ; omega, by go_num, by go_num, hb⟩
        case measure => simp [intOf]; omega
    · go_wp2_with fail
      go_ret
      exact ⟨ret_int (by omega), hb⟩
end Go.Proofs.Ytjlajpnhcphngaa

/- Marks in a node's four rows, and these found again; what lies elsewhere stands. -/
namespace Go.Proofs.Ytjlajpnhcphngaa
open Go.ChangeShapes Go.WideShapes Go.ChangeAt Go.RowKit
set_option linter.unusedVariables false
/-- Only blocks between lo and hi turned. -/
structure Outs (lo hi : Nat) (w w' : World) : Prop where
  os : w'.os = w.os
  tape : w'.tape = w.tape
  output : w'.output = w.output
  size : w.heap.size ≤ w'.heap.size
  block : ∀ k, k < w.heap.size → (k < lo ∨ hi ≤ k) → w'.heap[k]? = w.heap[k]?
theorem Outs.trans {lo hi : Nat} {a b c : World} (h : Outs lo hi a b) (k : Outs lo hi b c) : Outs lo hi a c :=
  ⟨k.os.trans h.os, k.tape.trans h.tape, k.output.trans h.output, Nat.le_trans h.size k.size, fun i hi ho => (k.block i (Nat.lt_of_lt_of_le hi h.size) ho).trans (h.block i hi ho)⟩
theorem Outs.of_below {lo hi : Nat} {w w' : World} (h : Below w.heap.size w w') : Outs lo hi w w' := ⟨h.os, h.tape, h.output, h.size, fun k hk _ => h.block k hk⟩
theorem Outs.of_grown {lo hi : Nat} {row : Option Nat} {w w' : World} (h : w.grownBy w' row) (hr : ∀ k, row = some k → lo ≤ k ∧ k < hi) : Outs lo hi w w' :=
  ⟨h.os, h.tape, h.output, h.size, fun k hk ho => h.block k hk (fun e => by have := hr k e.symm; omega)⟩
theorem Held.outs {lo hi lo2 hi2 : Nat} {w w' : World} {e : TypeId} {v : Value} {n : Nat} {xs : List Value} (h : Held w lo2 hi2 e v n xs) (ho : Outs lo hi w w') (hd : hi2 ≤ lo ∨ hi ≤ lo2) : Held w' lo2 hi2 e v n xs := by
  obtain ⟨⟨hl, h2⟩, hk, hs⟩ := h
  refine ⟨⟨hl, ?_⟩, hk, Nat.le_trans hs ho.size⟩
  rcases h2 with h2 | ⟨g, cap, cur, rfl, hbg, hg, hrest⟩
  · exact .inl h2
  · have := hk g rfl
    exact .inr ⟨g, cap, cur, rfl, hbg, (ho.block g (by omega) (by omega)).trans hg, hrest⟩
theorem HeldZ.outs {z lo hi lo2 hi2 : Nat} {w w' : World} {e : TypeId} {v : Value} {n : Nat} {xs : List Value} (h : HeldZ z w lo2 hi2 e v n xs) (ho : Outs lo hi w w') (hd : hi2 ≤ lo ∨ hi ≤ lo2) : HeldZ z w' lo2 hi2 e v n xs := by
  obtain ⟨⟨hl, h2⟩, hk, hs⟩ := h
  refine ⟨⟨hl, ?_⟩, hk, Nat.le_trans hs ho.size⟩
  rcases h2 with h2 | ⟨g, cap, cur, rfl, hbg, hg, hrest⟩
  · exact .inl h2
  · have := hk g rfl
    exact .inr ⟨g, cap, cur, rfl, hbg, (ho.block g (by omega) (by omega)).trans hg, hrest⟩
theorem BF.outs {lo hi n : Nat} {cs : Array Value} {w w' : World} (h : BF n cs w) (ho : Outs lo hi w w') (hd : n < lo ∨ hi ≤ n) : BF n cs w' := h.keep ho.size (ho.block n h.lt hd)
theorem Below.outs {B lo hi : Nat} {w0 w w' : World} (h : Below B w0 w) (hB : B ≤ w.heap.size) (ho : Outs lo hi w w') (hd : B ≤ lo) : Below B w0 w' :=
  h.trans ⟨ho.os, ho.tape, ho.output, ho.size, fun k hk => ho.block k (by omega) (.inl (by omega))⟩
theorem Held.lo_le {lo hi g n : Nat} {w : World} {e : TypeId} {m cap : Nat} {xs : List Value} (h : Held w lo hi e (.slice (some ⟨g, 0, none⟩) m cap) n xs) : lo ≤ hi := by have := h.blk g rfl; omega
/-- The marks of a row of integers from k0 on. -/
def onesI (k0 n : Nat) : List Value := (List.range n).map fun j => .int .i64 (((k0 + j : Nat) : Int))
set_option maxHeartbeats 4000000 in
set_option maxRecDepth 100000 in
theorem markNd (id nd tm vt ro cm el wt : Int) (up : Bool) (a : Option Addr) (cap n : Nat) (av : Option Addr) (cv nv : Nat) (ax : Option Addr) (cx nx : Nat) (ag : Option Addr) (cg ng : Nat) (lo p1 p2 p3 hi : Nat) (hle : lo ≤ p1 ∧ p1 ≤ p2 ∧ p2 ≤ p3 ∧ p3 ≤ hi) (k0 k1 k2 k3 : Nat) (Q : Int) (HK : Hid (k1 = k0 + n * 2 ∧ k2 = k1 + nv ∧ k3 = k2 + nx ∧ Q = ((k3 + ng : Nat) : Int))) (h1 : Hid (0 < k0)) (hk : Hid (k0 + n * 2 + nv + nx + ng ≤ 3000000)) (xs xsv xsx xsg : List Value) (w : World) (h : HeldZ 2 w lo p1 68 (.slice a n cap) n xs ∧ Held w p1 p2 3 (.slice av nv cv) nv xsv ∧ Held w p2 p3 3 (.slice ax nx cx) nx xsx ∧ Held w p3 hi 3 (.slice ag ng cg) ng xsg) :
    Calls Try.prog 10 #[.agg #[.int .i64 id, .int .i64 nd, .int .i64 tm, .int .i64 vt, .int .i64 ro, .bool up, .slice a n cap, .int .i64 cm, .int .i64 el, .int .i64 wt, .slice av nv cv, .slice ax nx cx, .slice ag ng cg], .int .i64 (k0 : Int)] w fun e w' => e = .returned (.int .i64 Q) ∧ HeldZ 2 w' lo p1 68 (.slice a n cap) n (onesEnt k0 n) ∧ Held w' p1 p2 3 (.slice av nv cv) nv (onesI k1 nv) ∧ Held w' p2 p3 3 (.slice ax nx cx) nx (onesI k2 nx) ∧ Held w' p3 hi 3 (.slice ag ng cg) ng (onesI k3 ng) ∧ Outs lo hi w w' := by
  have B0 := hide (Go.Joins.below_alloc1 w (.cells #[.int .i64 id, .int .i64 nd, .int .i64 tm, .int .i64 vt, .int .i64 ro, .bool up, .slice a n cap, .int .i64 cm, .int .i64 el, .int .i64 wt, .slice av nv cv, .slice ax nx cx, .slice ag ng cg] 29))
  have A0 := hide (BF.new w #[.int .i64 id, .int .i64 nd, .int .i64 tm, .int .i64 vt, .int .i64 ro, .bool up, .slice a n cap, .int .i64 cm, .int .i64 el, .int .i64 wt, .slice av nv cv, .slice ax nx cx, .slice ag ng cg] 29)
  obtain ⟨he, hv, hx, hg⟩ := h
  have B := hide (unhide B0)
  have HI := hide hg.le
  have E0 := hide (he.below (unhide B0) he.le)
  have V0 := hide (hv.below (unhide B0) hv.le)
  have X0 := hide (hx.below (unhide B0) hx.le)
  have G0 := hide (hg.below (unhide B0) hg.le)
  have HLE := hide hle
  have O0 : Hid (Outs lo hi w _) := Outs.of_below (unhide B0)
  clear he hv hx hg hle
  go_enter Try.func10, Try.ntmps10
  go_wp2_with fail
  refine (markEnt (.slice a n cap) n lo p1 k0 xs (unhide h1) (by have := unhide hk; have := unhide HK; omega) _ (unhide E0)).mono ?_
  rintro e w1 ⟨rfl, h1, hg1⟩
  rw [show ((k0 + n * 2 : Nat) : Int) = (k1 : Int) from by have := unhide HK; omega]
  have OO1 : Hid (Outs lo p1 _ w1) := Outs.of_grown hg1 (fun k hk => (unhide E0).blk k hk)
  have O1 : Hid (Outs lo hi w w1) := (unhide O0).trans (Outs.of_grown hg1 (fun k hk => by have := (unhide E0).blk k hk; have := unhide HLE; omega))
  have E1 := hide h1
  have V1 := hide ((unhide V0).outs (unhide OO1) (by have := unhide HLE; omega))
  have X1 := hide ((unhide X0).outs (unhide OO1) (by have := unhide HLE; omega))
  have G1 := hide ((unhide G0).outs (unhide OO1) (by have := unhide HLE; omega))
  have A1 := hide ((unhide A0).outs (unhide OO1) (by have := unhide HLE; have := unhide HI; omega))
  clear h1 hg1 OO1 A0 O0 E0 V0 X0 G0 B0
  have a1 := (unhide A1).S
  go_wp2_with fail
  refine (markIntK (.slice av nv cv) nv p1 p2 k1 xsv (by have := unhide hk; have := unhide HK; omega) (by have := unhide hk; have := unhide HK; omega) _ (unhide V1)).mono ?_
  rintro e w2 ⟨rfl, h2, hg2⟩
  rw [show ((k1 + nv : Nat) : Int) = (k2 : Int) from by have := unhide HK; omega]
  have OO2 : Hid (Outs p1 p2 _ w2) := Outs.of_grown hg2 (fun k hk => (unhide V1).blk k hk)
  have O2 : Hid (Outs lo hi w w2) := (unhide O1).trans (Outs.of_grown hg2 (fun k hk => by have := (unhide V1).blk k hk; have := unhide HLE; omega))
  have E2 := hide ((unhide E1).outs (unhide OO2) (by have := unhide HLE; omega))
  have V2 := hide h2
  have X2 := hide ((unhide X1).outs (unhide OO2) (by have := unhide HLE; omega))
  have G2 := hide ((unhide G1).outs (unhide OO2) (by have := unhide HLE; omega))
  have A2 := hide ((unhide A1).outs (unhide OO2) (by have := unhide HLE; have := unhide HI; omega))
  clear h2 hg2 OO2 A1 O1 E1 V1 X1 G1 a1
  have a2 := (unhide A2).S
  go_wp2_with fail
  refine (markIntK (.slice ax nx cx) nx p2 p3 k2 xsx (by have := unhide hk; have := unhide HK; omega) (by have := unhide hk; have := unhide HK; omega) _ (unhide X2)).mono ?_
  rintro e w3 ⟨rfl, h3, hg3⟩
  rw [show ((k2 + nx : Nat) : Int) = (k3 : Int) from by have := unhide HK; omega]
  have OO3 : Hid (Outs p2 p3 _ w3) := Outs.of_grown hg3 (fun k hk => (unhide X2).blk k hk)
  have O3 : Hid (Outs lo hi w w3) := (unhide O2).trans (Outs.of_grown hg3 (fun k hk => by have := (unhide X2).blk k hk; have := unhide HLE; omega))
  have E3 := hide ((unhide E2).outs (unhide OO3) (by have := unhide HLE; omega))
  have V3 := hide ((unhide V2).outs (unhide OO3) (by have := unhide HLE; omega))
  have X3 := hide h3
  have G3 := hide ((unhide G2).outs (unhide OO3) (by have := unhide HLE; omega))
  have A3 := hide ((unhide A2).outs (unhide OO3) (by have := unhide HLE; have := unhide HI; omega))
  clear h3 hg3 OO3 A2 O2 E2 V2 X2 G2 a2
  have a3 := (unhide A3).S
  go_wp2_with fail
  refine (markIntK (.slice ag ng cg) ng p3 hi k3 xsg (by have := unhide hk; have := unhide HK; omega) (by have := unhide hk; have := unhide HK; omega) _ (unhide G3)).mono ?_
  rintro e w4 ⟨rfl, h4, hg4⟩
  rw [show ((k3 + ng : Nat) : Int) = Q from by have := unhide HK; omega]
  have OO4 : Hid (Outs p3 hi _ w4) := Outs.of_grown hg4 (fun k hk => (unhide G3).blk k hk)
  have O4 : Hid (Outs lo hi w w4) := (unhide O3).trans (Outs.of_grown hg4 (fun k hk => by have := (unhide G3).blk k hk; have := unhide HLE; omega))
  have E4 := hide ((unhide E3).outs (unhide OO4) (by have := unhide HLE; omega))
  have V4 := hide ((unhide V3).outs (unhide OO4) (by have := unhide HLE; omega))
  have X4 := hide ((unhide X3).outs (unhide OO4) (by have := unhide HLE; omega))
  have G4 := hide h4
  have A4 := hide ((unhide A3).outs (unhide OO4) (by have := unhide HLE; have := unhide HI; omega))
  clear h4 hg4 OO4 A3 O3 E3 V3 X3 G3 a3
  have a4 := (unhide A4).S
  go_wp2_with fail
  go_ret
  exact ⟨rfl, unhide E4, unhide V4, unhide X4, unhide G4, unhide O4⟩
end Go.Proofs.Ytjlajpnhcphngaa
