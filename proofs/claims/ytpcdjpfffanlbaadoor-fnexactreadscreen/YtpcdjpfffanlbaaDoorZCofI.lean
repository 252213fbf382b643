/- impl.cellsOf: bytes as cells. -/
import Derived.Test.YtpcdjpfffanlbaaDoorZG5
import Derived.Test.YtpcdjpfffanlbaaDoorZBf
import Derived.Lib.SmallJoins
namespace Go.Proofs.YtpcdjpfffanlbaaDoor
open Go.ChangeShapes Go.WideShapes Go.ChangeAt Go.RowKit
set_option linter.unusedVariables false
theorem Tryd.infC53 : (Tryd.prog.info? 53).map (fun i => (i.zero, i.size, i.bytes)) = some (some (.agg #[.int .i64 0, .int .i64 0]), 2, 16) := by kernel_rfl
set_option maxHeartbeats 4000000 in
set_option maxRecDepth 100000 in
theorem icellsOf (b off cap n m : Nat) (d : List UInt8) (HD : Hid (d.length = m)) (hm : m = 4 * n) (hn : n ≤ 20000) (hcap : m ≤ cap) (w : World) (hb : b < w.heap.size) (hc : ∀ i (h : i < d.length), w.cell? ⟨b, off + i, none⟩ = some (.int .u8 (d[i].toNat : Int))) :
  Calls Tryd.prog 30 #[.slice (some ⟨b, off, none⟩) m cap] w fun e w' => ∃ v, e = .returned v ∧ w'.ownsRow w.heap.size 53 2 v n (cP (cells4 d n)) ∧ Below w.heap.size w w' := by
 have HC := hide hc
 have HM := hide hm
 clear hc hm
 obtain ⟨i0, hi, hz0, hz1, hz2⟩ := info_parts Tryd.infC53
 have B0 := hide (Below.refl w.heap.size w)
 go_enter Tryd.func30, Tryd.ntmps30
 go_wp2_with fail
 go_loopw [3, 4] (fun l0 i wr => ∃ (k j : Nat) (v : Value), k ≤ n ∧ j = 4 * k ∧ i = .int .i64 (j : Int) ∧ l0 = v ∧ Hid (wr.ownsRow w.heap.size 53 2 v k (cP (cells4 d k))) ∧ Hid (Below w.heap.size w wr)) (fun _ i _ => m - (intOf i).toNat)
 case atStart => exact ⟨0, 0, _, by omega, by omega, rfl, rfl, World.ownsRow_nil _ _ _ _, B0⟩
 case round =>
  obtain ⟨k, j, v, hk, hj, rfl, rfl, HO, B1⟩ := hrel
  have hm := unhide HM
  by_cases hlt : k < n
  ·have hjm : j + 4 ≤ m := by omega
   have HJ := hide hj
   obtain ⟨q, hq⟩ : ∃ q, q = cap - j := ⟨_, rfl⟩
   have hq4 : 4 ≤ q := by omega
   have hR : ∀ (s n : Nat), s + n ≤ d.length → ∀ W, Below w.heap.size w W → Row8 W (some ⟨b, off + s, none⟩) ((d.drop s).take n) := fun s n h W hW => row8_part (Nat.lt_of_lt_of_le hb hW.size) (fun i h => (hW.cell (p := ⟨b, off + i, none⟩) hb).trans (unhide HC i h)) s n h
   obtain ⟨x, hx⟩ : ∃ x : Int, x = ((ofBE ((d.drop j).take 3) : Nat) : Int) := ⟨_, rfl⟩
   obtain ⟨y, hy⟩ : ∃ y : Int, y = ((ofBE ((d.drop (j + 3)).take 1) : Nat) : Int) := ⟨_, rfl⟩
   have HT3 : Hid (∀ W, Below w.heap.size w W → Calls Tryd.prog 43 #[.slice (some ⟨b, off + j, none⟩) 3 q] W fun e w' => e = .returned (.int .i64 x) ∧ w' = W) := fun W hW => by
    have h := inumber (some ⟨b, off + j, none⟩) q ((d.drop j).take 3) (by rw [List.length_take]; omega) W (hR j 3 (by rw [unhide HD]; omega) W hW)
    rw [show ((d.drop j).take 3).length = 3 from by rw [List.length_take, List.length_drop, unhide HD]; omega, ← hx] at h
    exact h
   have HT1 : Hid (∀ W, Below w.heap.size w W → Calls Tryd.prog 43 #[.slice (some ⟨b, off + j + 3, none⟩) 1 (q - 3)] W fun e w' => e = .returned (.int .i64 y) ∧ w' = W) := fun W hW => by
    have h := inumber (some ⟨b, off + (j + 3), none⟩) (q - 3) ((d.drop (j + 3)).take 1) (by rw [List.length_take]; omega) W (hR (j + 3) 1 (by rw [unhide HD]; omega) W hW)
    rw [show ((d.drop (j + 3)).take 1).length = 1 from by rw [List.length_take, List.length_drop, unhide HD]; omega, ← hy, ← Nat.add_assoc] at h
    exact h
   have HS : Hid (cP (cells4 d (k + 1)) = cP (cells4 d k) ++ [.int .i64 x, .int .i64 y]) := by
    show _ = _
    rw [cells4_snoc, cP_snoc, show c4 d k = (x, y) from by rw [hx, hy, unhide HJ]; rfl]
   have hlt' : (j : Int) < (m : Int) := by omega
   have hj4 : (j : Int) + 4 ≤ (cap : Int) := by omega
   have hqc : cap - j = q := hq.symm
   have hq3 : ¬ q = 3 := by omega
   have hq3i : (3 : Int) ≤ (q : Int) := by omega
   have hj8 : j ≤ 80000 := by omega
   have hjc : j + 4 ≤ cap := by omega
   clear hR hx hy hq hj hm
   go_wp2_with fail
   refine wp_region_held_drew (S := fun _ => True) (by kernel_rfl) trivial (fun hHeld => ?_)
   refine wtv 0 (oi := { dst := some 17, op := .move (.tmp 3), type := 23, pos := "l04_screen.go:498", after := #[], guard := none }) ?_
   refine wtv 1 (oi := { dst := some 18, op := .move (.tmp 5), type := 22, pos := "l04_screen.go:498", after := #[], guard := none }) ?_
   refine wtv 2 (oi := { dst := some 19, op := .slice 22 (.tmp 18) none (some (.const (.int .i64 3))) none, type := 22, pos := "l04_screen.go:498", after := #[{ on := 1, ground := .data }], guard := none }) ?_
   refine wtv 4 (oi := { dst := some 21, op := .move (.tmp 5), type := 22, pos := "l04_screen.go:498", after := #[], guard := none }) ?_
   refine wtv 5 (oi := { dst := some 22, op := .slice 22 (.tmp 21) (some (.const (.int .i64 3))) none none, type := 22, pos := "l04_screen.go:498", after := #[{ on := 4, ground := .data }], guard := none }) ?_
   refine wpAnyH_ready (rs := [3]) (by kernel_rfl) (by simp) ?_
   refine AllReadyH.cons (o := { dst := some 20, op := .call { callee := .value (.func 43), args := #[.tmp 19], argTypes := #[22] }, type := 3, pos := "l04_screen.go:498", after := #[{ on := 2, ground := .data }], guard := none }) rfl (fun K hK => ?_) AllReadyH.nil
   go_simp
   refine (unhide HT3 _ (unhide B1).drew).mono ?_
   rintro e w2 ⟨rfl, hw⟩
   subst w2
   go_wp2_with fail
   refine hK.out _ _ ?_ (fun hHeld3 => ?_)
   ·trivial
   clear hK K
   try simp only [Act.put, qqA, qqB, qqC]
   refine wpAnyH_ready (rs := [6]) (by kernel_rfl) (by simp) ?_
   refine AllReadyH.cons (o := { dst := some 23, op := .call { callee := .value (.func 43), args := #[.tmp 22], argTypes := #[22] }, type := 3, pos := "l04_screen.go:498", after := #[{ on := 5, ground := .data }, { on := 3, ground := .chain }], guard := none }) rfl (fun K hK => ?_) AllReadyH.nil
   go_simp
   refine (unhide HT1 _ (unhide B1).drew).mono ?_
   rintro e w2 ⟨rfl, hw⟩
   subst w2
   go_wp2_with fail
   refine hK.out _ _ ?_ (fun hHeld6 => ?_)
   ·trivial
   clear hK K
   try simp only [Act.put, qqA, qqB, qqC]
   refine wtv 7 (oi := { dst := some 24, op := .build 53 #[(0, .tmp 20), (1, .tmp 23)], type := 53, pos := "l04_screen.go:498", after := #[{ on := 3, ground := .data }, { on := 6, ground := .data }], guard := none }) ?_
   refine wpAnyH_ready (rs := [8]) (by kernel_rfl) (by simp) ?_
   refine AllReadyH.cons (o := { dst := some 25, op := .buildSlice 23 1 #[(0, .tmp 24)], type := 23, pos := "l04_screen.go:498", after := #[{ on := 7, ground := .data }], guard := none }) rfl (fun K hK => ?_) AllReadyH.nil
   go_simp
   refine hK.out _ _ ?_ (fun hHeld8 => ?_)
   ·trivial
   clear hK K
   try simp only [Act.put, qqA, qqB, qqC]
   refine wpAnyH_ready (rs := [9]) (by kernel_rfl) (by simp) ?_
   refine AllReadyH.cons (o := { dst := some 26, op := .call { callee := .builtin Go.Builtin.append, args := #[.tmp 17, .tmp 25], argTypes := #[23, 23] }, type := 23, pos := "l04_screen.go:498", after := #[{ on := 0, ground := .data }, { on := 8, ground := .data }, { on := 6, ground := .chain }], guard := none }) rfl (fun K hK => ?_) AllReadyH.nil
   refine step_append_lies _ rfl (.tmp 17) (.tmp 25) 23 rfl w.heap.size 53 i0 (.agg #[.int .i64 0, .int .i64 0]) 2 16 Tryd.underlying23 hi hz0 hz1 hz2 rfl (by decide) _ k (cP (cells4 d k)) rfl ((unhide HO).drew.alloc _) ⟨wr.heap.size, 0, none⟩ 1 1 [.int .i64 x, .int .i64 y] rfl rfl (by have := news_new wr.drew [.int .i64 x, .int .i64 y] 53; exact this) (by intro u hu; simp at hu; rcases hu with rfl | rfl <;> rfl) (by decide) (by unfold maxLen; omega) (by omega) (by have := (unhide B1).size; simp; omega) _ rfl ?_
   intro g7 c7 w7 hown7 hgrow7 hat7 hlt7
   have HO7 := hide hown7
   have HB7 := hide (((unhide B1).drew.alloc (unhide B1).size (.cells #[.int .i64 x, .int .i64 y] 53)).grown hgrow7 (by have := (unhide B1).size; simp; omega) (fun j hj => ((unhide HO).lt j hj).1))
   clear hown7 hgrow7 hat7 hlt7
   refine hK.out _ _ ?_ (fun hHeld9 => ?_)
   ·trivial
   clear hK K
   try simp only [Act.put, qqA, qqB, qqC]
   refine wtv 10 (oi := { dst := some 3, op := .assign (.tmp 26), type := 23, pos := "l04_screen.go:498", after := #[{ on := 9, ground := .data }, { on := 9, ground := .chain }, { on := 0, ground := .phase }, { on := 1, ground := .phase }, { on := 2, ground := .phase }, { on := 3, ground := .phase }, { on := 4, ground := .phase }, { on := 5, ground := .phase }, { on := 6, ground := .phase }, { on := 7, ground := .phase }, { on := 8, ground := .phase }, { on := 9, ground := .phase }], guard := none }) ?_
   refine wpAnyH_done (by kernel_rfl) ?_ _
   go_wp2_with fail
   go_roundw
   case rel => exact ⟨k + 1, j + 4, _, by omega, by have := unhide HJ; omega, by go_num, rfl, by show World.ownsRow _ _ _ _ _ _ _; rw [unhide HS]; exact unhide HO7, HB7⟩
   case measure => have := unhide HM; simp [intOf]; omega
  ·obtain rfl : k = n := by omega
   obtain ⟨aF, cF, rfl, -⟩ := ownZ_rowV (unhide HO)
   have hlt' : ¬ (j : Int) < (m : Int) := by omega
   clear hm
   go_wp2_with fail
   go_ret
   exact ⟨_, rfl, unhide HO, unhide B1⟩
end Go.Proofs.YtpcdjpfffanlbaaDoor
