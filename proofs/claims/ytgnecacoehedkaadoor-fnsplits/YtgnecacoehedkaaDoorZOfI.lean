/- panes, allDiffer, sideOf, cut, sizesOK: what the program answers over trees. -/
import Derived.Test.YtgnecacoehedkaaDoorZAtJ
import Derived.Test.YtgnecacoehedkaaDoorZG12
import Derived.Test.YtgnecacoehedkaaDoorZSizeB
namespace Go.Proofs.YtgnecacoehedkaaDoor
open Go.ChangeShapes Go.WideShapes Go.ChangeAt Go.RowKit
def cI (l : List Int) : List Value := l.map fun n => .int .i64 n
theorem cI_len (l : List Int) : (cI l).length = l.length := by simp [cI]
theorem cI_app (l m : List Int) : cI (l ++ m) = cI l ++ cI m := by simp [cI]
theorem cI_one (l : List Int) : ∀ u ∈ cI l, u.oneCell' = true := by
 intro u hu; simp [cI] at hu; obtain ⟨c, _, rfl⟩ := hu; rfl
theorem panes_len : ∀ t : Tr, t.panes.length ≤ t.cnt := by
 intro t
 induction t using Tr.ind with
 | pane n => simp [Tr.panes, Tr.cnt]
 | split r s l t ihl ihr => simp only [Tr.panes, Tr.cnt, List.length_append]; omega
theorem panes_pos : ∀ t : Tr, 0 < t.panes.length := by
 intro t
 induction t using Tr.ind with
 | pane n => simp [Tr.panes]
 | split r s l t ihl ihr => simp only [Tr.panes, List.length_append]; omega
theorem Tryd.infI3 : (Tryd.prog.info? 3).map (fun i => (i.zero, i.size, i.bytes)) = some (some (.int .i64 0), 1, 8) := by kernel_rfl
set_option maxHeartbeats 1000000 in
set_option maxRecDepth 100000 in
theorem ipanes : ∀ (t : Tr) (b : Nat) (bs : List Nat) (w : World), TreeAt iBx w t b bs → t.cnt ≤ 1000 →
  Calls Tryd.prog 39 #[.pointer (some ⟨b, 0, none⟩)] w fun e w' => ∃ a cap, e = .returned (.slice a t.panes.length cap) ∧ w'.ownsRow w.heap.size 3 1 (.slice a t.panes.length cap) t.panes.length (cI t.panes) ∧ Below w.heap.size w w' := by
 intro t
 obtain ⟨i0, hi, hz0, hz1, hz2⟩ := info_parts Tryd.infI3
 induction t using Tr.ind with
 | pane n =>
  intro b bs w ht hcnt
  obtain ⟨rfl, hbf⟩ := ht
  have c0 : w.cell? ⟨b, 0, none⟩ = some (.int .i64 n) := hbf.S 0
  have HBF := hide hbf
  clear hbf
  go_enter Tryd.func39, Tryd.ntmps39
  go_wp2_with fail
  refine (ipane_pane b n _ (unhide HBF)).mono ?_
  rintro e w1 ⟨rfl, rfl⟩
  go_wp2_with fail
  go_ret
  exact ⟨_, _, rfl, World.ownsRow_lit (e := 3) (base := w1.heap.size) (size := 1) w1 #[.int .i64 n] 1 (Nat.le_refl _) (by decide) rfl, Go.Joins.below_alloc1 w1 _⟩
 | split r s l t ihl ihr =>
  intro b bs w ht hcnt
  obtain ⟨bl, br, Ls, Rs, rfl, hbf, htl, htr⟩ := ht
  have HBF := hide hbf
  have HTL := hide htl
  have HTR := hide htr
  have c3 : w.cell? ⟨b, 3, none⟩ = some (.pointer (some ⟨bl, 0, none⟩)) := hbf.S 3
  have HI := hide ihl
  have HJ := hide ihr
  have HC := hide hcnt
  clear hbf htl htr ihl ihr hcnt
  go_enter Tryd.func39, Tryd.ntmps39
  go_wp2_with fail
  refine (ipane_split b r s bl br _ (unhide HBF)).mono ?_
  rintro e w1 ⟨rfl, rfl⟩
  have c4 : w1.cell? ⟨b, 4, none⟩ = some (.pointer (some ⟨br, 0, none⟩)) := (unhide HBF).S 4
  have hcn := unhide HC
  simp only [Tr.cnt] at hcn
  have HL1 : Hid (l.cnt ≤ 1000) := by show _ ≤ _; omega
  have HR1 : Hid (t.cnt ≤ 1000) := by show _ ≤ _; omega
  obtain ⟨n1, hn1⟩ : ∃ n1, n1 = l.panes.length := ⟨_, rfl⟩
  obtain ⟨n2, hn2⟩ : ∃ n2, n2 = t.panes.length := ⟨_, rfl⟩
  have b1 : 0 < n1 ∧ n1 ≤ 1000 := by have := panes_pos l; have := panes_len l; omega
  have b2 : 0 < n2 ∧ n2 ≤ 1000 := by have := panes_pos t; have := panes_len t; omega
  have HN1 := hide hn1
  have HN2 := hide hn2
  have hblt := (unhide HBF).lt
  clear hcn hn1 hn2
  go_wp2_with fail
  --REG
  refine wp_region_held_drew (S := fun w' => w'.cell? ⟨b, 3, none⟩ = some (.pointer (some ⟨bl, 0, none⟩)) ∧ w'.cell? ⟨b, 4, none⟩ = some (.pointer (some ⟨br, 0, none⟩))) (by kernel_rfl) ⟨c3, c4⟩ (fun hHeld => ?_)
  refine wtv 0 (oi := { dst := some 10, op := .move (.tmp 0), type := 45, pos := "l05_layout.go:107", after := #[], guard := none }) ?_
  refine wtv 1 (oi := { dst := some 11, op := .nilCheck (.tmp 10), type := 0, pos := "l05_layout.go:107", after := #[{ on := 0, ground := .data }], guard := none }) ?_
  refine wtv 2 (oi := { dst := some 12, op := .fieldAddr 58 (.tmp 11) 3, type := 0, pos := "l05_layout.go:107", after := #[{ on := 1, ground := .data }], guard := none }) ?_
  refine wtv 3 (oi := { dst := some 13, op := .load 45 (.tmp 12), type := 45, pos := "l05_layout.go:107", after := #[{ on := 2, ground := .data }], guard := none }) ?_
  refine wtv 5 (oi := { dst := some 15, op := .move (.tmp 0), type := 45, pos := "l05_layout.go:107", after := #[], guard := none }) ?_
  refine wtv 6 (oi := { dst := some 16, op := .nilCheck (.tmp 15), type := 0, pos := "l05_layout.go:107", after := #[{ on := 5, ground := .data }], guard := none }) ?_
  refine wtv 7 (oi := { dst := some 17, op := .fieldAddr 58 (.tmp 16) 4, type := 0, pos := "l05_layout.go:107", after := #[{ on := 6, ground := .data }], guard := none }) ?_
  refine wtv 8 (oi := { dst := some 18, op := .load 45 (.tmp 17), type := 45, pos := "l05_layout.go:107", after := #[{ on := 7, ground := .data }], guard := none }) ?_
  refine wpAnyH_ready (rs := [4]) (by kernel_rfl) (by simp) ?_
  refine AllReadyH.cons (o := { dst := some 14, op := .call { callee := .value (.func 39), args := #[.tmp 13], argTypes := #[45] }, type := 74, pos := "l05_layout.go:107", after := #[{ on := 3, ground := .data }], guard := none }) rfl (fun K hK => ?_) AllReadyH.nil
  go_simp
  refine (unhide HI bl Ls _ (unhide HTL).drew (unhide HL1)).mono ?_
  rw [← unhide HN1]
  rintro e w2 ⟨a2, cap2, rfl, ho2, hb2'⟩
  obtain ⟨g2, rfl⟩ := own_at ho2 b1.1
  have k2 : w2.cell? ⟨b, 3, none⟩ = some (.pointer (some ⟨bl, 0, none⟩)) ∧ w2.cell? ⟨b, 4, none⟩ = some (.pointer (some ⟨br, 0, none⟩)) := ⟨((below_undrew hb2').cell (p := ⟨b, 3, none⟩) hblt).trans c3, ((below_undrew hb2').cell (p := ⟨b, 4, none⟩) hblt).trans c4⟩
  have HO2 := hide (show w2.ownsRow w1.heap.size 3 1 (.slice (some ⟨g2, 0, none⟩) n1 cap2) n1 (cI l.panes) from ho2)
  have HB2 := hide (below_undrew hb2')
  have hb2 : b < w2.heap.size := Nat.lt_of_lt_of_le hblt hb2'.size
  clear ho2 hb2'
  go_wp2_with fail
  refine hK.out _ _ ?_ (fun hHeld4 => ?_)
  ·exact k2
  clear hK K
  try simp only [Act.put, qqA, qqB, qqC]
  refine wpAnyH_ready (rs := [9]) (by kernel_rfl) (by simp) ?_
  refine AllReadyH.cons (o := { dst := some 19, op := .call { callee := .value (.func 39), args := #[.tmp 18], argTypes := #[45] }, type := 74, pos := "l05_layout.go:107", after := #[{ on := 8, ground := .data }, { on := 4, ground := .chain }], guard := none }) rfl (fun K hK => ?_) AllReadyH.nil
  go_simp
  refine (unhide HJ br Rs _ ((unhide HTR).below (unhide HB2)) (unhide HR1)).mono ?_
  rw [← unhide HN2]
  rintro e w3 ⟨a3, cap3, rfl, ho3, hb3'⟩
  obtain ⟨g3, rfl⟩ := own_at ho3 b2.1
  have k3 : w3.cell? ⟨b, 3, none⟩ = some (.pointer (some ⟨bl, 0, none⟩)) ∧ w3.cell? ⟨b, 4, none⟩ = some (.pointer (some ⟨br, 0, none⟩)) := ⟨(hb3'.cell (p := ⟨b, 3, none⟩) hb2).trans k2.1, (hb3'.cell (p := ⟨b, 4, none⟩) hb2).trans k2.2⟩
  have HO23 := hide ((heldZ_of (unhide HO2)).below hb3' (Nat.le_refl _)).own
  have HNW := hide (fun j u (hu : (cI t.panes)[j]? = some u) => World.ownsRow.cells ho3 rfl j u hu)
  have HB3 := hide ((unhide HB2).trans (hb3'.mono (unhide HB2).size))
  have HZ3 : Hid (w1.heap.size ≤ w3.heap.size) := (unhide HB3).size
  have hb3 : b < w3.heap.size := Nat.lt_of_lt_of_le hblt (unhide HZ3)
  have HFAR : Hid (some b ≠ (Value.slice (some ⟨g2, 0, none⟩) n1 cap2).ownBlock) := fun e => by have := (unhide HO2).lt b e.symm; omega
  clear ho3 hb3'
  go_wp2_with fail
  refine hK.out _ _ ?_ (fun hHeld9 => ?_)
  ·exact k3
  clear hK K
  try simp only [Act.put, qqA, qqB, qqC]
  refine wpAnyH_ready (rs := [10]) (by kernel_rfl) (by simp) ?_
  refine AllReadyH.cons (o := { dst := some 20, op := .call { callee := .builtin Go.Builtin.append, args := #[.tmp 14, .tmp 19], argTypes := #[74, 74] }, type := 74, pos := "l05_layout.go:107", after := #[{ on := 4, ground := .data }, { on := 9, ground := .data }, { on := 9, ground := .chain }], guard := none }) rfl (fun K hK => ?_) AllReadyH.nil
  refine step_append_lies _ rfl (.tmp 14) (.tmp 19) 74 rfl w1.heap.size 3 i0 (.int .i64 0) 1 8 Tryd.underlying74 hi hz0 hz1 hz2 rfl (by decide) (.slice (some ⟨g2, 0, none⟩) n1 cap2) n1 (cI l.panes) rfl (unhide HO23) ⟨g3, 0, none⟩ n2 cap3 (cI t.panes) rfl (by rw [cI_len, ← unhide HN2, Nat.mul_one]) (unhide HNW) (cI_one _) b2.1 (by unfold maxLen; omega) (by omega) (unhide HZ3) _ rfl ?_
  intro g4 c4' w4 hown4 hgrow4 hat4 hlt4
  have k4 : w4.cell? ⟨b, 3, none⟩ = some (.pointer (some ⟨bl, 0, none⟩)) ∧ w4.cell? ⟨b, 4, none⟩ = some (.pointer (some ⟨br, 0, none⟩)) := ⟨(hgrow4.cell_far ⟨b, 3, none⟩ hb3 (unhide HFAR)).trans k3.1, (hgrow4.cell_far ⟨b, 4, none⟩ hb3 (unhide HFAR)).trans k3.2⟩
  refine hK.out _ _ ?_ (fun hHeld10 => ?_)
  ·exact k4
  clear hK K
  try simp only [Act.put, qqA, qqB, qqC]
  refine wtv 11 (oi := { dst := some 2, op := .assign (.tmp 20), type := 74, pos := "l05_layout.go:107", after := #[{ on := 10, ground := .data }, { on := 10, ground := .chain }, { on := 0, ground := .phase }, { on := 1, ground := .phase }, { on := 2, ground := .phase }, { on := 3, ground := .phase }, { on := 4, ground := .phase }, { on := 5, ground := .phase }, { on := 6, ground := .phase }, { on := 7, ground := .phase }, { on := 8, ground := .phase }, { on := 9, ground := .phase }, { on := 10, ground := .phase }], guard := none }) ?_
  refine wpAnyH_done (by kernel_rfl) ?_ _
  rw [← cI_app] at hown4
  have HG4 := hide ((unhide HB3).grown hgrow4 (unhide HZ3) (fun k hk => (unhide HO2).lt k hk |>.1))
  have HO4 := hide hown4
  clear hown4 hgrow4 hat4 hlt4 k2 k3 k4
  go_wp2_with fail
  go_ret
  have e12 : (Tr.split r s l t).panes.length = n1 + n2 := by rw [unhide HN1, unhide HN2]; simp [Tr.panes]
  rw [e12]
  exact ⟨_, _, rfl, unhide HO4, unhide HG4⟩
theorem iside (pn x y W H : Int) (r : Bool) (w : World) : Calls Tryd.prog 43 #[.agg #[.int .i64 pn, .int .i64 x, .int .i64 y, .int .i64 W, .int .i64 H], .bool r] w fun e w' => e = .returned (.int .i64 (if r then H else W)) ∧ Below w.heap.size w w' := by
 cases r
 all_goals
  go_enter Tryd.func43, Tryd.ntmps43
  go_wp2_with fail
  go_ret
  exact ⟨rfl, Go.Joins.below_alloc1 w _⟩
/-- The places of a split's two parts. -/
def cutL (r : Bool) (s pn x y W H : Int) : Array Value := if r then #[.int .i64 pn, .int .i64 x, .int .i64 y, .int .i64 W, .int .i64 s] else #[.int .i64 pn, .int .i64 x, .int .i64 y, .int .i64 s, .int .i64 H]
def cutR (r : Bool) (s pn x y W H : Int) : Array Value := if r then #[.int .i64 pn, .int .i64 x, .int .i64 (y + s), .int .i64 W, .int .i64 (H - s)] else #[.int .i64 pn, .int .i64 (x + s), .int .i64 y, .int .i64 (W - s), .int .i64 H]
set_option maxHeartbeats 1000000 in
set_option maxRecDepth 100000 in
theorem icut (b bl br : Nat) (r : Bool) (s pn x y W H : Int) (hs : 0 ≤ s ∧ s ≤ 1000) (hx : 0 ≤ x ∧ x ≤ 1000) (hy : 0 ≤ y ∧ y ≤ 1000) (hW : 0 ≤ W ∧ W ≤ 1000) (hH : 0 ≤ H ∧ H ≤ 1000) (w : World) (h : BF b (iBx.node r s bl br) w) :
  Calls Tryd.prog 51 #[.pointer (some ⟨b, 0, none⟩), .agg #[.int .i64 pn, .int .i64 x, .int .i64 y, .int .i64 W, .int .i64 H]] w fun e w' => e = .returned (.tuple #[.agg (cutL r s pn x y W H), .agg (cutR r s pn x y W H)]) ∧ Below w.heap.size w w' := by
 have hblt := h.lt
 have c1 : w.cell? ⟨b, 1, none⟩ = some (.bool r) := h.S 1
 have c2 : w.cell? ⟨b, 2, none⟩ = some (.int .i64 s) := h.S 2
 have g : ∀ (o1 o2 o3 : Obj) (k : Nat), (((w.alloc o1).alloc o2).alloc o3).cell? ⟨b, k, none⟩ = w.cell? ⟨b, k, none⟩ := fun o1 o2 o3 k => (Go.Joins.below_alloc3 w o1 o2 o3).cell (p := ⟨b, k, none⟩) hblt
 have d1 : ∀ (o1 o2 o3 : Obj), (((w.alloc o1).alloc o2).alloc o3).drew.cell? ⟨b, 1, none⟩ = some (.bool r) := fun o1 o2 o3 => (g o1 o2 o3 1).trans c1
 have d2 : ∀ (o1 o2 o3 : Obj), (((w.alloc o1).alloc o2).alloc o3).drew.cell? ⟨b, 2, none⟩ = some (.int .i64 s) := fun o1 o2 o3 => (g o1 o2 o3 2).trans c2
 have d3 : ∀ (o1 o2 o3 : Obj), (((w.alloc o1).alloc o2).alloc o3).drew.drew.cell? ⟨b, 2, none⟩ = some (.int .i64 s) := fun o1 o2 o3 => (g o1 o2 o3 2).trans c2
 have d4 : ∀ (o1 o2 o3 : Obj), (((w.alloc o1).alloc o2).alloc o3).drew.drew.drew.cell? ⟨b, 2, none⟩ = some (.int .i64 s) := fun o1 o2 o3 => (g o1 o2 o3 2).trans c2
 clear g c1 c2 h
 have ex : IntKind.i64.wrap (x + s) = x + s := wrapi _ (by omega) (by omega)
 have ey : IntKind.i64.wrap (y + s) = y + s := wrapi _ (by omega) (by omega)
 have eW : IntKind.i64.wrap (W - s) = W - s := wrapi _ (by omega) (by omega)
 have eH : IntKind.i64.wrap (H - s) = H - s := wrapi _ (by omega) (by omega)
 cases r
 ·go_enter Tryd.func51, Tryd.ntmps51
  go_wp2_with fail
  go_region
  all_goals
   go_wp2_with fail
  go_region
  all_goals
   go_wp2_with fail
  go_region
  all_goals
   go_wp2_with fail
  go_region
  all_goals
   go_wp2_with fail
  refine bodyPost_ret (v := .tuple #[.agg (cutL false s pn x y W H), .agg (cutR false s pn x y W H)]) (by simp [results, Tryd.results51, go_sem, cutL, cutR]) rfl ⟨rfl, ?_⟩
  exact (Go.Joins.below_alloc3 w _ _ _).drew.drew.drew.drew
 ·go_enter Tryd.func51, Tryd.ntmps51
  go_wp2_with fail
  go_region
  all_goals
   go_wp2_with fail
  go_region
  all_goals
   go_wp2_with fail
  go_region
  all_goals
   go_wp2_with fail
  go_region
  all_goals
   go_wp2_with fail
  refine bodyPost_ret (v := .tuple #[.agg (cutL true s pn x y W H), .agg (cutR true s pn x y W H)]) (by simp [results, Tryd.results51, go_sem, cutL, cutR]) rfl ⟨rfl, ?_⟩
  exact (Go.Joins.below_alloc3 w _ _ _).drew.drew.drew.drew
end Go.Proofs.YtgnecacoehedkaaDoor
