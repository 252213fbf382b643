/- ScreenBytes: what the specification answers. Written by tools/bytsw.py. -/
import Derived.Test.YtokfmcajikmhmaaBytM
import Derived.Test.YtokfmcajikmhmaaNumbersS
import Derived.Test.YtokfmcajikmhmaaFieldsS
import Derived.Test.YtokfmcajikmhmaaRowS
namespace Go.Proofs.Ytokfmcajikmhmaa
open Go.ChangeShapes Go.WideShapes Go.ChangeAt Go.RowKit
set_option linter.unusedVariables false
/-- What stands while a screen's own block is read. -/
structure RB (w : World) (cs : Array Value) (wA : World) : Prop where
  S : ∀ o, wA.cell? ⟨w.heap.size, o, none⟩ = cs[o]?
  blw : Below w.heap.size w wA
  lt : w.heap.size < wA.heap.size
theorem RB.below {w : World} {cs : Array Value} {wA w' : World} (h : RB w cs wA) (hb : Below wA.heap.size wA w') : RB w cs w' :=
  ⟨fun o => (hb.cell (p := ⟨w.heap.size, o, none⟩) h.lt).trans (h.S o), h.blw.trans (hb.mono h.blw.size), Nat.lt_of_lt_of_le h.lt hb.size⟩
theorem RB.alloc {w : World} {cs : Array Value} {wA : World} (h : RB w cs wA) (o : Obj) : RB w cs (wA.alloc o) := h.below ((Below.refl _ _).alloc (Nat.le_refl _) o)
theorem RB.drew {w : World} {cs : Array Value} {wA : World} (h : RB w cs wA) : RB w cs wA.drew := h.below (Below.refl _ _).drew
theorem RB.grown {w : World} {cs : Array Value} {wA w' : World} {own : Option Nat} (h : RB w cs wA) (hg : wA.grownBy w' own) (hne : ∀ j, own = some j → w.heap.size < j) : RB w cs w' :=
  ⟨fun o => (World.cell?_of_block (hg.block w.heap.size h.lt (fun e => by have := hne _ e.symm; omega))).trans (h.S o), h.blw.grown hg h.blw.size (fun j hj => Nat.le_of_lt (hne j hj)), Nat.lt_of_lt_of_le h.lt hg.size⟩
theorem RB.start (w : World) (cs : Array Value) (ty : TypeId) : RB w cs (w.alloc (.cells cs ty)) :=
  ⟨fun o => World.cell?_alloc_mark w _ _ _ o, (Below.refl w.heap.size w).alloc (Nat.le_refl _) _, by simp⟩
set_option maxHeartbeats 4000000 in
set_option maxRecDepth 100000 in
theorem sbytes (W H : Nat) (i2 i3 i4 i5 i6 i7 i8 : Int) (t : ByteArray) (a : Option Addr) (cap : Nat) (l : List (Int × Int)) (b : Option Addr) (capb : Nat) (m : List ByteArray) (hl : l.length ≤ 1048576) (hcap : l.length ≤ cap) (h : okB (W : Int) (H : Int) i2 i3 i4 i5 i6 i7 i8 t.data.toList l m = true) (w : World) (hr : RowV w a (cP l)) (hs : RowV w b (cS m)) :
    Calls Try.prog 16 #[.agg #[.int .i64 (W : Int), .int .i64 (H : Int), .int .i64 i2, .int .i64 i3, .int .i64 i4, .int .i64 i5, .int .i64 i6, .int .i64 i7, .int .i64 i8, .string t, .slice a l.length cap, .slice b m.length capb]] w fun e w' => e = .returned (.string ⟨(sbL [(W : Int), (H : Int), i2, i3, i4, i5, i6, i7, i8] t m W l H).toArray⟩) ∧ Below w.heap.size w w' := by
  have HL := hide hl
  have HR := hide hr
  have HS := hide hs
  clear hl hr hs
  obtain ⟨W', H', e0, e1, w1, w2, h3, h4, hlen, hcell⟩ := ok_parts h
  obtain ⟨hfit, ht40, hm6, hms⟩ := ok_more h
  have e0' : W' = W := by omega
  have e1' : H' = H := by omega
  subst e0' e1'
  have ht2 : t.size ≤ 40 := by rw [← text_len]; exact ht40
  have HM6 := hide hm6
  have HSH : Hid (allShort m) := short_of hms (by decide)
  have HSU : Hid (¬ 65536 < fsum m) := fsum_of hms hm6 (by decide)
  obtain ⟨ns, ens⟩ : ∃ ns, ns = [(W' : Int), (H' : Int), i2, i3, i4, i5, i6, i7, i8] := ⟨_, rfl⟩
  have nsl : ns.length = 9 := by rw [ens]; rfl
  have HFIT : Hid (allFit ns) := by show allFit ns; rw [ens]; exact hfit
  have hsz := sbF_sizes ns t m W' l H' (by omega) ht2 hm6 hms w2
  have HSF : Hid (allShort (sbF ns t m W' l H')) := short_of hsz (by decide)
  have HSV : Hid (¬ 65536 < fsum (sbF ns t m W' l H')) := fsum_of (n := 13) hsz (by rw [sbF_len]; omega) (by decide)
  rw [← ens]
  have hpos : 0 < (cP l).length := by rw [cP_len, hlen]; have : 0 < W' * H' := Nat.mul_pos (by omega) (by omega); omega
  obtain ⟨b1, off, ha, hblt, hcr⟩ := (unhide HR).at hpos
  have HRC : Hid (∀ (w2 : World) (Y : Nat), Y < H' → Below w.heap.size w w2 → Calls Try.prog 32 #[.agg #[.int .i64 (W' : Int), .int .i64 (H' : Int), .int .i64 i2, .int .i64 i3, .int .i64 i4, .int .i64 i5, .int .i64 i6, .int .i64 i7, .int .i64 i8, .string t, .slice a l.length cap, .slice b m.length capb], .int .i64 (Y : Int)] w2 fun e w' => e = .returned (.string ⟨(rowB ((l.drop (Y * W')).take W')).toArray⟩) ∧ Below w2.heap.size w2 w') := fun w2 Y hY hb2 => by
    have hYH : Y * W' + W' ≤ W' * H' := by
      have : (Y + 1) * W' ≤ H' * W' := Nat.mul_le_mul_right W' (by omega)
      rw [Nat.add_mul, Nat.one_mul, Nat.mul_comm H' W'] at this; exact this
    rw [ha]
    exact scells W' H' Y (Y * W') b1 off l.length cap i2 i3 i4 i5 i6 i7 i8 t (.slice b m.length capb) rfl l rfl rfl ⟨by omega, by omega⟩ (by omega) hcap (unhide HL) hcell w2 (Nat.lt_of_lt_of_le hblt hb2.size) (fun i u hu => (hb2.cell (p := ⟨b1, off + i, none⟩) hblt).trans (hcr i u hu))
  have ens2 : cI ns = [.int .i64 (W' : Int), .int .i64 (H' : Int), .int .i64 i2, .int .i64 i3, .int .i64 i4, .int .i64 i5, .int .i64 i6, .int .i64 i7, .int .i64 i8] := by rw [ens]; rfl
  have HENS := hide ens2
  have HNSL := hide nsl
  obtain ⟨N1, hN1⟩ : ∃ N, N = (⟨(numsL ns).toArray⟩ : ByteArray) := ⟨_, rfl⟩
  obtain ⟨F4, hF4⟩ : ∃ F, F = be m.length 1 ++ fieldsL m := ⟨_, rfl⟩
  obtain ⟨N2, hN2⟩ : ∃ N, N = (⟨F4.toArray⟩ : ByteArray) := ⟨_, rfl⟩
  have H3 : Hid (head3 ns t m = [N1, t, N2]) := by show _ = _; unfold head3; rw [hN1, hN2, hF4]
  have HN1 := hide hN1
  have HN2 := hide hN2
  have HF4 := hide hF4
  obtain ⟨i0', hi, hz0, hz1, hz2⟩ := info_parts Try.infL9
  have R0 := hide ((RB.start w #[.int .i64 (W' : Int), .int .i64 (H' : Int), .int .i64 i2, .int .i64 i3, .int .i64 i4, .int .i64 i5, .int .i64 i6, .int .i64 i7, .int .i64 i8, .string t, .slice a l.length cap, .slice b m.length capb] 32).drew)
  clear ens ens2 nsl hfit ht40 hms hsz hpos hcr ha hlen hcell hN1 hN2 hF4 h hm6 ht2 hcap e0 e1
  go_enter Try.func16, Try.ntmps16
  go_wp2_with fail
  refine wp_region_held_drew (S := (fun w' => ∀ o, w'.cell? ⟨w.heap.size, o, none⟩ = (#[.int .i64 (W' : Int), .int .i64 (H' : Int), .int .i64 i2, .int .i64 i3, .int .i64 i4, .int .i64 i5, .int .i64 i6, .int .i64 i7, .int .i64 i8, .string t, .slice a l.length cap, .slice b m.length capb] : Array Value)[o]?)) (by kernel_rfl) (by (try dsimp only); with_reducible exact (unhide R0).S) (fun hHeld => ?_)
  refine wpAnyH_take (i := 0) (oi := { dst := some 5, op := .fieldAddr 32 (.tmp 1) 0, type := 0, pos := "l04_screen.go:361", after := #[], guard := none }) (v := ?_) rfl (by kernel_rfl) (by kernel_rfl) (by kernel_rfl) (fun _ _ _ h => h) (Or.inl ⟨by rfl, ?_⟩) (by assumption) ?_
  rotate_left 1
  · (intro w' hSw; (try dsimp only at hSw); go_simp; try with_reducible rfl)
  try simp only [Act.put, List.setIfInBounds_toArray, List.set_cons_zero, List.set_cons_succ]
  refine wpAnyH_take (i := 1) (oi := { dst := some 6, op := .load 3 (.tmp 5), type := 3, pos := "l04_screen.go:361", after := #[{ on := 0, ground := .data }], guard := none }) (v := ?_) rfl (by kernel_rfl) (by kernel_rfl) (by kernel_rfl) (fun _ _ _ h => h) (Or.inl ⟨by rfl, ?_⟩) (by assumption) ?_
  rotate_left 1
  · (intro w' hSw; (try dsimp only at hSw); go_simp; try with_reducible rfl)
  try simp only [Act.put, List.setIfInBounds_toArray, List.set_cons_zero, List.set_cons_succ]
  refine wpAnyH_take (i := 2) (oi := { dst := some 7, op := .fieldAddr 32 (.tmp 1) 1, type := 0, pos := "l04_screen.go:361", after := #[], guard := none }) (v := ?_) rfl (by kernel_rfl) (by kernel_rfl) (by kernel_rfl) (fun _ _ _ h => h) (Or.inl ⟨by rfl, ?_⟩) (by assumption) ?_
  rotate_left 1
  · (intro w' hSw; (try dsimp only at hSw); go_simp; try with_reducible rfl)
  try simp only [Act.put, List.setIfInBounds_toArray, List.set_cons_zero, List.set_cons_succ]
  refine wpAnyH_take (i := 3) (oi := { dst := some 8, op := .load 3 (.tmp 7), type := 3, pos := "l04_screen.go:361", after := #[{ on := 2, ground := .data }], guard := none }) (v := ?_) rfl (by kernel_rfl) (by kernel_rfl) (by kernel_rfl) (fun _ _ _ h => h) (Or.inl ⟨by rfl, ?_⟩) (by assumption) ?_
  rotate_left 1
  · (intro w' hSw; (try dsimp only at hSw); go_simp; try with_reducible rfl)
  try simp only [Act.put, List.setIfInBounds_toArray, List.set_cons_zero, List.set_cons_succ]
  refine wpAnyH_take (i := 4) (oi := { dst := some 9, op := .fieldAddr 32 (.tmp 1) 2, type := 0, pos := "l04_screen.go:361", after := #[], guard := none }) (v := ?_) rfl (by kernel_rfl) (by kernel_rfl) (by kernel_rfl) (fun _ _ _ h => h) (Or.inl ⟨by rfl, ?_⟩) (by assumption) ?_
  rotate_left 1
  · (intro w' hSw; (try dsimp only at hSw); go_simp; try with_reducible rfl)
  try simp only [Act.put, List.setIfInBounds_toArray, List.set_cons_zero, List.set_cons_succ]
  refine wpAnyH_take (i := 5) (oi := { dst := some 10, op := .load 3 (.tmp 9), type := 3, pos := "l04_screen.go:361", after := #[{ on := 4, ground := .data }], guard := none }) (v := ?_) rfl (by kernel_rfl) (by kernel_rfl) (by kernel_rfl) (fun _ _ _ h => h) (Or.inl ⟨by rfl, ?_⟩) (by assumption) ?_
  rotate_left 1
  · (intro w' hSw; (try dsimp only at hSw); go_simp; try with_reducible rfl)
  try simp only [Act.put, List.setIfInBounds_toArray, List.set_cons_zero, List.set_cons_succ]
  refine wpAnyH_take (i := 6) (oi := { dst := some 11, op := .fieldAddr 32 (.tmp 1) 3, type := 0, pos := "l04_screen.go:361", after := #[], guard := none }) (v := ?_) rfl (by kernel_rfl) (by kernel_rfl) (by kernel_rfl) (fun _ _ _ h => h) (Or.inl ⟨by rfl, ?_⟩) (by assumption) ?_
  rotate_left 1
  · (intro w' hSw; (try dsimp only at hSw); go_simp; try with_reducible rfl)
  try simp only [Act.put, List.setIfInBounds_toArray, List.set_cons_zero, List.set_cons_succ]
  refine wpAnyH_take (i := 7) (oi := { dst := some 12, op := .load 3 (.tmp 11), type := 3, pos := "l04_screen.go:361", after := #[{ on := 6, ground := .data }], guard := none }) (v := ?_) rfl (by kernel_rfl) (by kernel_rfl) (by kernel_rfl) (fun _ _ _ h => h) (Or.inl ⟨by rfl, ?_⟩) (by assumption) ?_
  rotate_left 1
  · (intro w' hSw; (try dsimp only at hSw); go_simp; try with_reducible rfl)
  try simp only [Act.put, List.setIfInBounds_toArray, List.set_cons_zero, List.set_cons_succ]
  refine wpAnyH_take (i := 8) (oi := { dst := some 13, op := .fieldAddr 32 (.tmp 1) 4, type := 0, pos := "l04_screen.go:361", after := #[], guard := none }) (v := ?_) rfl (by kernel_rfl) (by kernel_rfl) (by kernel_rfl) (fun _ _ _ h => h) (Or.inl ⟨by rfl, ?_⟩) (by assumption) ?_
  rotate_left 1
  · (intro w' hSw; (try dsimp only at hSw); go_simp; try with_reducible rfl)
  try simp only [Act.put, List.setIfInBounds_toArray, List.set_cons_zero, List.set_cons_succ]
  refine wpAnyH_take (i := 9) (oi := { dst := some 14, op := .load 3 (.tmp 13), type := 3, pos := "l04_screen.go:361", after := #[{ on := 8, ground := .data }], guard := none }) (v := ?_) rfl (by kernel_rfl) (by kernel_rfl) (by kernel_rfl) (fun _ _ _ h => h) (Or.inl ⟨by rfl, ?_⟩) (by assumption) ?_
  rotate_left 1
  · (intro w' hSw; (try dsimp only at hSw); go_simp; try with_reducible rfl)
  try simp only [Act.put, List.setIfInBounds_toArray, List.set_cons_zero, List.set_cons_succ]
  refine wpAnyH_take (i := 10) (oi := { dst := some 15, op := .fieldAddr 32 (.tmp 1) 5, type := 0, pos := "l04_screen.go:361", after := #[], guard := none }) (v := ?_) rfl (by kernel_rfl) (by kernel_rfl) (by kernel_rfl) (fun _ _ _ h => h) (Or.inl ⟨by rfl, ?_⟩) (by assumption) ?_
  rotate_left 1
  · (intro w' hSw; (try dsimp only at hSw); go_simp; try with_reducible rfl)
  try simp only [Act.put, List.setIfInBounds_toArray, List.set_cons_zero, List.set_cons_succ]
  refine wpAnyH_take (i := 11) (oi := { dst := some 16, op := .load 3 (.tmp 15), type := 3, pos := "l04_screen.go:361", after := #[{ on := 10, ground := .data }], guard := none }) (v := ?_) rfl (by kernel_rfl) (by kernel_rfl) (by kernel_rfl) (fun _ _ _ h => h) (Or.inl ⟨by rfl, ?_⟩) (by assumption) ?_
  rotate_left 1
  · (intro w' hSw; (try dsimp only at hSw); go_simp; try with_reducible rfl)
  try simp only [Act.put, List.setIfInBounds_toArray, List.set_cons_zero, List.set_cons_succ]
  refine wpAnyH_take (i := 12) (oi := { dst := some 17, op := .fieldAddr 32 (.tmp 1) 6, type := 0, pos := "l04_screen.go:361", after := #[], guard := none }) (v := ?_) rfl (by kernel_rfl) (by kernel_rfl) (by kernel_rfl) (fun _ _ _ h => h) (Or.inl ⟨by rfl, ?_⟩) (by assumption) ?_
  rotate_left 1
  · (intro w' hSw; (try dsimp only at hSw); go_simp; try with_reducible rfl)
  try simp only [Act.put, List.setIfInBounds_toArray, List.set_cons_zero, List.set_cons_succ]
  refine wpAnyH_take (i := 13) (oi := { dst := some 18, op := .load 3 (.tmp 17), type := 3, pos := "l04_screen.go:361", after := #[{ on := 12, ground := .data }], guard := none }) (v := ?_) rfl (by kernel_rfl) (by kernel_rfl) (by kernel_rfl) (fun _ _ _ h => h) (Or.inl ⟨by rfl, ?_⟩) (by assumption) ?_
  rotate_left 1
  · (intro w' hSw; (try dsimp only at hSw); go_simp; try with_reducible rfl)
  try simp only [Act.put, List.setIfInBounds_toArray, List.set_cons_zero, List.set_cons_succ]
  refine wpAnyH_take (i := 14) (oi := { dst := some 19, op := .fieldAddr 32 (.tmp 1) 7, type := 0, pos := "l04_screen.go:361", after := #[], guard := none }) (v := ?_) rfl (by kernel_rfl) (by kernel_rfl) (by kernel_rfl) (fun _ _ _ h => h) (Or.inl ⟨by rfl, ?_⟩) (by assumption) ?_
  rotate_left 1
  · (intro w' hSw; (try dsimp only at hSw); go_simp; try with_reducible rfl)
  try simp only [Act.put, List.setIfInBounds_toArray, List.set_cons_zero, List.set_cons_succ]
  refine wpAnyH_take (i := 15) (oi := { dst := some 20, op := .load 3 (.tmp 19), type := 3, pos := "l04_screen.go:361", after := #[{ on := 14, ground := .data }], guard := none }) (v := ?_) rfl (by kernel_rfl) (by kernel_rfl) (by kernel_rfl) (fun _ _ _ h => h) (Or.inl ⟨by rfl, ?_⟩) (by assumption) ?_
  rotate_left 1
  · (intro w' hSw; (try dsimp only at hSw); go_simp; try with_reducible rfl)
  try simp only [Act.put, List.setIfInBounds_toArray, List.set_cons_zero, List.set_cons_succ]
  refine wpAnyH_take (i := 16) (oi := { dst := some 21, op := .fieldAddr 32 (.tmp 1) 8, type := 0, pos := "l04_screen.go:361", after := #[], guard := none }) (v := ?_) rfl (by kernel_rfl) (by kernel_rfl) (by kernel_rfl) (fun _ _ _ h => h) (Or.inl ⟨by rfl, ?_⟩) (by assumption) ?_
  rotate_left 1
  · (intro w' hSw; (try dsimp only at hSw); go_simp; try with_reducible rfl)
  try simp only [Act.put, List.setIfInBounds_toArray, List.set_cons_zero, List.set_cons_succ]
  refine wpAnyH_take (i := 17) (oi := { dst := some 22, op := .load 3 (.tmp 21), type := 3, pos := "l04_screen.go:361", after := #[{ on := 16, ground := .data }], guard := none }) (v := ?_) rfl (by kernel_rfl) (by kernel_rfl) (by kernel_rfl) (fun _ _ _ h => h) (Or.inl ⟨by rfl, ?_⟩) (by assumption) ?_
  rotate_left 1
  · (intro w' hSw; (try dsimp only at hSw); go_simp; try with_reducible rfl)
  try simp only [Act.put, List.setIfInBounds_toArray, List.set_cons_zero, List.set_cons_succ]
  refine wpAnyH_take (i := 21) (oi := { dst := some 26, op := .fieldAddr 32 (.tmp 1) 9, type := 0, pos := "l04_screen.go:361", after := #[], guard := none }) (v := ?_) rfl (by kernel_rfl) (by kernel_rfl) (by kernel_rfl) (fun _ _ _ h => h) (Or.inl ⟨by rfl, ?_⟩) (by assumption) ?_
  rotate_left 1
  · (intro w' hSw; (try dsimp only at hSw); go_simp; try with_reducible rfl)
  try simp only [Act.put, List.setIfInBounds_toArray, List.set_cons_zero, List.set_cons_succ]
  refine wpAnyH_take (i := 22) (oi := { dst := some 27, op := .load 9 (.tmp 26), type := 9, pos := "l04_screen.go:361", after := #[{ on := 21, ground := .data }], guard := none }) (v := ?_) rfl (by kernel_rfl) (by kernel_rfl) (by kernel_rfl) (fun _ _ _ h => h) (Or.inl ⟨by rfl, ?_⟩) (by assumption) ?_
  rotate_left 1
  · (intro w' hSw; (try dsimp only at hSw); go_simp; try with_reducible rfl)
  try simp only [Act.put, List.setIfInBounds_toArray, List.set_cons_zero, List.set_cons_succ]
  refine wpAnyH_take (i := 23) (oi := { dst := some 28, op := .fieldAddr 32 (.tmp 1) 11, type := 0, pos := "l04_screen.go:361", after := #[], guard := none }) (v := ?_) rfl (by kernel_rfl) (by kernel_rfl) (by kernel_rfl) (fun _ _ _ h => h) (Or.inl ⟨by rfl, ?_⟩) (by assumption) ?_
  rotate_left 1
  · (intro w' hSw; (try dsimp only at hSw); go_simp; try with_reducible rfl)
  try simp only [Act.put, List.setIfInBounds_toArray, List.set_cons_zero, List.set_cons_succ]
  refine wpAnyH_take (i := 24) (oi := { dst := some 29, op := .load 23 (.tmp 28), type := 23, pos := "l04_screen.go:361", after := #[{ on := 23, ground := .data }], guard := none }) (v := ?_) rfl (by kernel_rfl) (by kernel_rfl) (by kernel_rfl) (fun _ _ _ h => h) (Or.inl ⟨by rfl, ?_⟩) (by assumption) ?_
  rotate_left 1
  · (intro w' hSw; (try dsimp only at hSw); go_simp; try with_reducible rfl)
  try simp only [Act.put, List.setIfInBounds_toArray, List.set_cons_zero, List.set_cons_succ]
  refine wpAnyH_ready (rs := [18]) (by kernel_rfl) (by simp) ?_
  refine AllReadyH.cons (o := { dst := some 23, op := .buildSlice 46 9 #[(0, .tmp 6), (1, .tmp 8), (2, .tmp 10), (3, .tmp 12), (4, .tmp 14), (5, .tmp 16), (6, .tmp 18), (7, .tmp 20), (8, .tmp 22)], type := 46, pos := "l04_screen.go:361", after := #[{ on := 1, ground := .data }, { on := 3, ground := .data }, { on := 5, ground := .data }, { on := 7, ground := .data }, { on := 9, ground := .data }, { on := 11, ground := .data }, { on := 13, ground := .data }, { on := 15, ground := .data }, { on := 17, ground := .data }], guard := none }) rfl (fun K hK => ?_) (AllReadyH.nil)
  go_simp
  have R18 := hide ((unhide R0).alloc (.cells #[.int .i64 (W' : Int), .int .i64 (H' : Int), .int .i64 i2, .int .i64 i3, .int .i64 i4, .int .i64 i5, .int .i64 i6, .int .i64 i7, .int .i64 i8] 3))
  refine hK.out _ _ ?_ (fun hHeld18 => ?_)
  · (try dsimp only); first | with_reducible exact (unhide R18).S | exact (unhide R18).S
  clear hK K
  try simp only [Act.put, List.setIfInBounds_toArray, List.set_cons_zero, List.set_cons_succ]
  refine wpAnyH_ready (rs := [19]) (by kernel_rfl) (by simp) ?_
  refine AllReadyH.cons (o := { dst := some 24, op := .call { callee := .value (.func 30), args := #[.tmp 23], argTypes := #[46] }, type := 27, pos := "l04_screen.go:361", after := #[{ on := 18, ground := .data }], guard := none }) rfl (fun K hK => ?_) (AllReadyH.nil)
  go_simp
  have T := snums (some ⟨w.heap.size + 1, 0, none⟩) 9 ns (by rw [unhide HNSL]; decide) (unhide HFIT) ((w.alloc (.cells #[.int .i64 (W' : Int), .int .i64 (H' : Int), .int .i64 i2, .int .i64 i3, .int .i64 i4, .int .i64 i5, .int .i64 i6, .int .i64 i7, .int .i64 i8, .string t, .slice a l.length cap, .slice b m.length capb] 32)).drew.alloc (.cells (cI ns).toArray 3)) (.inr ⟨w.heap.size + 1, 0, rfl, by simp, fun i u hu => by rw [Nat.zero_add]; have h := news_new (w.alloc (.cells #[.int .i64 (W' : Int), .int .i64 (H' : Int), .int .i64 i2, .int .i64 i3, .int .i64 i4, .int .i64 i5, .int .i64 i6, .int .i64 i7, .int .i64 i8, .string t, .slice a l.length cap, .slice b m.length capb] 32)).drew (cI ns) 3 i u hu; rw [show (w.alloc (.cells #[.int .i64 (W' : Int), .int .i64 (H' : Int), .int .i64 i2, .int .i64 i3, .int .i64 i4, .int .i64 i5, .int .i64 i6, .int .i64 i7, .int .i64 i8, .string t, .slice a l.length cap, .slice b m.length capb] 32)).drew.heap.size = w.heap.size + 1 from by simp] at h; rw [show (⟨w.heap.size + 1, 0, none⟩ : Addr).add i = ⟨w.heap.size + 1, 0 + i, none⟩ from by unfold Addr.add; split <;> simp_all, Nat.zero_add] at h; exact h⟩)
  rw [unhide HNSL, unhide HENS] at T
  refine T.mono ?_
  clear T
  rintro e w3 ⟨v3, rfl, ho3, hb3⟩
  obtain ⟨a3, c3, rfl, -⟩ := own_rowV ho3
  have R3 := hide ((unhide R18).below hb3)
  have HO3 := hide ho3
  clear ho3 hb3
  go_wp2_with fail
  refine hK.out _ _ ?_ (fun hHeld19 => ?_)
  · (try dsimp only); first | with_reducible exact (unhide R3).S | exact (unhide R3).S
  clear hK K
  try simp only [Act.put, List.setIfInBounds_toArray, List.set_cons_zero, List.set_cons_succ]
  clear R0 R18
  refine wpAnyH_ready (rs := [20, 25]) (by kernel_rfl) (by simp) ?_
  refine AllReadyH.cons (o := { dst := some 25, op := .convert 27 9 (.tmp 24), type := 9, pos := "l04_screen.go:361", after := #[{ on := 19, ground := .data }], guard := none }) rfl (fun K hK => ?_) (AllReadyH.cons (o := { dst := some 30, op := .call { callee := .value (.func 31), args := #[.tmp 29], argTypes := #[23] }, type := 27, pos := "l04_screen.go:361", after := #[{ on := 24, ground := .data }, { on := 19, ground := .chain }], guard := none }) rfl (fun K hK => ?_) (AllReadyH.nil))
  · have hcv := conv_own (P := Try.prog) Try.underlying27 Try.underlying5 Try.underlying9 (unhide HO3)
    rw [← unhide HN1] at hcv
    go_simp
    clear hcv
    refine hK.out _ _ ?_ (fun hHeld20 => ?_)
    · (try dsimp only); first | with_reducible exact (unhide R3).S | exact (unhide R3).S
    clear hK K
    try simp only [Act.put, List.setIfInBounds_toArray, List.set_cons_zero, List.set_cons_succ]
    refine wpAnyH_ready (rs := [25]) (by kernel_rfl) (by simp) ?_
    refine AllReadyH.cons (o := { dst := some 30, op := .call { callee := .value (.func 31), args := #[.tmp 29], argTypes := #[23] }, type := 27, pos := "l04_screen.go:361", after := #[{ on := 24, ground := .data }, { on := 19, ground := .chain }], guard := none }) rfl (fun K hK => ?_) (AllReadyH.nil)
    go_simp
    have T := sfields24 b capb m (Nat.le_trans (unhide HM6) (by decide)) (unhide HSH) (unhide HSU) w3 ((unhide HS).below (unhide R3).blw)
    rw [← unhide HF4] at T
    refine T.mono ?_
    clear T
    rintro e w4 ⟨v4, rfl, ho4, hb4⟩
    obtain ⟨a4, c4, rfl, -⟩ := own_rowV ho4
    have R4 := hide ((unhide R3).below hb4)
    have HO34 := hide ((held_of (unhide HO3)).below hb4 (Nat.le_refl _)).own
    have HO4 := hide ho4
    clear ho4 hb4
    go_wp2_with fail
    refine hK.out _ _ ?_ (fun hHeld25 => ?_)
    · (try dsimp only); first | with_reducible exact (unhide R4).S | exact (unhide R4).S
    clear hK K
    try simp only [Act.put, List.setIfInBounds_toArray, List.set_cons_zero, List.set_cons_succ]
    refine wpAnyH_ready (rs := [26]) (by kernel_rfl) (by simp) ?_
    refine AllReadyH.cons (o := { dst := some 31, op := .convert 27 9 (.tmp 30), type := 9, pos := "l04_screen.go:361", after := #[{ on := 25, ground := .data }], guard := none }) rfl (fun K hK => ?_) (AllReadyH.nil)
    have hcv := conv_own (P := Try.prog) Try.underlying27 Try.underlying5 Try.underlying9 (unhide HO4)
    rw [← unhide HN2] at hcv
    go_simp
    clear hcv
    refine hK.out _ _ ?_ (fun hHeld26 => ?_)
    · (try dsimp only); first | with_reducible exact (unhide R4).S | exact (unhide R4).S
    clear hK K
    try simp only [Act.put, List.setIfInBounds_toArray, List.set_cons_zero, List.set_cons_succ]
    refine wpAnyH_ready (rs := [27]) (by kernel_rfl) (by simp) ?_
    refine AllReadyH.cons (o := { dst := some 32, op := .buildSlice 23 3 #[(0, .tmp 25), (1, .tmp 27), (2, .tmp 31)], type := 23, pos := "l04_screen.go:361", after := #[{ on := 20, ground := .data }, { on := 22, ground := .data }, { on := 26, ground := .data }], guard := none }) rfl (fun K hK => ?_) (AllReadyH.nil)
    go_simp
    have R5 := hide ((unhide R4).alloc (.cells #[.string N1, .string t, .string N2] 9))
    refine hK.out _ _ ?_ (fun hHeld27 => ?_)
    · (try dsimp only); first | with_reducible exact (unhide R5).S | exact (unhide R5).S
    clear hK K
    try simp only [Act.put, List.setIfInBounds_toArray, List.set_cons_zero, List.set_cons_succ]
    refine wpAnyH_take (i := 28) (oi := { dst := some 3, op := .assign (.tmp 32), type := 23, pos := "l04_screen.go:361", after := #[{ on := 27, ground := .data }, { on := 25, ground := .chain }, { on := 0, ground := .phase }, { on := 1, ground := .phase }, { on := 2, ground := .phase }, { on := 3, ground := .phase }, { on := 4, ground := .phase }, { on := 5, ground := .phase }, { on := 6, ground := .phase }, { on := 7, ground := .phase }, { on := 8, ground := .phase }, { on := 9, ground := .phase }, { on := 10, ground := .phase }, { on := 11, ground := .phase }, { on := 12, ground := .phase }, { on := 13, ground := .phase }, { on := 14, ground := .phase }, { on := 15, ground := .phase }, { on := 16, ground := .phase }, { on := 17, ground := .phase }, { on := 18, ground := .phase }, { on := 19, ground := .phase }, { on := 20, ground := .phase }, { on := 21, ground := .phase }, { on := 22, ground := .phase }, { on := 23, ground := .phase }, { on := 24, ground := .phase }, { on := 25, ground := .phase }, { on := 26, ground := .phase }, { on := 27, ground := .phase }], guard := none }) (v := ?_) rfl (by kernel_rfl) (by kernel_rfl) (by kernel_rfl) (fun _ _ _ h => h) (Or.inl ⟨by rfl, ?_⟩) (by assumption) ?_
    rotate_left 1
    · (intro w' hSw; (try dsimp only at hSw); go_simp; try with_reducible rfl)
    try simp only [Act.put, List.setIfInBounds_toArray, List.set_cons_zero, List.set_cons_succ]
    refine wpAnyH_done (by kernel_rfl) ?_ _
    clear HO3 HO34 HO4 R3
    go_wp2_with fail
    go_loopw [3, 4] (fun v i wr => ∃ k : Nat, k ≤ H' ∧ i = .int .i64 k ∧ Hid (wr.ownsRow (w.heap.size + 1) 9 1 v (3 + k) (cS (sbF ns t m W' l k))) ∧ Hid (RB w #[.int .i64 (W' : Int), .int .i64 (H' : Int), .int .i64 i2, .int .i64 i3, .int .i64 i4, .int .i64 i5, .int .i64 i6, .int .i64 i7, .int .i64 i8, .string t, .slice a l.length cap, .slice b m.length capb] wr)) (fun _ i _ => H' - (intOf i).toNat)
    case atStart =>
      refine ⟨0, by omega, rfl, ?_, R5⟩
      show World.ownsRow _ _ _ _ _ _ _
      have e : sbF ns t m W' l 0 = [N1, t, N2] := by unfold sbF; rw [unhide H3]; rfl
      rw [e]
      exact World.ownsRow_lit (e := 9) (base := w.heap.size + 1) (size := 1) w4 #[.string N1, .string t, .string N2] 3 (unhide R4).lt (by unfold maxLen; omega) rfl
    case round =>
      clear R4 R5
      obtain ⟨k, hk, rfl, HO, HK⟩ := hrel
      have K5 := (unhide HK).S
      by_cases hlt : k < H'
      · have hlt' : (k : Int) < (H' : Int) := by omega
        have HN : Hid (cS (sbF ns t m W' l (k + 1)) = cS (sbF ns t m W' l k) ++ [.string ⟨(rowB ((l.drop (k * W')).take W')).toArray⟩]) := by show _ = _; rw [sbF_snoc, cS_app]; rfl
        obtain ⟨X, hX⟩ : ∃ X, X = (⟨(rowB ((l.drop (k * W')).take W')).toArray⟩ : ByteArray) := ⟨_, rfl⟩
        have T := hide (unhide HRC wr k hlt (unhide HK).blw)
        rw [← hX] at HN T
        clear hX
        go_wp2_with (first
          | (go_at_call 32; refine (unhide T).mono ?_; rintro e w6 ⟨rfl, hb6⟩; have hown := ((held_of (unhide HO)).below hb6 (Nat.le_refl _)).own; have HK6 := hide ((unhide HK).below hb6); have hz6 := (unhide HK6).lt; clear hb6)
          | (at_builtin; refine wpList_append_lies _ rfl (.tmp 39) (.tmp 43) 23 rfl (w.heap.size + 1) 9 i0' (.string ⟨#[]⟩) 1 16 Try.underlying23 hi hz0 hz1 hz2 rfl (by decide) _ _ _ rfl (hown.alloc (.cells #[.string X] 9)) ⟨w6.heap.size, 0, none⟩ 1 1 [.string X] rfl rfl (by exact news_new w6 [.string X] 9) (by intro u hu; simp at hu; subst hu; rfl) (by decide) (by unfold maxLen; omega) (by omega) (by simp; omega) _ rfl ?_; intro g7 c7 w7 hown7 hgrow7 hat7 hlt7; have HO7 := hide hown7; have HK7 := hide (((unhide HK6).alloc (.cells #[.string X] 9)).grown hgrow7 (fun j hj => by have := (hown.lt j hj).1; omega)); clear hown7 hgrow7 hat7 hlt7))
        go_roundw
        case rel => exact ⟨k + 1, by omega, by go_num, by show World.ownsRow _ _ _ _ _ _ _; rw [unhide HN]; exact unhide HO7, HK7⟩
        case measure => simp [intOf]; omega
      · have ek : k = H' := by omega
        subst ek
        have hown := unhide HO
        obtain ⟨a8, c8, rfl, hr8⟩ := own_rowV hown
        have T := sfields24 a8 c8 (sbF ns t m W' l k) (by rw [sbF_len]; omega) (unhide HSF) (unhide HSV) wr hr8
        rw [sbF_len] at T
        obtain ⟨F8, hF8⟩ : ∃ F, F = be (3 + k) 1 ++ fieldsL (sbF ns t m W' l k) := ⟨_, rfl⟩
        rw [← hF8] at T
        have HF8 : Hid (sbL ns t m W' l k = F8) := by show _ = _; unfold sbL; exact hF8.symm
        have HT8 := hide T
        clear T hown hr8 hlt hF8
        go_wp2_with (go_at_call 31; refine (unhide HT8).mono ?_; rintro e w9 ⟨v9, rfl, ho9, hb9⟩; have hcv := conv_own (P := Try.prog) Try.underlying27 Try.underlying5 Try.underlying9 ho9; obtain ⟨a9, c9, rfl, -⟩ := own_rowV ho9; have HB9 := hide ((unhide HK).below hb9).blw; clear ho9 hb9)
        go_ret
        exact ⟨by rw [unhide HF8]; rfl, unhide HB9⟩
  · go_simp
    have T := sfields24 b capb m (Nat.le_trans (unhide HM6) (by decide)) (unhide HSH) (unhide HSU) w3 ((unhide HS).below (unhide R3).blw)
    rw [← unhide HF4] at T
    refine T.mono ?_
    clear T
    rintro e w4 ⟨v4, rfl, ho4, hb4⟩
    obtain ⟨a4, c4, rfl, -⟩ := own_rowV ho4
    have R4 := hide ((unhide R3).below hb4)
    have HO34 := hide ((held_of (unhide HO3)).below hb4 (Nat.le_refl _)).own
    have HO4 := hide ho4
    clear ho4 hb4
    go_wp2_with fail
    refine hK.out _ _ ?_ (fun hHeld25 => ?_)
    · (try dsimp only); first | with_reducible exact (unhide R4).S | exact (unhide R4).S
    clear hK K
    try simp only [Act.put, List.setIfInBounds_toArray, List.set_cons_zero, List.set_cons_succ]
    refine wpAnyH_ready (rs := [20, 26]) (by kernel_rfl) (by simp) ?_
    refine AllReadyH.cons (o := { dst := some 25, op := .convert 27 9 (.tmp 24), type := 9, pos := "l04_screen.go:361", after := #[{ on := 19, ground := .data }], guard := none }) rfl (fun K hK => ?_) (AllReadyH.cons (o := { dst := some 31, op := .convert 27 9 (.tmp 30), type := 9, pos := "l04_screen.go:361", after := #[{ on := 25, ground := .data }], guard := none }) rfl (fun K hK => ?_) (AllReadyH.nil))
    · have hcv := conv_own (P := Try.prog) Try.underlying27 Try.underlying5 Try.underlying9 (unhide HO34)
      rw [← unhide HN1] at hcv
      go_simp
      clear hcv
      refine hK.out _ _ ?_ (fun hHeld20 => ?_)
      · (try dsimp only); first | with_reducible exact (unhide R4).S | exact (unhide R4).S
      clear hK K
      try simp only [Act.put, List.setIfInBounds_toArray, List.set_cons_zero, List.set_cons_succ]
      refine wpAnyH_ready (rs := [26]) (by kernel_rfl) (by simp) ?_
      refine AllReadyH.cons (o := { dst := some 31, op := .convert 27 9 (.tmp 30), type := 9, pos := "l04_screen.go:361", after := #[{ on := 25, ground := .data }], guard := none }) rfl (fun K hK => ?_) (AllReadyH.nil)
      have hcv := conv_own (P := Try.prog) Try.underlying27 Try.underlying5 Try.underlying9 (unhide HO4)
      rw [← unhide HN2] at hcv
      go_simp
      clear hcv
      refine hK.out _ _ ?_ (fun hHeld26 => ?_)
      · (try dsimp only); first | with_reducible exact (unhide R4).S | exact (unhide R4).S
      clear hK K
      try simp only [Act.put, List.setIfInBounds_toArray, List.set_cons_zero, List.set_cons_succ]
      refine wpAnyH_ready (rs := [27]) (by kernel_rfl) (by simp) ?_
      refine AllReadyH.cons (o := { dst := some 32, op := .buildSlice 23 3 #[(0, .tmp 25), (1, .tmp 27), (2, .tmp 31)], type := 23, pos := "l04_screen.go:361", after := #[{ on := 20, ground := .data }, { on := 22, ground := .data }, { on := 26, ground := .data }], guard := none }) rfl (fun K hK => ?_) (AllReadyH.nil)
      go_simp
      have R5 := hide ((unhide R4).alloc (.cells #[.string N1, .string t, .string N2] 9))
      refine hK.out _ _ ?_ (fun hHeld27 => ?_)
      · (try dsimp only); first | with_reducible exact (unhide R5).S | exact (unhide R5).S
      clear hK K
      try simp only [Act.put, List.setIfInBounds_toArray, List.set_cons_zero, List.set_cons_succ]
      refine wpAnyH_take (i := 28) (oi := { dst := some 3, op := .assign (.tmp 32), type := 23, pos := "l04_screen.go:361", after := #[{ on := 27, ground := .data }, { on := 25, ground := .chain }, { on := 0, ground := .phase }, { on := 1, ground := .phase }, { on := 2, ground := .phase }, { on := 3, ground := .phase }, { on := 4, ground := .phase }, { on := 5, ground := .phase }, { on := 6, ground := .phase }, { on := 7, ground := .phase }, { on := 8, ground := .phase }, { on := 9, ground := .phase }, { on := 10, ground := .phase }, { on := 11, ground := .phase }, { on := 12, ground := .phase }, { on := 13, ground := .phase }, { on := 14, ground := .phase }, { on := 15, ground := .phase }, { on := 16, ground := .phase }, { on := 17, ground := .phase }, { on := 18, ground := .phase }, { on := 19, ground := .phase }, { on := 20, ground := .phase }, { on := 21, ground := .phase }, { on := 22, ground := .phase }, { on := 23, ground := .phase }, { on := 24, ground := .phase }, { on := 25, ground := .phase }, { on := 26, ground := .phase }, { on := 27, ground := .phase }], guard := none }) (v := ?_) rfl (by kernel_rfl) (by kernel_rfl) (by kernel_rfl) (fun _ _ _ h => h) (Or.inl ⟨by rfl, ?_⟩) (by assumption) ?_
      rotate_left 1
      · (intro w' hSw; (try dsimp only at hSw); go_simp; try with_reducible rfl)
      try simp only [Act.put, List.setIfInBounds_toArray, List.set_cons_zero, List.set_cons_succ]
      refine wpAnyH_done (by kernel_rfl) ?_ _
      clear HO3 HO34 HO4 R3
      go_wp2_with fail
      go_loopw [3, 4] (fun v i wr => ∃ k : Nat, k ≤ H' ∧ i = .int .i64 k ∧ Hid (wr.ownsRow (w.heap.size + 1) 9 1 v (3 + k) (cS (sbF ns t m W' l k))) ∧ Hid (RB w #[.int .i64 (W' : Int), .int .i64 (H' : Int), .int .i64 i2, .int .i64 i3, .int .i64 i4, .int .i64 i5, .int .i64 i6, .int .i64 i7, .int .i64 i8, .string t, .slice a l.length cap, .slice b m.length capb] wr)) (fun _ i _ => H' - (intOf i).toNat)
      case atStart =>
        refine ⟨0, by omega, rfl, ?_, R5⟩
        show World.ownsRow _ _ _ _ _ _ _
        have e : sbF ns t m W' l 0 = [N1, t, N2] := by unfold sbF; rw [unhide H3]; rfl
        rw [e]
        exact World.ownsRow_lit (e := 9) (base := w.heap.size + 1) (size := 1) w4 #[.string N1, .string t, .string N2] 3 (unhide R4).lt (by unfold maxLen; omega) rfl
      case round =>
        clear R4 R5
        obtain ⟨k, hk, rfl, HO, HK⟩ := hrel
        have K5 := (unhide HK).S
        by_cases hlt : k < H'
        · have hlt' : (k : Int) < (H' : Int) := by omega
          have HN : Hid (cS (sbF ns t m W' l (k + 1)) = cS (sbF ns t m W' l k) ++ [.string ⟨(rowB ((l.drop (k * W')).take W')).toArray⟩]) := by show _ = _; rw [sbF_snoc, cS_app]; rfl
          obtain ⟨X, hX⟩ : ∃ X, X = (⟨(rowB ((l.drop (k * W')).take W')).toArray⟩ : ByteArray) := ⟨_, rfl⟩
          have T := hide (unhide HRC wr k hlt (unhide HK).blw)
          rw [← hX] at HN T
          clear hX
          go_wp2_with (first
            | (go_at_call 32; refine (unhide T).mono ?_; rintro e w6 ⟨rfl, hb6⟩; have hown := ((held_of (unhide HO)).below hb6 (Nat.le_refl _)).own; have HK6 := hide ((unhide HK).below hb6); have hz6 := (unhide HK6).lt; clear hb6)
            | (at_builtin; refine wpList_append_lies _ rfl (.tmp 39) (.tmp 43) 23 rfl (w.heap.size + 1) 9 i0' (.string ⟨#[]⟩) 1 16 Try.underlying23 hi hz0 hz1 hz2 rfl (by decide) _ _ _ rfl (hown.alloc (.cells #[.string X] 9)) ⟨w6.heap.size, 0, none⟩ 1 1 [.string X] rfl rfl (by exact news_new w6 [.string X] 9) (by intro u hu; simp at hu; subst hu; rfl) (by decide) (by unfold maxLen; omega) (by omega) (by simp; omega) _ rfl ?_; intro g7 c7 w7 hown7 hgrow7 hat7 hlt7; have HO7 := hide hown7; have HK7 := hide (((unhide HK6).alloc (.cells #[.string X] 9)).grown hgrow7 (fun j hj => by have := (hown.lt j hj).1; omega)); clear hown7 hgrow7 hat7 hlt7))
          go_roundw
          case rel => exact ⟨k + 1, by omega, by go_num, by show World.ownsRow _ _ _ _ _ _ _; rw [unhide HN]; exact unhide HO7, HK7⟩
          case measure => simp [intOf]; omega
        · have ek : k = H' := by omega
          subst ek
          have hown := unhide HO
          obtain ⟨a8, c8, rfl, hr8⟩ := own_rowV hown
          have T := sfields24 a8 c8 (sbF ns t m W' l k) (by rw [sbF_len]; omega) (unhide HSF) (unhide HSV) wr hr8
          rw [sbF_len] at T
          obtain ⟨F8, hF8⟩ : ∃ F, F = be (3 + k) 1 ++ fieldsL (sbF ns t m W' l k) := ⟨_, rfl⟩
          rw [← hF8] at T
          have HF8 : Hid (sbL ns t m W' l k = F8) := by show _ = _; unfold sbL; exact hF8.symm
          have HT8 := hide T
          clear T hown hr8 hlt hF8
          go_wp2_with (go_at_call 31; refine (unhide HT8).mono ?_; rintro e w9 ⟨v9, rfl, ho9, hb9⟩; have hcv := conv_own (P := Try.prog) Try.underlying27 Try.underlying5 Try.underlying9 ho9; obtain ⟨a9, c9, rfl, -⟩ := own_rowV ho9; have HB9 := hide ((unhide HK).below hb9).blw; clear ho9 hb9)
          go_ret
          exact ⟨by rw [unhide HF8]; rfl, unhide HB9⟩
    · have hcv := conv_own (P := Try.prog) Try.underlying27 Try.underlying5 Try.underlying9 (unhide HO4)
      rw [← unhide HN2] at hcv
      go_simp
      clear hcv
      refine hK.out _ _ ?_ (fun hHeld26 => ?_)
      · (try dsimp only); first | with_reducible exact (unhide R4).S | exact (unhide R4).S
      clear hK K
      try simp only [Act.put, List.setIfInBounds_toArray, List.set_cons_zero, List.set_cons_succ]
      refine wpAnyH_ready (rs := [20]) (by kernel_rfl) (by simp) ?_
      refine AllReadyH.cons (o := { dst := some 25, op := .convert 27 9 (.tmp 24), type := 9, pos := "l04_screen.go:361", after := #[{ on := 19, ground := .data }], guard := none }) rfl (fun K hK => ?_) (AllReadyH.nil)
      have hcv := conv_own (P := Try.prog) Try.underlying27 Try.underlying5 Try.underlying9 (unhide HO34)
      rw [← unhide HN1] at hcv
      go_simp
      clear hcv
      refine hK.out _ _ ?_ (fun hHeld20 => ?_)
      · (try dsimp only); first | with_reducible exact (unhide R4).S | exact (unhide R4).S
      clear hK K
      try simp only [Act.put, List.setIfInBounds_toArray, List.set_cons_zero, List.set_cons_succ]
      refine wpAnyH_ready (rs := [27]) (by kernel_rfl) (by simp) ?_
      refine AllReadyH.cons (o := { dst := some 32, op := .buildSlice 23 3 #[(0, .tmp 25), (1, .tmp 27), (2, .tmp 31)], type := 23, pos := "l04_screen.go:361", after := #[{ on := 20, ground := .data }, { on := 22, ground := .data }, { on := 26, ground := .data }], guard := none }) rfl (fun K hK => ?_) (AllReadyH.nil)
      go_simp
      have R5 := hide ((unhide R4).alloc (.cells #[.string N1, .string t, .string N2] 9))
      refine hK.out _ _ ?_ (fun hHeld27 => ?_)
      · (try dsimp only); first | with_reducible exact (unhide R5).S | exact (unhide R5).S
      clear hK K
      try simp only [Act.put, List.setIfInBounds_toArray, List.set_cons_zero, List.set_cons_succ]
      refine wpAnyH_take (i := 28) (oi := { dst := some 3, op := .assign (.tmp 32), type := 23, pos := "l04_screen.go:361", after := #[{ on := 27, ground := .data }, { on := 25, ground := .chain }, { on := 0, ground := .phase }, { on := 1, ground := .phase }, { on := 2, ground := .phase }, { on := 3, ground := .phase }, { on := 4, ground := .phase }, { on := 5, ground := .phase }, { on := 6, ground := .phase }, { on := 7, ground := .phase }, { on := 8, ground := .phase }, { on := 9, ground := .phase }, { on := 10, ground := .phase }, { on := 11, ground := .phase }, { on := 12, ground := .phase }, { on := 13, ground := .phase }, { on := 14, ground := .phase }, { on := 15, ground := .phase }, { on := 16, ground := .phase }, { on := 17, ground := .phase }, { on := 18, ground := .phase }, { on := 19, ground := .phase }, { on := 20, ground := .phase }, { on := 21, ground := .phase }, { on := 22, ground := .phase }, { on := 23, ground := .phase }, { on := 24, ground := .phase }, { on := 25, ground := .phase }, { on := 26, ground := .phase }, { on := 27, ground := .phase }], guard := none }) (v := ?_) rfl (by kernel_rfl) (by kernel_rfl) (by kernel_rfl) (fun _ _ _ h => h) (Or.inl ⟨by rfl, ?_⟩) (by assumption) ?_
      rotate_left 1
      · (intro w' hSw; (try dsimp only at hSw); go_simp; try with_reducible rfl)
      try simp only [Act.put, List.setIfInBounds_toArray, List.set_cons_zero, List.set_cons_succ]
      refine wpAnyH_done (by kernel_rfl) ?_ _
      clear HO3 HO34 HO4 R3
      go_wp2_with fail
      go_loopw [3, 4] (fun v i wr => ∃ k : Nat, k ≤ H' ∧ i = .int .i64 k ∧ Hid (wr.ownsRow (w.heap.size + 1) 9 1 v (3 + k) (cS (sbF ns t m W' l k))) ∧ Hid (RB w #[.int .i64 (W' : Int), .int .i64 (H' : Int), .int .i64 i2, .int .i64 i3, .int .i64 i4, .int .i64 i5, .int .i64 i6, .int .i64 i7, .int .i64 i8, .string t, .slice a l.length cap, .slice b m.length capb] wr)) (fun _ i _ => H' - (intOf i).toNat)
      case atStart =>
        refine ⟨0, by omega, rfl, ?_, R5⟩
        show World.ownsRow _ _ _ _ _ _ _
        have e : sbF ns t m W' l 0 = [N1, t, N2] := by unfold sbF; rw [unhide H3]; rfl
        rw [e]
        exact World.ownsRow_lit (e := 9) (base := w.heap.size + 1) (size := 1) w4 #[.string N1, .string t, .string N2] 3 (unhide R4).lt (by unfold maxLen; omega) rfl
      case round =>
        clear R4 R5
        obtain ⟨k, hk, rfl, HO, HK⟩ := hrel
        have K5 := (unhide HK).S
        by_cases hlt : k < H'
        · have hlt' : (k : Int) < (H' : Int) := by omega
          have HN : Hid (cS (sbF ns t m W' l (k + 1)) = cS (sbF ns t m W' l k) ++ [.string ⟨(rowB ((l.drop (k * W')).take W')).toArray⟩]) := by show _ = _; rw [sbF_snoc, cS_app]; rfl
          obtain ⟨X, hX⟩ : ∃ X, X = (⟨(rowB ((l.drop (k * W')).take W')).toArray⟩ : ByteArray) := ⟨_, rfl⟩
          have T := hide (unhide HRC wr k hlt (unhide HK).blw)
          rw [← hX] at HN T
          clear hX
          go_wp2_with (first
            | (go_at_call 32; refine (unhide T).mono ?_; rintro e w6 ⟨rfl, hb6⟩; have hown := ((held_of (unhide HO)).below hb6 (Nat.le_refl _)).own; have HK6 := hide ((unhide HK).below hb6); have hz6 := (unhide HK6).lt; clear hb6)
            | (at_builtin; refine wpList_append_lies _ rfl (.tmp 39) (.tmp 43) 23 rfl (w.heap.size + 1) 9 i0' (.string ⟨#[]⟩) 1 16 Try.underlying23 hi hz0 hz1 hz2 rfl (by decide) _ _ _ rfl (hown.alloc (.cells #[.string X] 9)) ⟨w6.heap.size, 0, none⟩ 1 1 [.string X] rfl rfl (by exact news_new w6 [.string X] 9) (by intro u hu; simp at hu; subst hu; rfl) (by decide) (by unfold maxLen; omega) (by omega) (by simp; omega) _ rfl ?_; intro g7 c7 w7 hown7 hgrow7 hat7 hlt7; have HO7 := hide hown7; have HK7 := hide (((unhide HK6).alloc (.cells #[.string X] 9)).grown hgrow7 (fun j hj => by have := (hown.lt j hj).1; omega)); clear hown7 hgrow7 hat7 hlt7))
          go_roundw
          case rel => exact ⟨k + 1, by omega, by go_num, by show World.ownsRow _ _ _ _ _ _ _; rw [unhide HN]; exact unhide HO7, HK7⟩
          case measure => simp [intOf]; omega
        · have ek : k = H' := by omega
          subst ek
          have hown := unhide HO
          obtain ⟨a8, c8, rfl, hr8⟩ := own_rowV hown
          have T := sfields24 a8 c8 (sbF ns t m W' l k) (by rw [sbF_len]; omega) (unhide HSF) (unhide HSV) wr hr8
          rw [sbF_len] at T
          obtain ⟨F8, hF8⟩ : ∃ F, F = be (3 + k) 1 ++ fieldsL (sbF ns t m W' l k) := ⟨_, rfl⟩
          rw [← hF8] at T
          have HF8 : Hid (sbL ns t m W' l k = F8) := by show _ = _; unfold sbL; exact hF8.symm
          have HT8 := hide T
          clear T hown hr8 hlt hF8
          go_wp2_with (go_at_call 31; refine (unhide HT8).mono ?_; rintro e w9 ⟨v9, rfl, ho9, hb9⟩; have hcv := conv_own (P := Try.prog) Try.underlying27 Try.underlying5 Try.underlying9 ho9; obtain ⟨a9, c9, rfl, -⟩ := own_rowV ho9; have HB9 := hide ((unhide HK).below hb9).blw; clear ho9 hb9)
          go_ret
          exact ⟨by rw [unhide HF8]; rfl, unhide HB9⟩
end Go.Proofs.Ytokfmcajikmhmaa
