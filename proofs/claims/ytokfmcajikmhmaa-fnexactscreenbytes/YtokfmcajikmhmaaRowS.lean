/- RowCells: what the specification answers. -/
import Derived.Test.YtokfmcajikmhmaaOkS
import Derived.Test.YtokfmcajikmhmaaRowI
import Derived.Test.YtokfmcajikmhmaaAppS
import Derived.Test.YtokfmcajikmhmaaStepStr
namespace Go.Proofs.Ytokfmcajikmhmaa
open Go.ChangeShapes Go.WideShapes Go.ChangeAt Go.RowKit
set_option linter.unusedVariables false
theorem nb_low (z : Nat) (hz : z ≤ 127) : be z 1 = [UInt8.ofNat z] := by
  simp only [be, nb, Nat.pow_zero, Nat.div_one]
  rw [Nat.mod_eq_of_lt (by omega)]
/-- What stands while a row of bytes grows beside a cell's block c and other rows. -/
structure RS (W0 : World) (B c : Nat) (x z : Int) (v : Value) (L : List UInt8) (wA : World) : Prop where
  S : wA.cell? ⟨c, 0, none⟩ = some (.int .i64 x) ∧ wA.cell? ⟨c, 1, none⟩ = some (.int .i64 z)
  own : wA.ownsRow B 5 1 v L.length (B8 L)
  blw : Below B W0 wA
  lt : c < wA.heap.size
  ne : ∀ j, v.ownBlock = some j → ¬ j = c
  size : B ≤ wA.heap.size
def RowK (wA : World) (v : Value) (g : Nat) (xs : List Value) : Prop := (∀ j u, xs[j]? = some u → wA.cell? ((⟨g, 0, none⟩ : Addr).add j) = some u) ∧ g < wA.heap.size ∧ ∀ j, v.ownBlock = some j → ¬ j = g
theorem add_block (g j : Nat) : ((⟨g, 0, none⟩ : Addr).add j).block = g := by unfold Addr.add; split <;> rfl
theorem RowK.below {wA w' : World} {v : Value} {g : Nat} {xs : List Value} (h : RowK wA v g xs) (hb : Below wA.heap.size wA w') : RowK w' v g xs :=
  ⟨fun j u hu => (World.cell?_of_block (by rw [add_block]; exact hb.block g h.2.1)).trans (h.1 j u hu), Nat.lt_of_lt_of_le h.2.1 hb.size, h.2.2⟩
theorem RowK.alloc {wA : World} {v : Value} {g : Nat} {xs : List Value} (h : RowK wA v g xs) (o : Obj) : RowK (wA.alloc o) v g xs := h.below ((Below.refl _ _).alloc (Nat.le_refl _) o)
theorem RS.below {W0 : World} {B c : Nat} {x z : Int} {v : Value} {L : List UInt8} {wA w' : World} (h : RS W0 B c x z v L wA) (hb : Below wA.heap.size wA w') : RS W0 B c x z v L w' :=
  ⟨⟨(hb.cell (p := ⟨c, 0, none⟩) h.lt).trans h.S.1, (hb.cell (p := ⟨c, 1, none⟩) h.lt).trans h.S.2⟩, ((heldZ_of h.own).below hb (Nat.le_refl _)).own, h.blw.trans (hb.mono h.size), Nat.lt_of_lt_of_le h.lt hb.size, h.ne, Nat.le_trans h.size hb.size⟩
theorem RS.alloc {W0 : World} {B c : Nat} {x z : Int} {v : Value} {L : List UInt8} {wA : World} (h : RS W0 B c x z v L wA) (o : Obj) : RS W0 B c x z v L (wA.alloc o) := h.below ((Below.refl _ _).alloc (Nat.le_refl _) o)
theorem RS.append {W0 : World} {B c : Nat} {x z : Int} {v : Value} {L M : List UInt8} {wA w3 : World} {g n c3 : Nat} (h : RS W0 B c x z v L wA) (hn : M.length = n) (hg : wA.grownBy w3 v.ownBlock) (ho : w3.ownsRow B 5 1 (.slice (some ⟨g, 0, none⟩) (L.length + n) c3) (L.length + n) (B8 L ++ B8 M)) (hat : v.ownBlock = some g ∨ g = wA.heap.size) :
    RS W0 B c x z (.slice (some ⟨g, 0, none⟩) (L.length + n) c3) (L ++ M) w3 := by
  have hblk := hg.block c h.lt (fun e => h.ne c e.symm rfl)
  refine ⟨⟨(World.cell?_of_block hblk).trans h.S.1, (World.cell?_of_block hblk).trans h.S.2⟩, own_app ho hn, h.blw.grown hg h.size (fun j hj => (h.own.lt j hj).1), Nat.lt_of_lt_of_le h.lt hg.size, fun j hj e => ?_, Nat.le_trans h.size hg.size⟩
  have e2 : g = j := Option.some.inj hj
  rcases hat with h2 | h2
  · exact h.ne g h2 (by omega)
  · have := h.lt; omega
theorem RowK.append {wA w3 : World} {v : Value} {g g3 n c3 : Nat} {xs : List Value} (h : RowK wA v g xs) (hg : wA.grownBy w3 v.ownBlock) (hat : v.ownBlock = some g3 ∨ g3 = wA.heap.size) : RowK w3 (.slice (some ⟨g3, 0, none⟩) n c3) g xs := by
  have hblk := hg.block g h.2.1 (fun e => h.2.2 g e.symm rfl)
  refine ⟨fun j u hu => (World.cell?_of_block (by rw [add_block]; exact hblk)).trans (h.1 j u hu), Nat.lt_of_lt_of_le h.2.1 hg.size, fun j hj e => ?_⟩
  have e2 : g3 = j := Option.some.inj hj
  rcases hat with h2 | h2
  · exact h.2.2 g3 h2 (by omega)
  · have := h.2.1; omega
theorem RowK.new {wA : World} {v : Value} (cs : List Value) (t : TypeId) (hv : ∀ j, v.ownBlock = some j → j < wA.heap.size) : RowK (wA.alloc (.cells cs.toArray t)) v wA.heap.size cs :=
  ⟨news_new wA cs t, by simp, fun j hj => by have := hv j hj; omega⟩
set_option maxHeartbeats 2000000 in
set_option maxRecDepth 100000 in
theorem scells (W H Y f b off n cap : Nat) (i2 i3 i4 i5 i6 i7 i8 : Int) (t : ByteArray) (vh : Value) (hvh : vh.oneCell' = true) (l : List (Int × Int)) (el : l.length = n) (hf : f = Y * W) (hW : 0 < W ∧ W ≤ 24) (hn : f + W ≤ n) (hc : n ≤ cap) (hn2 : n ≤ 1048576) (hcell : ∀ q (h : q < l.length), cellB l[q] = true) (w : World)
    (hb : b < w.heap.size) (hr : ∀ i u, (cP l)[i]? = some u → w.cell? ⟨b, off + i, none⟩ = some u) :
    Calls Try.prog 32 #[.agg #[.int .i64 (W : Int), .int .i64 (H : Int), .int .i64 i2, .int .i64 i3, .int .i64 i4, .int .i64 i5, .int .i64 i6, .int .i64 i7, .int .i64 i8, .string t, .slice (some ⟨b, off, none⟩) n cap, vh], .int .i64 (Y : Int)] w fun e w' => e = .returned (.string ⟨(rowB ((l.drop f).take W)).toArray⟩) ∧ Below w.heap.size w w' := by
  obtain ⟨i0, hi, hz0, hz1, hz2⟩ := info_parts Try.infS5
  have HB0 := hide ((Below.refl w.heap.size w).alloc (Nat.le_refl _) (.cells #[.int .i64 (W : Int), .int .i64 (H : Int), .int .i64 i2, .int .i64 i3, .int .i64 i4, .int .i64 i5, .int .i64 i6, .int .i64 i7, .int .i64 i8, .string t, .slice (some ⟨b, off, none⟩) n cap, vh] 32))
  have HR := hide hr
  have HC := hide hcell
  have HL := hide el
  have p1 : (Y : Int) * (W : Int) = (f : Int) := by rw [hf]; push_cast; rfl
  have hY : Y ≤ 1048576 := by
    have : Y * 1 ≤ Y * W := Nat.mul_le_mul_left Y hW.1
    omega
  clear hr hcell hf
  go_enter Try.func32, Try.ntmps32
  go_wp2_with fail
  go_loopw [5, 6] (fun v i wr => ∃ k : Nat, k ≤ W ∧ i = .int .i64 k ∧ Hid (wr.ownsRow (w.heap.size + 1) 5 1 v (rowB ((l.drop f).take k)).length (B8 (rowB ((l.drop f).take k)))) ∧ Hid (Below (w.heap.size + 1) (w.alloc (.cells #[.int .i64 (W : Int), .int .i64 (H : Int), .int .i64 i2, .int .i64 i3, .int .i64 i4, .int .i64 i5, .int .i64 i6, .int .i64 i7, .int .i64 i8, .string t, .slice (some ⟨b, off, none⟩) n cap, vh] 32)) wr)) (fun _ i _ => W - (intOf i).toNat)
  case atStart => exact ⟨0, by omega, rfl, by have := lit_empty (w.alloc (.cells #[.int .i64 (W : Int), .int .i64 (H : Int), .int .i64 i2, .int .i64 i3, .int .i64 i4, .int .i64 i5, .int .i64 i6, .int .i64 i7, .int .i64 i8, .string t, .slice (some ⟨b, off, none⟩) n cap, vh] 32)) (w.heap.size + 1) 5 (by simp); simp at this; show World.ownsRow _ _ _ _ _ _ _; simpa [rowB] using this, (Below.refl _ _).alloc (by simp) _⟩
  case round =>
    obtain ⟨k, hk, rfl, HO, HB⟩ := hrel
    have K2 : ∀ o, wr.cell? ⟨w.heap.size, o, none⟩ = (#[.int .i64 (W : Int), .int .i64 (H : Int), .int .i64 i2, .int .i64 i3, .int .i64 i4, .int .i64 i5, .int .i64 i6, .int .i64 i7, .int .i64 i8, .string t, .slice (some ⟨b, off, none⟩) n cap, vh] : Array Value)[o]? := fun o => ((unhide HB).cell (p := ⟨w.heap.size, o, none⟩) (Nat.lt_succ_self _)).trans (World.cell?_alloc_mark w _ _ _ o)
    have HBW := hide ((unhide HB0).trans ((unhide HB).mono (Nat.le_succ _)))
    by_cases hlt : k < W
    · have hq : f + k < l.length := by rw [unhide HL]; omega
      obtain ⟨x0, x1⟩ := row_two (unhide HR) (f + k) hq
      have hcb := unhide HC (f + k) hq
      obtain ⟨x, z, ex, ez, hx, hz9⟩ : ∃ x z : Nat, l[f + k].1 = (x : Int) ∧ l[f + k].2 = (z : Int) ∧ x ≤ 1114111 ∧ z ≤ 127 := by
        unfold cellB at hcb
        rw [Bool.and_eq_true] at hcb
        have h1 : 32 ≤ l[f + k].1 ∧ l[f + k].1 ≤ 1114111 ∧ l[f + k].1 ≠ 127 ∧ ¬ (55296 ≤ l[f + k].1 ∧ l[f + k].1 ≤ 57343) := of_decide_eq_true hcb.1
        have h2 : 0 ≤ l[f + k].2 ∧ l[f + k].2 ≤ 127 := of_decide_eq_true hcb.2
        exact ⟨l[f + k].1.toNat, l[f + k].2.toNat, by omega, by omega, by omega, by omega⟩
      obtain ⟨R, hR⟩ : ∃ R, R = rowB ((l.drop f).take k) := ⟨_, rfl⟩
      have HN : Hid (rowB ((l.drop f).take (k + 1)) = (R ++ be x 3) ++ [UInt8.ofNat z]) := by
        show _ = _
        rw [List.take_succ_eq_append_getElem (by rw [List.length_drop]; omega), rowB_snoc, List.getElem_drop, hR, ex, ez, Int.toNat_natCast, Int.toNat_natCast, nb_low z hz9]
      have hRl : R.length ≤ 96 := by rw [hR, rowB_len, List.length_take]; omega
      rw [ex] at x0
      rw [ez] at x1
      have hy0 : wr.cell? ⟨b, off + (f + k) * 2, none⟩ = some (.int .i64 (x : Int)) := ((unhide HBW).cell (p := ⟨b, off + (f + k) * 2, none⟩) hb).trans x0
      have hy1 : wr.cell? ⟨b, off + (f + k) * 2 + 1, none⟩ = some (.int .i64 (z : Int)) := ((unhide HBW).cell (p := ⟨b, off + (f + k) * 2 + 1, none⟩) hb).trans x1
      rw [← hR] at HO
      have hlt' : (k : Int) < (W : Int) := by omega
      have hzz : w.heap.size + 1 ≤ wr.heap.size := by have := (unhide HB).size; simp at this; exact this
      have hown := unhide HO
      have hne : ∀ j, u5.ownBlock = some j → j < wr.heap.size := fun j hj => (hown.lt j hj).2
      have HBA := hide ((unhide HB).alloc hzz (.cells #[.int .i64 (x : Int), .int .i64 (z : Int)] 56))
      have hz8 : IntKind.u8.wrap (z : Int) = (z : Int) := wrap8 _ (by omega) (by omega)
      have HB8 : Hid (B8 [UInt8.ofNat z] = [.int .u8 (z : Int)]) := by
        show _ = _
        simp only [B8, List.map_cons, List.map_nil, UInt8.toNat_ofNat']
        rw [Nat.mod_eq_of_lt (by omega)]
      have hfk : (f : Int) + (k : Int) < (n : Int) := by omega
      have hfk2 : ((f : Int) + (k : Int)).toNat = f + k := by omega
      clear x0 x1 hcb ex ez hR hq
      go_wp2_with fail
      have R0 : Hid (RS (w.alloc (.cells #[.int .i64 (W : Int), .int .i64 (H : Int), .int .i64 i2, .int .i64 i3, .int .i64 i4, .int .i64 i5, .int .i64 i6, .int .i64 i7, .int .i64 i8, .string t, .slice (some ⟨b, off, none⟩) n cap, vh] 32)) (w.heap.size + 1) wr.heap.size (x : Int) (z : Int) u5 R ((wr.alloc (.cells #[.int .i64 (x : Int), .int .i64 (z : Int)] 56)).drew)) :=
        ⟨⟨World.cell?_alloc_mark wr _ _ _ 0, World.cell?_alloc_mark wr _ _ _ 1⟩, (hown.alloc _).drew, (unhide HBA).drew, by simp, fun j hj => Nat.ne_of_lt (hne j hj), by simp; omega⟩
      refine wp_region_held_drew (S := (fun w' => w'.cell? ⟨wr.heap.size, 0, none⟩ = some (.int .i64 (x : Int)) ∧ w'.cell? ⟨wr.heap.size, 1, none⟩ = some (.int .i64 (z : Int)))) (by kernel_rfl) (by (try dsimp only); with_reducible exact (unhide R0).S) (fun hHeld => ?_)
      refine wpAnyH_take (i := 0) (oi := { dst := some 25, op := .move (.tmp 5), type := 27, pos := "l04_screen.go:87", after := #[], guard := none }) (v := ?_) rfl (by kernel_rfl) (by kernel_rfl) (by kernel_rfl) (fun _ _ _ h => h) (Or.inl ⟨by rfl, ?_⟩) (by assumption) ?_
      rotate_left 1
      · (intro w' hSw; (try dsimp only at hSw); go_simp; try with_reducible rfl)
      try simp only [Act.put, List.setIfInBounds_toArray, List.set_cons_zero, List.set_cons_succ]
      refine wpAnyH_take (i := 1) (oi := { dst := some 26, op := .fieldAddr 56 (.tmp 7) 0, type := 0, pos := "l04_screen.go:87", after := #[], guard := none }) (v := ?_) rfl (by kernel_rfl) (by kernel_rfl) (by kernel_rfl) (fun _ _ _ h => h) (Or.inl ⟨by rfl, ?_⟩) (by assumption) ?_
      rotate_left 1
      · (intro w' hSw; (try dsimp only at hSw); go_simp; try with_reducible rfl)
      try simp only [Act.put, List.setIfInBounds_toArray, List.set_cons_zero, List.set_cons_succ]
      refine wpAnyH_take (i := 2) (oi := { dst := some 27, op := .load 3 (.tmp 26), type := 3, pos := "l04_screen.go:87", after := #[{ on := 1, ground := .data }], guard := none }) (v := ?_) rfl (by kernel_rfl) (by kernel_rfl) (by kernel_rfl) (fun _ _ _ h => h) (Or.inl ⟨by rfl, ?_⟩) (by assumption) ?_
      rotate_left 1
      · (intro w' hSw; (try dsimp only at hSw); go_simp; try with_reducible rfl)
      try simp only [Act.put, List.setIfInBounds_toArray, List.set_cons_zero, List.set_cons_succ]
      refine wpAnyH_take (i := 5) (oi := { dst := some 30, op := .fieldAddr 56 (.tmp 7) 1, type := 0, pos := "l04_screen.go:87", after := #[], guard := none }) (v := ?_) rfl (by kernel_rfl) (by kernel_rfl) (by kernel_rfl) (fun _ _ _ h => h) (Or.inl ⟨by rfl, ?_⟩) (by assumption) ?_
      rotate_left 1
      · (intro w' hSw; (try dsimp only at hSw); go_simp; try with_reducible rfl)
      try simp only [Act.put, List.setIfInBounds_toArray, List.set_cons_zero, List.set_cons_succ]
      refine wpAnyH_take (i := 6) (oi := { dst := some 31, op := .load 3 (.tmp 30), type := 3, pos := "l04_screen.go:87", after := #[{ on := 5, ground := .data }], guard := none }) (v := ?_) rfl (by kernel_rfl) (by kernel_rfl) (by kernel_rfl) (fun _ _ _ h => h) (Or.inl ⟨by rfl, ?_⟩) (by assumption) ?_
      rotate_left 1
      · (intro w' hSw; (try dsimp only at hSw); go_simp; try with_reducible rfl)
      try simp only [Act.put, List.setIfInBounds_toArray, List.set_cons_zero, List.set_cons_succ]
      refine wpAnyH_take (i := 7) (oi := { dst := some 32, op := .convert 3 5 (.tmp 31), type := 5, pos := "l04_screen.go:87", after := #[{ on := 6, ground := .data }], guard := none }) (v := ?_) rfl (by kernel_rfl) (by kernel_rfl) (by kernel_rfl) (fun _ _ _ h => h) (Or.inl ⟨by rfl, ?_⟩) (by assumption) ?_
      rotate_left 1
      · (intro w' hSw; (try dsimp only at hSw); go_simp; try with_reducible rfl)
      try simp only [Act.put, List.setIfInBounds_toArray, List.set_cons_zero, List.set_cons_succ]
      refine wpAnyH_ready (rs := [3, 8]) (by kernel_rfl) (by simp) ?_
      refine AllReadyH.cons (o := { dst := some 28, op := .call { callee := .value (.func 47), args := #[.tmp 27, .const (.int .i64 3)], argTypes := #[3, 3] }, type := 27, pos := "l04_screen.go:87", after := #[{ on := 2, ground := .data }], guard := none }) rfl (fun K hK => ?_) (AllReadyH.cons (o := { dst := some 33, op := .buildSlice 27 1 #[(0, .tmp 32)], type := 27, pos := "l04_screen.go:87", after := #[{ on := 7, ground := .data }], guard := none }) rfl (fun K hK => ?_) AllReadyH.nil)
      · go_simp
        refine (snumber x 3 (by omega) (by decide) _).mono ?_
        rintro e w2 ⟨v2, rfl, ho2, hb2⟩
        rw [be_len] at ho2
        obtain ⟨g2, cap2, rfl, hg2a, hg2b, hg2c, hg2d⟩ := own_some ho2 (by decide)
        have R3 := hide ((unhide R0).below hb2)
        have KN : Hid (RowK w2 u5 g2 (B8 (be x 3))) := ⟨hg2d, hg2b, fun j hj e => by have h1 := ((unhide R0).own.lt j hj).2; omega⟩
        clear ho2 hb2 hg2a hg2b hg2c hg2d
        go_wp2_with fail
        refine hK.out _ _ ?_ (fun hHeld3 => ?_)
        · (try dsimp only); first | with_reducible exact (unhide R3).S | exact (unhide R3).S
        clear hK K
        try simp only [Act.put, List.setIfInBounds_toArray, List.set_cons_zero, List.set_cons_succ]
        refine wpAnyH_ready (rs := [4, 8]) (by kernel_rfl) (by simp) ?_
        refine AllReadyH.cons (o := { dst := some 29, op := .call { callee := .builtin Go.Builtin.append, args := #[.tmp 25, .tmp 28], argTypes := #[27, 27] }, type := 27, pos := "l04_screen.go:87", after := #[{ on := 0, ground := .data }, { on := 3, ground := .data }, { on := 3, ground := .chain }], guard := none }) rfl (fun K hK => ?_) (AllReadyH.cons (o := { dst := some 33, op := .buildSlice 27 1 #[(0, .tmp 32)], type := 27, pos := "l04_screen.go:87", after := #[{ on := 7, ground := .data }], guard := none }) rfl (fun K hK => ?_) AllReadyH.nil)
        · refine step_append_lies _ rfl (.tmp 25) (.tmp 28) 27 rfl (w.heap.size + 1) 5 i0 (.int .u8 0) 1 1 Try.underlying27 hi hz0 hz1 hz2 rfl (by decide) _ _ _ rfl (unhide R3).own ⟨g2, 0, none⟩ 3 cap2 (B8 (be x 3)) rfl (by rw [B8_len, be_len]) (unhide KN).1 (B8_one _) (by decide) (by unfold maxLen; omega) (by omega) (unhide R3).size _ rfl ?_
          intro g3 c3 w3 hown3 hgrow3 hat3 hlt3
          have R4 := hide ((unhide R3).append (be_len x 3) hgrow3 hown3 hat3)
          clear hown3 hgrow3 hat3 hlt3
          refine hK.out _ _ ?_ (fun hHeld4 => ?_)
          · (try dsimp only); first | with_reducible exact (unhide R4).S | exact (unhide R4).S
          clear hK K
          try simp only [Act.put, List.setIfInBounds_toArray, List.set_cons_zero, List.set_cons_succ]
          refine wpAnyH_ready (rs := [8]) (by kernel_rfl) (by simp) ?_
          refine AllReadyH.cons (o := { dst := some 33, op := .buildSlice 27 1 #[(0, .tmp 32)], type := 27, pos := "l04_screen.go:87", after := #[{ on := 7, ground := .data }], guard := none }) rfl (fun K hK => ?_) AllReadyH.nil
          go_simp
          have R8 := hide ((unhide R4).alloc (.cells #[.int .u8 (z : Int)] 5))
          have K8 := hide (RowK.new (v := .slice (some ⟨g3, 0, none⟩) (R.length + 3) c3) [.int .u8 (z : Int)] 5 (fun j hj => ((unhide R4).own.lt j hj).2))
          refine hK.out _ _ ?_ (fun hHeld8 => ?_)
          · (try dsimp only); first | with_reducible exact (unhide R8).S | exact (unhide R8).S
          clear hK K
          try simp only [Act.put, List.setIfInBounds_toArray, List.set_cons_zero, List.set_cons_succ]
          refine wpAnyH_ready (rs := [9]) (by kernel_rfl) (by simp) ?_
          refine AllReadyH.cons (o := { dst := some 34, op := .call { callee := .builtin Go.Builtin.append, args := #[.tmp 29, .tmp 33], argTypes := #[27, 27] }, type := 27, pos := "l04_screen.go:87", after := #[{ on := 4, ground := .data }, { on := 8, ground := .data }, { on := 4, ground := .chain }], guard := none }) rfl (fun K hK => ?_) AllReadyH.nil
          refine step_append_lies _ rfl (.tmp 29) (.tmp 33) 27 rfl (w.heap.size + 1) 5 i0 (.int .u8 0) 1 1 Try.underlying27 hi hz0 hz1 hz2 rfl (by decide) _ _ _ rfl (by have o := (unhide R8).own; rw [List.length_append, be_len] at o; exact o) ⟨w3.heap.size, 0, none⟩ 1 1 [.int .u8 (z : Int)] rfl rfl (unhide K8).1 (by intro u hu; simp at hu; subst hu; rfl) (by decide) (by unfold maxLen; omega) (by omega) (unhide R8).size _ rfl ?_
          intro g5 c5 w5 hown5 hgrow5 hat5 hlt5
          rw [← unhide HB8] at hown5
          have R9 := hide ((unhide R8).append (n := 1) (M := [UInt8.ofNat z]) rfl hgrow5 (by rw [List.length_append, be_len]; exact hown5) hat5)
          clear hown5 hgrow5 hat5 hlt5
          refine hK.out _ _ ?_ (fun hHeld9 => ?_)
          · (try dsimp only); first | with_reducible exact (unhide R9).S | exact (unhide R9).S
          clear hK K
          try simp only [Act.put, List.setIfInBounds_toArray, List.set_cons_zero, List.set_cons_succ]
          refine wpAnyH_take (i := 10) (oi := { dst := some 5, op := .assign (.tmp 34), type := 27, pos := "l04_screen.go:87", after := #[{ on := 9, ground := .data }, { on := 9, ground := .chain }, { on := 0, ground := .phase }, { on := 1, ground := .phase }, { on := 2, ground := .phase }, { on := 3, ground := .phase }, { on := 4, ground := .phase }, { on := 5, ground := .phase }, { on := 6, ground := .phase }, { on := 7, ground := .phase }, { on := 8, ground := .phase }, { on := 9, ground := .phase }], guard := none }) (v := ?_) rfl (by kernel_rfl) (by kernel_rfl) (by kernel_rfl) (fun _ _ _ h => h) (Or.inl ⟨by rfl, ?_⟩) (by assumption) ?_
          rotate_left 1
          · (intro w' hSw; (try dsimp only at hSw); go_simp; try with_reducible rfl)
          try simp only [Act.put, List.setIfInBounds_toArray, List.set_cons_zero, List.set_cons_succ]
          refine wpAnyH_done (by kernel_rfl) ?_ _
          go_wp2_with fail
          go_roundw
          case rel => exact ⟨k + 1, by omega, by go_num, by show World.ownsRow _ _ _ _ _ _ _; rw [unhide HN]; have o := (unhide R9).own; rw [List.length_append, be_len] at o; exact o, (unhide R9).blw⟩
          case measure => simp [intOf]; omega
        · go_simp
          have R8 := hide ((unhide R3).alloc (.cells #[.int .u8 (z : Int)] 5))
          have K8 := hide (RowK.new (v := u5) [.int .u8 (z : Int)] 5 (fun j hj => ((unhide R3).own.lt j hj).2))
          have KN8 := hide ((unhide KN).alloc (.cells #[.int .u8 (z : Int)] 5))
          refine hK.out _ _ ?_ (fun hHeld8 => ?_)
          · (try dsimp only); first | with_reducible exact (unhide R8).S | exact (unhide R8).S
          clear hK K
          try simp only [Act.put, List.setIfInBounds_toArray, List.set_cons_zero, List.set_cons_succ]
          refine wpAnyH_ready (rs := [4]) (by kernel_rfl) (by simp) ?_
          refine AllReadyH.cons (o := { dst := some 29, op := .call { callee := .builtin Go.Builtin.append, args := #[.tmp 25, .tmp 28], argTypes := #[27, 27] }, type := 27, pos := "l04_screen.go:87", after := #[{ on := 0, ground := .data }, { on := 3, ground := .data }, { on := 3, ground := .chain }], guard := none }) rfl (fun K hK => ?_) AllReadyH.nil
          refine step_append_lies _ rfl (.tmp 25) (.tmp 28) 27 rfl (w.heap.size + 1) 5 i0 (.int .u8 0) 1 1 Try.underlying27 hi hz0 hz1 hz2 rfl (by decide) _ _ _ rfl (unhide R8).own ⟨g2, 0, none⟩ 3 cap2 (B8 (be x 3)) rfl (by rw [B8_len, be_len]) (unhide KN8).1 (B8_one _) (by decide) (by unfold maxLen; omega) (by omega) (unhide R8).size _ rfl ?_
          intro g3 c3 w3 hown3 hgrow3 hat3 hlt3
          have R4 := hide ((unhide R8).append (be_len x 3) hgrow3 hown3 hat3)
          have K84 := hide (RowK.append (n := R.length + 3) (c3 := c3) (unhide K8) hgrow3 hat3)
          clear hown3 hgrow3 hat3 hlt3
          refine hK.out _ _ ?_ (fun hHeld4 => ?_)
          · (try dsimp only); first | with_reducible exact (unhide R4).S | exact (unhide R4).S
          clear hK K
          try simp only [Act.put, List.setIfInBounds_toArray, List.set_cons_zero, List.set_cons_succ]
          refine wpAnyH_ready (rs := [9]) (by kernel_rfl) (by simp) ?_
          refine AllReadyH.cons (o := { dst := some 34, op := .call { callee := .builtin Go.Builtin.append, args := #[.tmp 29, .tmp 33], argTypes := #[27, 27] }, type := 27, pos := "l04_screen.go:87", after := #[{ on := 4, ground := .data }, { on := 8, ground := .data }, { on := 4, ground := .chain }], guard := none }) rfl (fun K hK => ?_) AllReadyH.nil
          refine step_append_lies _ rfl (.tmp 29) (.tmp 33) 27 rfl (w.heap.size + 1) 5 i0 (.int .u8 0) 1 1 Try.underlying27 hi hz0 hz1 hz2 rfl (by decide) _ _ _ rfl (by have o := (unhide R4).own; rw [List.length_append, be_len] at o; exact o) ⟨w2.heap.size, 0, none⟩ 1 1 [.int .u8 (z : Int)] rfl rfl (unhide K84).1 (by intro u hu; simp at hu; subst hu; rfl) (by decide) (by unfold maxLen; omega) (by omega) (unhide R4).size _ rfl ?_
          intro g5 c5 w5 hown5 hgrow5 hat5 hlt5
          rw [← unhide HB8] at hown5
          have R9 := hide ((unhide R4).append (n := 1) (M := [UInt8.ofNat z]) rfl hgrow5 (by rw [List.length_append, be_len]; exact hown5) hat5)
          clear hown5 hgrow5 hat5 hlt5
          refine hK.out _ _ ?_ (fun hHeld9 => ?_)
          · (try dsimp only); first | with_reducible exact (unhide R9).S | exact (unhide R9).S
          clear hK K
          try simp only [Act.put, List.setIfInBounds_toArray, List.set_cons_zero, List.set_cons_succ]
          refine wpAnyH_take (i := 10) (oi := { dst := some 5, op := .assign (.tmp 34), type := 27, pos := "l04_screen.go:87", after := #[{ on := 9, ground := .data }, { on := 9, ground := .chain }, { on := 0, ground := .phase }, { on := 1, ground := .phase }, { on := 2, ground := .phase }, { on := 3, ground := .phase }, { on := 4, ground := .phase }, { on := 5, ground := .phase }, { on := 6, ground := .phase }, { on := 7, ground := .phase }, { on := 8, ground := .phase }, { on := 9, ground := .phase }], guard := none }) (v := ?_) rfl (by kernel_rfl) (by kernel_rfl) (by kernel_rfl) (fun _ _ _ h => h) (Or.inl ⟨by rfl, ?_⟩) (by assumption) ?_
          rotate_left 1
          · (intro w' hSw; (try dsimp only at hSw); go_simp; try with_reducible rfl)
          try simp only [Act.put, List.setIfInBounds_toArray, List.set_cons_zero, List.set_cons_succ]
          refine wpAnyH_done (by kernel_rfl) ?_ _
          go_wp2_with fail
          go_roundw
          case rel => exact ⟨k + 1, by omega, by go_num, by show World.ownsRow _ _ _ _ _ _ _; rw [unhide HN]; have o := (unhide R9).own; rw [List.length_append, be_len] at o; exact o, (unhide R9).blw⟩
          case measure => simp [intOf]; omega
      · go_simp
        have R8 := hide ((unhide R0).alloc (.cells #[.int .u8 (z : Int)] 5))
        have K80 := (RowK.new (v := u5) [.int .u8 (z : Int)] 5 (fun j hj => ((unhide R0).own.lt j hj).2))
        rw [show (wr.alloc (.cells #[.int .i64 (x : Int), .int .i64 (z : Int)] 56)).drew.heap.size = wr.heap.size + 1 from by simp] at K80
        have K8 := hide K80
        clear K80
        refine hK.out _ _ ?_ (fun hHeld8 => ?_)
        · (try dsimp only); first | with_reducible exact (unhide R8).S | exact (unhide R8).S
        clear hK K
        try simp only [Act.put, List.setIfInBounds_toArray, List.set_cons_zero, List.set_cons_succ]
        refine wpAnyH_ready (rs := [3]) (by kernel_rfl) (by simp) ?_
        refine AllReadyH.cons (o := { dst := some 28, op := .call { callee := .value (.func 47), args := #[.tmp 27, .const (.int .i64 3)], argTypes := #[3, 3] }, type := 27, pos := "l04_screen.go:87", after := #[{ on := 2, ground := .data }], guard := none }) rfl (fun K hK => ?_) AllReadyH.nil
        go_simp
        refine (snumber x 3 (by omega) (by decide) _).mono ?_
        rintro e w2 ⟨v2, rfl, ho2, hb2⟩
        rw [be_len] at ho2
        obtain ⟨g2, cap2, rfl, hg2a, hg2b, hg2c, hg2d⟩ := own_some ho2 (by decide)
        have R3 := hide ((unhide R8).below hb2)
        have KN : Hid (RowK w2 u5 g2 (B8 (be x 3))) := ⟨hg2d, hg2b, fun j hj e => by have h1 := ((unhide R8).own.lt j hj).2; simp at h1 hg2a; omega⟩
        have K83 := hide ((unhide K8).below hb2)
        clear ho2 hb2 hg2a hg2b hg2c hg2d
        go_wp2_with fail
        refine hK.out _ _ ?_ (fun hHeld3 => ?_)
        · (try dsimp only); first | with_reducible exact (unhide R3).S | exact (unhide R3).S
        clear hK K
        try simp only [Act.put, List.setIfInBounds_toArray, List.set_cons_zero, List.set_cons_succ]
        refine wpAnyH_ready (rs := [4]) (by kernel_rfl) (by simp) ?_
        refine AllReadyH.cons (o := { dst := some 29, op := .call { callee := .builtin Go.Builtin.append, args := #[.tmp 25, .tmp 28], argTypes := #[27, 27] }, type := 27, pos := "l04_screen.go:87", after := #[{ on := 0, ground := .data }, { on := 3, ground := .data }, { on := 3, ground := .chain }], guard := none }) rfl (fun K hK => ?_) AllReadyH.nil
        refine step_append_lies _ rfl (.tmp 25) (.tmp 28) 27 rfl (w.heap.size + 1) 5 i0 (.int .u8 0) 1 1 Try.underlying27 hi hz0 hz1 hz2 rfl (by decide) _ _ _ rfl (unhide R3).own ⟨g2, 0, none⟩ 3 cap2 (B8 (be x 3)) rfl (by rw [B8_len, be_len]) (unhide KN).1 (B8_one _) (by decide) (by unfold maxLen; omega) (by omega) (unhide R3).size _ rfl ?_
        intro g3 c3 w3 hown3 hgrow3 hat3 hlt3
        have R4 := hide ((unhide R3).append (be_len x 3) hgrow3 hown3 hat3)
        have K84 := hide (RowK.append (n := R.length + 3) (c3 := c3) (unhide K83) hgrow3 hat3)
        clear hown3 hgrow3 hat3 hlt3
        refine hK.out _ _ ?_ (fun hHeld4 => ?_)
        · (try dsimp only); first | with_reducible exact (unhide R4).S | exact (unhide R4).S
        clear hK K
        try simp only [Act.put, List.setIfInBounds_toArray, List.set_cons_zero, List.set_cons_succ]
        refine wpAnyH_ready (rs := [9]) (by kernel_rfl) (by simp) ?_
        refine AllReadyH.cons (o := { dst := some 34, op := .call { callee := .builtin Go.Builtin.append, args := #[.tmp 29, .tmp 33], argTypes := #[27, 27] }, type := 27, pos := "l04_screen.go:87", after := #[{ on := 4, ground := .data }, { on := 8, ground := .data }, { on := 4, ground := .chain }], guard := none }) rfl (fun K hK => ?_) AllReadyH.nil
        refine step_append_lies _ rfl (.tmp 29) (.tmp 33) 27 rfl (w.heap.size + 1) 5 i0 (.int .u8 0) 1 1 Try.underlying27 hi hz0 hz1 hz2 rfl (by decide) _ _ _ rfl (by have o := (unhide R4).own; rw [List.length_append, be_len] at o; exact o) ⟨wr.heap.size + 1, 0, none⟩ 1 1 [.int .u8 (z : Int)] rfl rfl (unhide K84).1 (by intro u hu; simp at hu; subst hu; rfl) (by decide) (by unfold maxLen; omega) (by omega) (unhide R4).size _ rfl ?_
        intro g5 c5 w5 hown5 hgrow5 hat5 hlt5
        rw [← unhide HB8] at hown5
        have R9 := hide ((unhide R4).append (n := 1) (M := [UInt8.ofNat z]) rfl hgrow5 (by rw [List.length_append, be_len]; exact hown5) hat5)
        clear hown5 hgrow5 hat5 hlt5
        refine hK.out _ _ ?_ (fun hHeld9 => ?_)
        · (try dsimp only); first | with_reducible exact (unhide R9).S | exact (unhide R9).S
        clear hK K
        try simp only [Act.put, List.setIfInBounds_toArray, List.set_cons_zero, List.set_cons_succ]
        refine wpAnyH_take (i := 10) (oi := { dst := some 5, op := .assign (.tmp 34), type := 27, pos := "l04_screen.go:87", after := #[{ on := 9, ground := .data }, { on := 9, ground := .chain }, { on := 0, ground := .phase }, { on := 1, ground := .phase }, { on := 2, ground := .phase }, { on := 3, ground := .phase }, { on := 4, ground := .phase }, { on := 5, ground := .phase }, { on := 6, ground := .phase }, { on := 7, ground := .phase }, { on := 8, ground := .phase }, { on := 9, ground := .phase }], guard := none }) (v := ?_) rfl (by kernel_rfl) (by kernel_rfl) (by kernel_rfl) (fun _ _ _ h => h) (Or.inl ⟨by rfl, ?_⟩) (by assumption) ?_
        rotate_left 1
        · (intro w' hSw; (try dsimp only at hSw); go_simp; try with_reducible rfl)
        try simp only [Act.put, List.setIfInBounds_toArray, List.set_cons_zero, List.set_cons_succ]
        refine wpAnyH_done (by kernel_rfl) ?_ _
        go_wp2_with fail
        go_roundw
        case rel => exact ⟨k + 1, by omega, by go_num, by show World.ownsRow _ _ _ _ _ _ _; rw [unhide HN]; have o := (unhide R9).own; rw [List.length_append, be_len] at o; exact o, (unhide R9).blw⟩
        case measure => simp [intOf]; omega
    · have ek : k = W := by omega
      subst ek
      have hcv := conv_own (P := Try.prog) Try.underlying27 Try.underlying5 Try.underlying9 (unhide HO)
      go_wp2_with fail
      go_ret
      exact ⟨rfl, unhide HBW⟩
end Go.Proofs.Ytokfmcajikmhmaa
