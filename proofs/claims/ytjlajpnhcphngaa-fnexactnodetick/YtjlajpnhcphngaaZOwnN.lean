/- spec.l08Own: what the specification answers. -/
import Derived.Test.YtjlajpnhcphngaaZCopN
import Derived.Test.YtjlajpnhcphngaaZPrI
import Derived.Deep.Cut
namespace Go.Proofs.Ytjlajpnhcphngaa
open Go.ChangeShapes Go.WideShapes Go.ChangeAt Go.RowKit
set_option linter.unusedVariables false
set_option maxHeartbeats 4000000 in
set_option maxRecDepth 100000 in
theorem sownA (id nd tm vt ro cm el wt : Int) (up : Bool) (a : Option Addr) (cap n : Nat) (l : List (Int × ByteArray)) (HN : Hid (l.length = n)) (av : Option Addr) (cv nv : Nat) (lv : List Int) (HNv : Hid (lv.length = nv)) (ax : Option Addr) (cx nx : Nat) (lx : List Int) (HNx : Hid (lx.length = nx)) (ag : Option Addr) (cg ng : Nat) (lg : List Int) (HNg : Hid (lg.length = ng)) (hn : n ≤ 1048576) (hnv : nv ≤ 1048576) (hnx : nx ≤ 1048576) (hng : ng ≤ 1048576) (w : World) (hr : RowV w a (cE l)) (hrv : RowV w av (cI lv)) (hrx : RowV w ax (cI lx)) (hrg : RowV w ag (cI lg)) :
    Calls Try.prog 18 #[.agg #[.int .i64 id, .int .i64 nd, .int .i64 tm, .int .i64 vt, .int .i64 ro, .bool up, .slice a n cap, .int .i64 cm, .int .i64 el, .int .i64 wt, .slice av nv cv, .slice ax nx cx, .slice ag ng cg]] w fun e w' => ∃ eA eC vA vC xA xC gA gC, e = .returned (.agg #[.int .i64 id, .int .i64 nd, .int .i64 tm, .int .i64 vt, .int .i64 ro, .bool up, .slice eA n eC, .int .i64 cm, .int .i64 el, .int .i64 wt, .slice vA nv vC, .slice xA nx xC, .slice gA ng gC]) ∧ w'.ownsRow w.heap.size 68 2 (.slice eA n eC) n (cE l) ∧ w'.ownsRow w.heap.size 3 1 (.slice vA nv vC) nv (cI lv) ∧ w'.ownsRow w.heap.size 3 1 (.slice xA nx xC) nx (cI lx) ∧ w'.ownsRow w.heap.size 3 1 (.slice gA ng gC) ng (cI lg) ∧ (∀ j, (Value.slice vA nv vC).ownBlock = some j → (Value.slice xA nx xC).ownBlock ≠ some j ∧ (Value.slice gA ng gC).ownBlock ≠ some j) ∧ (∀ j, (Value.slice xA nx xC).ownBlock = some j → (Value.slice gA ng gC).ownBlock ≠ some j) ∧ Below w.heap.size w w' := by
  obtain ⟨ie, hie, hie0, hie1, hie2⟩ := info_parts Try.infE68
  obtain ⟨ii, hii, hii0, hii1, hii2⟩ := info_parts Try.infJ3
  have B0 := hide (Go.Joins.below_alloc2 w (.cells #[.int .i64 id, .int .i64 nd, .int .i64 tm, .int .i64 vt, .int .i64 ro, .bool up, .slice a n cap, .int .i64 cm, .int .i64 el, .int .i64 wt, .slice av nv cv, .slice ax nx cx, .slice ag ng cg] 29) (.cells #[.int .i64 0, .int .i64 0, .int .i64 0, .int .i64 0, .int .i64 0, .bool false, .slice none 0 0, .int .i64 0, .int .i64 0, .int .i64 0, .slice none 0 0, .slice none 0 0, .slice none 0 0] 29))
  have A0 := hide ((BF.new w #[.int .i64 id, .int .i64 nd, .int .i64 tm, .int .i64 vt, .int .i64 ro, .bool up, .slice a n cap, .int .i64 cm, .int .i64 el, .int .i64 wt, .slice av nv cv, .slice ax nx cx, .slice ag ng cg] 29).alloc (.cells #[.int .i64 0, .int .i64 0, .int .i64 0, .int .i64 0, .int .i64 0, .bool false, .slice none 0 0, .int .i64 0, .int .i64 0, .int .i64 0, .slice none 0 0, .slice none 0 0, .slice none 0 0] 29))
  have Z0 := hide (BF.new (w.alloc (.cells #[.int .i64 id, .int .i64 nd, .int .i64 tm, .int .i64 vt, .int .i64 ro, .bool up, .slice a n cap, .int .i64 cm, .int .i64 el, .int .i64 wt, .slice av nv cv, .slice ax nx cx, .slice ag ng cg] 29)) #[.int .i64 0, .int .i64 0, .int .i64 0, .int .i64 0, .int .i64 0, .bool false, .slice none 0 0, .int .i64 0, .int .i64 0, .int .i64 0, .slice none 0 0, .slice none 0 0, .slice none 0 0] 29)
  simp only [World.size_alloc] at Z0
  have HRe := hide hr
  have HRv := hide hrv
  have HRx := hide hrx
  have HRg := hide hrg
  clear hr hrv hrx hrg
  go_enter Try.func18, Try.ntmps18
  go_upto_region 1 with fail
  generalize ((w.alloc (.cells #[.int .i64 id, .int .i64 nd, .int .i64 tm, .int .i64 vt, .int .i64 ro, .bool up, .slice a n cap, .int .i64 cm, .int .i64 el, .int .i64 wt, .slice av nv cv, .slice ax nx cx, .slice ag ng cg] 29)).alloc (.cells #[.int .i64 0, .int .i64 0, .int .i64 0, .int .i64 0, .int .i64 0, .bool false, .slice none 0 0, .int .i64 0, .int .i64 0, .int .i64 0, .slice none 0 0, .slice none 0 0, .slice none 0 0] 29)) = W0 at A0 Z0 B0 ⊢
  have hb0 : Below W0.heap.size W0 (W0.alloc (.cells #[] 68)) := Go.Joins.below_alloc1 W0 (.cells #[] 68)
  have AL0 := hide ((unhide A0).below hb0)
  have ZL0 := hide ((unhide Z0).below hb0)
  have BL0 := hide ((unhide B0).trans (hb0.mono (unhide B0).size))
  have OL0 := hide (lit_emptyE W0 68 W0.heap.size (Nat.le_refl _))
  have HW0 := hide ((unhide HRe).below (unhide BL0))
  have zl0 := (unhide Z0).lt
  have ka0 := (unhide AL0).S
  clear hb0
  go_upto_region 2 with (at_builtin; refine append_ents _ rfl (.tmp 3) (.tmp 5) 27 rfl W0.heap.size 68 ie Try.underlying27 hie hie0 hie1 hie2 _ rfl (unhide OL0) a cap n l (unhide HN) rfl (unhide HW0) hn (by simp) ?_; intro v' w1 ho1 hg1; obtain ⟨eA, eC, rfl, -⟩ := ownZ_rowV ho1; have A9x := (unhide AL0).grown hg1 (fun h => by have e : W0.heap.size = w.heap.size := Option.some.inj h; omega); have kb := A9x.S; have kbf := A9x.F)
  have hk : ∀ j, (Value.slice (some ⟨W0.heap.size, 0, none⟩) 0 0).ownBlock = some j → j = W0.heap.size := (fun j hj => (Option.some.inj hj).symm)
  have Z9x := (unhide ZL0).grown hg1 (fun h => by have := hk _ h; omega)
  have B9x := (unhide BL0).grown hg1 (unhide BL0).size (fun j hj => by have := hk j hj; omega)
  obtain ⟨W1, hW⟩ : ∃ W9, W9 = w1.setCell ⟨w.heap.size, 6, none⟩ (.slice eA n eC) := ⟨_, rfl⟩
  have hf : ∀ j, j ≠ w.heap.size → W1.heap[j]? = w1.heap[j]? := fun j hj => by rw [hW]; exact Below.heap_setCell _ _ _ _ hj
  have hs : w1.heap.size ≤ W1.heap.size := by rw [hW]; simp
  have A1 := hide (show BF w.heap.size #[.int .i64 id, .int .i64 nd, .int .i64 tm, .int .i64 vt, .int .i64 ro, .bool up, .slice eA n eC, .int .i64 cm, .int .i64 el, .int .i64 wt, .slice av nv cv, .slice ax nx cx, .slice ag ng cg] W1 by rw [hW]; exact A9x.set 6 (by simp) _)
  have Z1 := hide (Z9x.keep hs (hf _ (by omega)))
  have B1 := hide (show Below w.heap.size w W1 by rw [hW]; exact Below.setCell B9x (by exact Nat.le_refl _) _)
  have e1 := hide (heldZ_far (heldZ_of ho1) hf hs (.inl (by omega)))
  have em : Hid (∀ j, (Value.slice eA n eC).ownBlock = some j → W0.heap.size ≤ j ∧ j < W1.heap.size) := fun j hj => by have := ho1.lt j hj; omega
  have eo : Hid (w.heap.size + 1 < W0.heap.size) := zl0
  have m01 : Hid (W0.heap.size ≤ W1.heap.size) := by show _ ≤ _; have := hg1.size; simp only [World.size_alloc] at this; omega
  rw [← hW]
  clear A0 Z0 B0 AL0 ZL0 BL0 OL0 HW0 ho1 hg1 A9x kb kbf ka0 hk Z9x B9x hf hs hW 
  have hb1 : Below W1.heap.size W1 (W1.alloc (.cells #[] 3)) := Go.Joins.below_alloc1 W1 (.cells #[] 3)
  have AL1 := hide ((unhide A1).below hb1)
  have ZL1 := hide ((unhide Z1).below hb1)
  have BL1 := hide ((unhide B1).trans (hb1.mono (unhide B1).size))
  have OL1 := hide (lit_emptyJ W1 3 W1.heap.size (Nat.le_refl _))
  have HW1 := hide ((unhide HRv).below (unhide BL1))
  have Le1 := hide ((unhide e1).below hb1 (unhide e1).2.2)
  have zl1 := (unhide Z1).lt
  have ka1 := (unhide AL1).S
  clear hb1
  go_upto_region 3 with (at_builtin; refine append_intsJ _ rfl (.tmp 8) (.tmp 10) 23 rfl W1.heap.size 3 ii Try.underlying23 hii hii0 hii1 hii2 _ rfl (unhide OL1) av cv nv lv (unhide HNv) rfl (unhide HW1) hnv (by simp) ?_; intro v' w1 ho1 hg1; obtain ⟨vA, vC, rfl, -⟩ := ownZ_rowV ho1; have A9x := (unhide AL1).grown hg1 (fun h => by have e : W1.heap.size = w.heap.size := Option.some.inj h; omega); have kb := A9x.S; have kbf := A9x.F)
  have hk : ∀ j, (Value.slice (some ⟨W1.heap.size, 0, none⟩) 0 0).ownBlock = some j → j = W1.heap.size := (fun j hj => (Option.some.inj hj).symm)
  have Z9x := (unhide ZL1).grown hg1 (fun h => by have := hk _ h; omega)
  have B9x := (unhide BL1).grown hg1 (unhide BL1).size (fun j hj => by have := hk j hj; omega)
  have eg := HeldZ.grown (z := 2) (unhide Le1) hg1 (fun j hj => by have := hk j hj; have := (unhide e1).2.2; omega)
  obtain ⟨W2, hW⟩ : ∃ W9, W9 = w1.setCell ⟨w.heap.size, 10, none⟩ (.slice vA nv vC) := ⟨_, rfl⟩
  have hf : ∀ j, j ≠ w.heap.size → W2.heap[j]? = w1.heap[j]? := fun j hj => by rw [hW]; exact Below.heap_setCell _ _ _ _ hj
  have hs : w1.heap.size ≤ W2.heap.size := by rw [hW]; simp
  have A2 := hide (show BF w.heap.size #[.int .i64 id, .int .i64 nd, .int .i64 tm, .int .i64 vt, .int .i64 ro, .bool up, .slice eA n eC, .int .i64 cm, .int .i64 el, .int .i64 wt, .slice vA nv vC, .slice ax nx cx, .slice ag ng cg] W2 by rw [hW]; exact A9x.set 10 (by simp) _)
  have Z2 := hide (Z9x.keep hs (hf _ (by omega)))
  have B2 := hide (show Below w.heap.size w W2 by rw [hW]; exact Below.setCell B9x (by exact Nat.le_refl _) _)
  have v2 := hide (heldZ_far (heldZ_of ho1) hf hs (.inl (by omega)))
  have vm : Hid (∀ j, (Value.slice vA nv vC).ownBlock = some j → W1.heap.size ≤ j ∧ j < W2.heap.size) := fun j hj => by have := ho1.lt j hj; omega
  have e2 := hide (heldZ_far eg hf hs (.inl (by have := (unhide eo); omega)))
  have vo : Hid (w.heap.size + 1 < W1.heap.size) := zl1
  have m12 : Hid (W1.heap.size ≤ W2.heap.size) := by show _ ≤ _; have := hg1.size; simp only [World.size_alloc] at this; omega
  rw [← hW]
  clear A1 Z1 B1 AL1 ZL1 BL1 OL1 HW1 ho1 hg1 A9x kb kbf ka1 hk Z9x B9x hf hs hW e1 Le1 eg
  have hb2 : Below W2.heap.size W2 (W2.alloc (.cells #[] 3)) := Go.Joins.below_alloc1 W2 (.cells #[] 3)
  have AL2 := hide ((unhide A2).below hb2)
  have ZL2 := hide ((unhide Z2).below hb2)
  have BL2 := hide ((unhide B2).trans (hb2.mono (unhide B2).size))
  have OL2 := hide (lit_emptyJ W2 3 W2.heap.size (Nat.le_refl _))
  have HW2 := hide ((unhide HRx).below (unhide BL2))
  have Le2 := hide ((unhide e2).below hb2 (unhide e2).2.2)
  have Lv2 := hide ((unhide v2).below hb2 (unhide v2).2.2)
  have zl2 := (unhide Z2).lt
  have ka2 := (unhide AL2).S
  clear hb2
  go_upto_region 4 with (at_builtin; refine append_intsJ _ rfl (.tmp 13) (.tmp 15) 23 rfl W2.heap.size 3 ii Try.underlying23 hii hii0 hii1 hii2 _ rfl (unhide OL2) ax cx nx lx (unhide HNx) rfl (unhide HW2) hnx (by simp) ?_; intro v' w1 ho1 hg1; obtain ⟨xA, xC, rfl, -⟩ := ownZ_rowV ho1; have A9x := (unhide AL2).grown hg1 (fun h => by have e : W2.heap.size = w.heap.size := Option.some.inj h; omega); have kb := A9x.S; have kbf := A9x.F)
  have hk : ∀ j, (Value.slice (some ⟨W2.heap.size, 0, none⟩) 0 0).ownBlock = some j → j = W2.heap.size := (fun j hj => (Option.some.inj hj).symm)
  have Z9x := (unhide ZL2).grown hg1 (fun h => by have := hk _ h; omega)
  have B9x := (unhide BL2).grown hg1 (unhide BL2).size (fun j hj => by have := hk j hj; omega)
  have eg := HeldZ.grown (z := 2) (unhide Le2) hg1 (fun j hj => by have := hk j hj; have := (unhide e2).2.2; omega)
  have vg := HeldZ.grown (z := 1) (unhide Lv2) hg1 (fun j hj => by have := hk j hj; have := (unhide v2).2.2; omega)
  obtain ⟨W3, hW⟩ : ∃ W9, W9 = w1.setCell ⟨w.heap.size, 11, none⟩ (.slice xA nx xC) := ⟨_, rfl⟩
  have hf : ∀ j, j ≠ w.heap.size → W3.heap[j]? = w1.heap[j]? := fun j hj => by rw [hW]; exact Below.heap_setCell _ _ _ _ hj
  have hs : w1.heap.size ≤ W3.heap.size := by rw [hW]; simp
  have A3 := hide (show BF w.heap.size #[.int .i64 id, .int .i64 nd, .int .i64 tm, .int .i64 vt, .int .i64 ro, .bool up, .slice eA n eC, .int .i64 cm, .int .i64 el, .int .i64 wt, .slice vA nv vC, .slice xA nx xC, .slice ag ng cg] W3 by rw [hW]; exact A9x.set 11 (by simp) _)
  have Z3 := hide (Z9x.keep hs (hf _ (by omega)))
  have B3 := hide (show Below w.heap.size w W3 by rw [hW]; exact Below.setCell B9x (by exact Nat.le_refl _) _)
  have x3 := hide (heldZ_far (heldZ_of ho1) hf hs (.inl (by omega)))
  have xm : Hid (∀ j, (Value.slice xA nx xC).ownBlock = some j → W2.heap.size ≤ j ∧ j < W3.heap.size) := fun j hj => by have := ho1.lt j hj; omega
  have e3 := hide (heldZ_far eg hf hs (.inl (by have := (unhide eo); omega)))
  have v3 := hide (heldZ_far vg hf hs (.inl (by have := (unhide vo); omega)))
  have xo : Hid (w.heap.size + 1 < W2.heap.size) := zl2
  have m23 : Hid (W2.heap.size ≤ W3.heap.size) := by show _ ≤ _; have := hg1.size; simp only [World.size_alloc] at this; omega
  rw [← hW]
  clear A2 Z2 B2 AL2 ZL2 BL2 OL2 HW2 ho1 hg1 A9x kb kbf ka2 hk Z9x B9x hf hs hW e2 Le2 eg v2 Lv2 vg
  have hb3 : Below W3.heap.size W3 (W3.alloc (.cells #[] 3)) := Go.Joins.below_alloc1 W3 (.cells #[] 3)
  have AL3 := hide ((unhide A3).below hb3)
  have ZL3 := hide ((unhide Z3).below hb3)
  have BL3 := hide ((unhide B3).trans (hb3.mono (unhide B3).size))
  have OL3 := hide (lit_emptyJ W3 3 W3.heap.size (Nat.le_refl _))
  have HW3 := hide ((unhide HRg).below (unhide BL3))
  have Le3 := hide ((unhide e3).below hb3 (unhide e3).2.2)
  have Lv3 := hide ((unhide v3).below hb3 (unhide v3).2.2)
  have Lx3 := hide ((unhide x3).below hb3 (unhide x3).2.2)
  have zl3 := (unhide Z3).lt
  have ka3 := (unhide AL3).S
  clear hb3
  go_upto_region 5 with (at_builtin; refine append_intsJ _ rfl (.tmp 18) (.tmp 20) 23 rfl W3.heap.size 3 ii Try.underlying23 hii hii0 hii1 hii2 _ rfl (unhide OL3) ag cg ng lg (unhide HNg) rfl (unhide HW3) hng (by simp) ?_; intro v' w1 ho1 hg1; obtain ⟨gA, gC, rfl, -⟩ := ownZ_rowV ho1; have A9x := (unhide AL3).grown hg1 (fun h => by have e : W3.heap.size = w.heap.size := Option.some.inj h; omega); have kb := A9x.S; have kbf := A9x.F)
  have hk : ∀ j, (Value.slice (some ⟨W3.heap.size, 0, none⟩) 0 0).ownBlock = some j → j = W3.heap.size := (fun j hj => (Option.some.inj hj).symm)
  have Z9x := (unhide ZL3).grown hg1 (fun h => by have := hk _ h; omega)
  have B9x := (unhide BL3).grown hg1 (unhide BL3).size (fun j hj => by have := hk j hj; omega)
  have eg := HeldZ.grown (z := 2) (unhide Le3) hg1 (fun j hj => by have := hk j hj; have := (unhide e3).2.2; omega)
  have vg := HeldZ.grown (z := 1) (unhide Lv3) hg1 (fun j hj => by have := hk j hj; have := (unhide v3).2.2; omega)
  have xg := HeldZ.grown (z := 1) (unhide Lx3) hg1 (fun j hj => by have := hk j hj; have := (unhide x3).2.2; omega)
  obtain ⟨W4, hW⟩ : ∃ W9, W9 = w1.setCell ⟨w.heap.size, 12, none⟩ (.slice gA ng gC) := ⟨_, rfl⟩
  have hf : ∀ j, j ≠ w.heap.size → W4.heap[j]? = w1.heap[j]? := fun j hj => by rw [hW]; exact Below.heap_setCell _ _ _ _ hj
  have hs : w1.heap.size ≤ W4.heap.size := by rw [hW]; simp
  have A4 := hide (show BF w.heap.size #[.int .i64 id, .int .i64 nd, .int .i64 tm, .int .i64 vt, .int .i64 ro, .bool up, .slice eA n eC, .int .i64 cm, .int .i64 el, .int .i64 wt, .slice vA nv vC, .slice xA nx xC, .slice gA ng gC] W4 by rw [hW]; exact A9x.set 12 (by simp) _)
  have Z4 := hide (Z9x.keep hs (hf _ (by omega)))
  have B4 := hide (show Below w.heap.size w W4 by rw [hW]; exact Below.setCell B9x (by exact Nat.le_refl _) _)
  have g4 := hide (heldZ_far (heldZ_of ho1) hf hs (.inl (by omega)))
  have gm : Hid (∀ j, (Value.slice gA ng gC).ownBlock = some j → W3.heap.size ≤ j ∧ j < W4.heap.size) := fun j hj => by have := ho1.lt j hj; omega
  have e4 := hide (heldZ_far eg hf hs (.inl (by have := (unhide eo); omega)))
  have v4 := hide (heldZ_far vg hf hs (.inl (by have := (unhide vo); omega)))
  have x4 := hide (heldZ_far xg hf hs (.inl (by have := (unhide xo); omega)))
  have go_ : Hid (w.heap.size + 1 < W3.heap.size) := zl3
  have m34 : Hid (W3.heap.size ≤ W4.heap.size) := by show _ ≤ _; have := hg1.size; simp only [World.size_alloc] at this; omega
  rw [← hW]
  clear A3 Z3 B3 AL3 ZL3 BL3 OL3 HW3 ho1 hg1 A9x kb kbf ka3 hk Z9x B9x hf hs hW e3 Le3 eg v3 Lv3 vg x3 Lx3 xg
  have ka := (unhide A4).S
  have kz := (unhide Z4).S
  have kzf := (unhide Z4).F
  obtain ⟨wz, hvz, hFZ, hfz, hbz⟩ := put13 W4 (unhide Z4) (.int .i64 id) (.int .i64 nd) (.int .i64 tm) (.int .i64 vt) (.int .i64 ro) (.bool up) (.slice eA n eC) (.int .i64 cm) (.int .i64 el) (.int .i64 wt) (.slice vA nv vC) (.slice xA nx xC) (.slice gA ng gC)
  have kf := hFZ.S
  have ez := own_low (heldZ_far (unhide e4) hfz hbz.size (.inl (by have := unhide eo; omega))).1 (show w.heap.size ≤ W0.heap.size by have := unhide eo; omega)
  have vz := own_low (heldZ_far (unhide v4) hfz hbz.size (.inl (by have := unhide vo; omega))).1 (show w.heap.size ≤ W1.heap.size by have := unhide vo; omega)
  have xz := own_low (heldZ_far (unhide x4) hfz hbz.size (.inl (by have := unhide xo; omega))).1 (show w.heap.size ≤ W2.heap.size by have := unhide xo; omega)
  have gz := own_low (heldZ_far (unhide g4) hfz hbz.size (.inl (by have := unhide go_; omega))).1 (show w.heap.size ≤ W3.heap.size by have := unhide go_; omega)
  have BZ := (unhide B4).trans (hbz.mono (Nat.le_succ _))
  have D1 : ∀ j, (Value.slice vA nv vC).ownBlock = some j → (Value.slice xA nx xC).ownBlock ≠ some j ∧ (Value.slice gA ng gC).ownBlock ≠ some j := fun j hj => ⟨fun e => by have := unhide vm j hj; have := unhide xm j e; omega, fun e => by have := unhide vm j hj; have := unhide gm j e; have := unhide m23; omega⟩
  have D2 : ∀ j, (Value.slice xA nx xC).ownBlock = some j → (Value.slice gA ng gC).ownBlock ≠ some j := fun j hj e => by have := unhide xm j hj; have := unhide gm j e; omega
  have FIN := hide (And.intro ez (And.intro vz (And.intro xz (And.intro gz (And.intro D1 (And.intro D2 BZ))))))
  have HVZ := hide hvz
  clear ez vz xz gz BZ D1 D2 hfz hbz hvz
  go_wp2_with fail
  rw [← unhide HVZ]
  obtain ⟨ez, vz, xz, gz, D1, D2, BZ⟩ := unhide FIN
  exact bodyPost_ret (v := .agg #[.int .i64 id, .int .i64 nd, .int .i64 tm, .int .i64 vt, .int .i64 ro, .bool up, .slice eA n eC, .int .i64 cm, .int .i64 el, .int .i64 wt, .slice vA nv vC, .slice xA nx xC, .slice gA ng gC]) (by simp [results, Try.results18, go_sem, kf]) rfl ⟨eA, eC, vA, vC, xA, xC, gA, gC, rfl, ez, vz, xz, gz, D1, D2, BZ⟩
theorem sownN (id nd tm vt ro cm el wt : Int) (up : Bool) (a : Option Addr) (cap n : Nat) (l : List (Int × ByteArray)) (HN : Hid (l.length = n)) (av : Option Addr) (cv nv : Nat) (lv : List Int) (HNv : Hid (lv.length = nv)) (ax : Option Addr) (cx nx : Nat) (lx : List Int) (HNx : Hid (lx.length = nx)) (ag : Option Addr) (cg ng : Nat) (lg : List Int) (HNg : Hid (lg.length = ng)) (hn : n ≤ 1048576) (hnv : nv ≤ 1048576) (hnx : nx ≤ 1048576) (hng : ng ≤ 1048576) (w : World) (hr : RowV w a (cE l)) (hrv : RowV w av (cI lv)) (hrx : RowV w ax (cI lx)) (hrg : RowV w ag (cI lg)) :
    Calls Try.prog 18 #[.agg #[.int .i64 id, .int .i64 nd, .int .i64 tm, .int .i64 vt, .int .i64 ro, .bool up, .slice a n cap, .int .i64 cm, .int .i64 el, .int .i64 wt, .slice av nv cv, .slice ax nx cx, .slice ag ng cg]] w fun e w' => ∃ eA eC vA vC xA xC gA gC, e = .returned (.agg #[.int .i64 id, .int .i64 nd, .int .i64 tm, .int .i64 vt, .int .i64 ro, .bool up, .slice eA n eC, .int .i64 cm, .int .i64 el, .int .i64 wt, .slice vA nv vC, .slice xA nx xC, .slice gA ng gC]) ∧ w'.ownsRow w.heap.size 68 2 (.slice eA n eC) n (cE l) ∧ w'.ownsRow w.heap.size 3 1 (.slice vA nv vC) nv (cI lv) ∧ w'.ownsRow w.heap.size 3 1 (.slice xA nx xC) nx (cI lx) ∧ w'.ownsRow w.heap.size 3 1 (.slice gA ng gC) ng (cI lg) ∧ Below w.heap.size w w' :=
  (sownA id nd tm vt ro cm el wt up a cap n l HN av cv nv lv HNv ax cx nx lx HNx ag cg ng lg HNg hn hnv hnx hng w hr hrv hrx hrg).mono fun e w' ⟨eA, eC, vA, vC, xA, xC, gA, gC, h0, h1, h2, h3, h4, _, _, h5⟩ => ⟨eA, eC, vA, vC, xA, xC, gA, gC, h0, h1, h2, h3, h4, h5⟩
end Go.Proofs.Ytjlajpnhcphngaa
