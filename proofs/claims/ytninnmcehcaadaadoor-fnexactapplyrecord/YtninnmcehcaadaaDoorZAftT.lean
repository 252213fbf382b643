/- (State).after at each kind of record: what the program answers. -/
import Derived.Test.YtninnmcehcaadaaDoorZG21
namespace Go.Proofs.YtninnmcehcaadaaDoor
open Go.ChangeShapes Go.WideShapes Go.ChangeAt Go.RowKit
set_option linter.unusedVariables false
set_option maxHeartbeats 1000000 in
set_option maxRecDepth 100000 in
theorem iafter_term (tm vt x y : Int) (a : Option Addr) (cap n : Nat) (t : ByteArray) (ht : t.size ≤ 65536) (HF : Hid (∀ m, rfOf t.data.toList = some m → ∀ k (hk : k < m.length), m[k].size ≤ 20000)) (H : Hid (recP t = some (⟨#[116]⟩, [x, y], []))) (w : World) (hE : ErrsIn w) :
    Calls Tryd.prog 32 #[.agg #[.int .i64 tm, .int .i64 vt, .slice a n cap], .string t] w fun e w' => e = .returned (.tuple #[.agg #[.int .i64 x, .int .i64 y, .slice a n cap], .nilIface]) ∧ Below w.heap.size w w' := by
  have B0 := hide (Go.Joins.below_alloc2 w (.cells #[.int .i64 tm, .int .i64 vt, .slice a n cap] 28) (.cells #[.int .i64 0, .int .i64 0, .slice none 0 0] 28))
  have A0 := hide ((BF.new w #[.int .i64 tm, .int .i64 vt, .slice a n cap] 28).alloc (.cells #[.int .i64 0, .int .i64 0, .slice none 0 0] 28))
  have Z0 := hide (BF.new (w.alloc (.cells #[.int .i64 tm, .int .i64 vt, .slice a n cap] 28)) #[.int .i64 0, .int .i64 0, .slice none 0 0] 28)
  rw [show (w.alloc (.cells #[.int .i64 tm, .int .i64 vt, .slice a n cap] 28)).heap.size = w.heap.size + 1 from by simp] at Z0
  have T := irec_some t ⟨#[116]⟩ [x, y] [] ht HF H 2 0 rfl rfl _ (hE.below (unhide B0))
  clear hE
  go_enter Tryd.func32, Tryd.ntmps32
  go_wp2_with fail
  refine T.mono ?_
  clear T
  rintro e w1 ⟨ai, ci, ar, cr, rfl, hi1, hr1, hgi, hgr, hb1⟩
  have hz2 : ((w.alloc (.cells #[.int .i64 tm, .int .i64 vt, .slice a n cap] 28)).alloc (.cells #[.int .i64 0, .int .i64 0, .slice none 0 0] 28)).heap.size = w.heap.size + 2 := by simp
  rw [hz2] at hgi hgr
  clear hz2
  have B1 := hide ((unhide B0).trans (hb1.mono (unhide B0).size))
  have A1 := hide ((unhide A0).below hb1)
  have Z1 := hide ((unhide Z0).below hb1)
  have hsz := (unhide B1).size
  have hlt := (unhide Z1).lt
  have RW := hide (BF.new w1 #[.string ⟨#[116]⟩, .slice ai 2 ci, .slice ar 0 cr] 71)
  have BW := hide ((unhide B1).alloc (unhide B1).size (.cells #[.string ⟨#[116]⟩, .slice ai 2 ci, .slice ar 0 cr] 71))
  have AW := hide ((unhide A1).alloc (.cells #[.string ⟨#[116]⟩, .slice ai 2 ci, .slice ar 0 cr] 71))
  have ZW := hide ((unhide Z1).alloc (.cells #[.string ⟨#[116]⟩, .slice ai 2 ci, .slice ar 0 cr] 71))
  have IW := hide (hi1.below ((Below.refl _ _).alloc (Nat.le_refl _) (.cells #[.string ⟨#[116]⟩, .slice ai 2 ci, .slice ar 0 cr] 71)))
  have HW := hide (hr1.below ((Below.refl _ _).alloc (Nat.le_refl _) (.cells #[.string ⟨#[116]⟩, .slice ai 2 ci, .slice ar 0 cr] 71)))
  clear B0 A0 Z0 hb1 hi1 hr1 A1 Z1 B1
  go_wp2_with fail
  refine (iis_rec ⟨#[116]⟩ ⟨#[116]⟩ ai 2 ci ar 0 cr 2 0 (by decide) (by decide) true rfl _).mono ?_
  rintro e w2 ⟨rfl, hb2⟩
  have B2 := hide ((unhide BW).trans (hb2.mono (unhide BW).size))
  have A2 := hide ((unhide AW).below hb2)
  have Z2 := hide ((unhide ZW).below hb2)
  have R2 := hide ((unhide RW).below hb2)
  obtain ⟨b, off, rfl, hblt, hcel⟩ := ((unhide IW).below hb2).at (by simp [cI])
  have hb9 : w.heap.size + 2 ≤ b := hgi _ rfl
  have kx : w2.cell? ⟨b, off, none⟩ = some (.int .i64 x) := hcel 0 _ (by simp [cI])
  have ky : w2.cell? ⟨b, off + 1, none⟩ = some (.int .i64 y) := hcel 1 _ (by simp [cI])
  clear BW AW ZW RW IW HW hb2 hcel
  have ka := (unhide A2).S
  have kaf := (unhide A2).F
  have kz := (unhide Z2).S
  have kzf := (unhide Z2).F
  have kr := (unhide R2).S
  go_wp2_with fail
  have hn1 : ∀ o o2, (⟨w.heap.size, o, none⟩ : Addr) ≠ ⟨b, o2, none⟩ := by intro o o2 h; injection h with h; omega
  have hn2 : ∀ o o2, (⟨w.heap.size, o, none⟩ : Addr) ≠ ⟨w1.heap.size, o2, none⟩ := by intro o o2 h; injection h with h; omega
  clear hgi hgr
  go_region_held3 (fun w' => w'.cell? ⟨w1.heap.size, 1, none⟩ = some (.slice (some ⟨b, off, none⟩) 2 ci) ∧ w'.cell? ⟨b, off, none⟩ = some (.int .i64 x) ∧ w'.cell? ⟨b, off + 1, none⟩ = some (.int .i64 y)) (first | exact ⟨kr 1, kx, ky⟩ | exact ⟨(World.cell?_setCell_other _ _ _ _ (hn2 0 1)).trans (kr 1), (World.cell?_setCell_other _ _ _ _ (hn1 0 off)).trans kx, (World.cell?_setCell_other _ _ _ _ (hn1 0 (off + 1))).trans ky⟩ | exact ⟨(World.cell?_setCell_other _ _ _ _ (hn2 1 1)).trans ((World.cell?_setCell_other _ _ _ _ (hn2 0 1)).trans (kr 1)), (World.cell?_setCell_other _ _ _ _ (hn1 1 off)).trans ((World.cell?_setCell_other _ _ _ _ (hn1 0 off)).trans kx), (World.cell?_setCell_other _ _ _ _ (hn1 1 (off + 1))).trans ((World.cell?_setCell_other _ _ _ _ (hn1 0 (off + 1))).trans ky)⟩) (fail)
  go_wp2_with fail
  refine bodyPost_ret (v := .tuple #[.agg #[.int .i64 x, .int .i64 y, .slice a n cap], .nilIface]) (by simp [results, Tryd.results32, go_sem, kz]) rfl ⟨rfl, ?_⟩
  repeat first | refine Below.drew ?_ | refine Below.setCell ?_ (by first | exact Nat.le_succ _ | exact Nat.le_refl _) _
  exact unhide B2
end Go.Proofs.YtninnmcehcaadaaDoor
