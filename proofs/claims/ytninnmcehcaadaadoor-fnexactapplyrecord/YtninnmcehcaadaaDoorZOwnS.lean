/- spec.l07Own: a state with a log of its own. -/
import Derived.Test.YtninnmcehcaadaaDoorZAftU
import Derived.Test.YtninnmcehcaadaaDoorZG18
namespace Go.Proofs.YtninnmcehcaadaaDoor
open Go.ChangeShapes Go.WideShapes Go.ChangeAt Go.RowKit
set_option linter.unusedVariables false
set_option maxHeartbeats 4000000 in
set_option maxRecDepth 100000 in
theorem sown (tm vt : Int) (a : Option Addr) (cap n : Nat) (l : List (Int × ByteArray)) (HN : Hid (l.length = n)) (hn : n ≤ 1048576) (w : World) (hr : RowV w a (cE l)) :
    Calls Tryd.prog 14 #[.agg #[.int .i64 tm, .int .i64 vt, .slice a n cap]] w fun e w' => ∃ v, e = .returned (.agg #[.int .i64 tm, .int .i64 vt, v]) ∧ w'.ownsRow w.heap.size 53 2 v n (cE l) ∧ Below w.heap.size w w' := by
  obtain ⟨ie, hie, hie0, hie1, hie2⟩ := info_parts Tryd.infE53
  have B0 := hide (Go.Joins.below_alloc3 w (.cells #[.int .i64 tm, .int .i64 vt, .slice a n cap] 28) (.cells #[.int .i64 0, .int .i64 0, .slice none 0 0] 28) (.cells #[] 53))
  have A0 := hide (((BF.new w #[.int .i64 tm, .int .i64 vt, .slice a n cap] 28).alloc (.cells #[.int .i64 0, .int .i64 0, .slice none 0 0] 28)).alloc (.cells #[] 53))
  have Z0 := hide ((BF.new (w.alloc (.cells #[.int .i64 tm, .int .i64 vt, .slice a n cap] 28)) #[.int .i64 0, .int .i64 0, .slice none 0 0] 28).alloc (.cells #[] 53))
  simp only [World.size_alloc] at Z0
  have HW := hide (hr.below (unhide B0))
  have OL := hide (World.ownsRow_lit (e := 53) (base := w.heap.size + 2) (size := 2) ((w.alloc (.cells #[.int .i64 tm, .int .i64 vt, .slice a n cap] 28)).alloc (.cells #[.int .i64 0, .int .i64 0, .slice none 0 0] 28)) #[] 0 (by simp) (by unfold maxLen; omega) rfl)
  simp only [World.size_alloc] at OL
  clear hr
  go_enter Tryd.func14, Tryd.ntmps14
  go_wp2_with (at_builtin; refine append_ents _ rfl (.tmp 3) (.tmp 5) 26 rfl (w.heap.size + 2) 53 ie Tryd.underlying26 hie hie0 hie1 hie2 _ rfl (unhide OL) a cap n l (unhide HN) rfl (unhide HW) hn (by simp) ?_; intro v' w1 ho1 hg1; obtain ⟨a1, c1, rfl, -⟩ := ownZ_rowV ho1; have hk : ∀ j, (Value.slice (some ⟨w.heap.size + 1 + 1, 0, none⟩) 0 0).ownBlock = some j → j = w.heap.size + 1 + 1 := (fun j hj => (Option.some.inj hj).symm); have A1 := hide ((unhide A0).grown hg1 (fun h => by have := hk _ h; omega)); have Z1 := hide ((unhide Z0).grown hg1 (fun h => by have := hk _ h; omega)); have B1 := hide ((unhide B0).grown hg1 (unhide B0).size (fun j hj => by have := hk j hj; omega)); have O1 := hide ho1; have ka := (unhide A1).S; have kaf := (unhide A1).F; have kz := (unhide Z1).S; have kzf := (unhide Z1).F; clear ho1 hg1 hk)
  refine bodyPost_ret (v := .agg #[.int .i64 tm, .int .i64 vt, .slice a1 n c1]) (by simp [results, Tryd.results14, go_sem, kz]) rfl ⟨_, rfl, ?_, ?_⟩
  · refine own_low ?_ (Nat.le_add_right _ 2)
    iterate 3 refine ownsRow_setCell_below ?_ (by show w.heap.size + 1 < w.heap.size + 2; omega) _
    refine ownsRow_setCell_below ?_ (by show w.heap.size < w.heap.size + 2; omega) _
    exact unhide O1
  · iterate 3 refine Below.setCell ?_ (by exact Nat.le_succ _) _
    refine Below.setCell ?_ (by exact Nat.le_refl _) _
    exact unhide B1
end Go.Proofs.YtninnmcehcaadaaDoor
