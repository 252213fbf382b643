/- impl.faultCode of a fault. -/
import Derived.Test.YtoplijjddhecgaaDoorZAsH
namespace Go.Proofs.YtoplijjddhecgaaDoor
open Go.RowKit Go.Extern.Stop Go.Stop Go.Extern
theorem flt_hitB (tb : Nat) (c : Int) (u : TypeId) (y o0 o1 : Value) (w : World) (hg : w.cell? ⟨3, 0, none⟩ = some (.iface 103 (.agg #[.pointer (some ⟨4, 64, none⟩)]))) (h0 : w.cell? ⟨tb, 0, none⟩ = some o0) (h1 : w.cell? ⟨tb, 1, none⟩ = some o1) (f0 : w.frozen? ⟨tb, 0, none⟩ = false) (f1 : w.frozen? ⟨tb, 1, none⟩ = false) :
    Calls Tryd.prog 58 #[.iface 79 (.agg #[.int .i64 c, .iface u y]), .iface 83 (.pointer (some ⟨tb, 0, none⟩))] w fun ev w' => ev = .returned (.bool true) ∧ w'.cell? ⟨tb, 0, none⟩ = some (.int .i64 c) ∧ Below tb w w' := by
  have htl : tb < w.heap.size := World.block_lt_of_cell? w _ h0
  refine (flt_hit tb c u y o0 o1 w hg h0 h1 f0 f1).mono ?_
  rintro ev w' ⟨rfl, rfl⟩
  refine ⟨rfl, ?_, ?_⟩
  · refine Eq.trans (by apply World.cell?_setCell_other; simp) ?_
    apply World.cell?_setCell_same (u := o0)
    rw [World.cell?_alloc_lt _ _ ⟨tb, 0, none⟩ (by simp <;> omega), World.cell?_alloc_lt _ _ ⟨tb, 0, none⟩ (by simp <;> omega), World.cell?_alloc_lt _ _ ⟨tb, 0, none⟩ (by simp <;> omega), World.cell?_alloc_lt _ _ ⟨tb, 0, none⟩ htl]; exact h0
  · exact ((((((Below.refl tb w).alloc (Nat.le_of_lt htl) _).alloc (by simp <;> omega) _).alloc (by simp <;> omega) _).alloc (by simp <;> omega) _).setCell (Nat.le_refl _) _).setCell (Nat.le_refl _) _
theorem ifcode (c : Int) (u : TypeId) (y : Value) (w : World) (hg : w.cell? ⟨3, 0, none⟩ = some (.iface 103 (.agg #[.pointer (some ⟨4, 64, none⟩)]))) :
    Calls Tryd.prog 39 #[.iface 79 (.agg #[.int .i64 c, .iface u y])] w fun e w' => e = .returned (.int .i64 c) ∧ Below w.heap.size w w' := by
  have hlt : 3 < w.heap.size := World.block_lt_of_cell? w _ hg
  go_enter Tryd.func39, Tryd.ntmps39
  have g1 : (w.alloc (Obj.cells #[Value.int IntKind.i64 0, Value.nilIface] 79)).cell? ⟨3, 0, none⟩ = some (.iface 103 (.agg #[.pointer (some ⟨4, 64, none⟩)])) := by
    rw [World.cell?_alloc_lt _ _ ⟨3, 0, none⟩ hlt]; exact hg
  have g2 : (w.alloc (Obj.cells #[Value.int IntKind.i64 0, Value.nilIface] 79)).cell? ⟨w.heap.size, 0, none⟩ = some (.int .i64 0) := by simp
  have g3 : (w.alloc (Obj.cells #[Value.int IntKind.i64 0, Value.nilIface] 79)).cell? ⟨w.heap.size, 1, none⟩ = some .nilIface := by simp
  have g4 : ∀ o, (w.alloc (Obj.cells #[Value.int IntKind.i64 0, Value.nilIface] 79)).frozen? ⟨w.heap.size, o, none⟩ = false := by intro o; simp
  go_wp2_with (go_at_call 58; refine (flt_hitB w.heap.size c u y (.int .i64 0) .nilIface _ g1 g2 g3 (g4 0) (g4 1)).mono ?_; rintro e w1 ⟨rfl, hc, hb⟩)
  go_ret
  exact ⟨rfl, ((Below.refl _ _).alloc (Nat.le_refl _) _).trans hb⟩
end Go.Proofs.YtoplijjddhecgaaDoor
