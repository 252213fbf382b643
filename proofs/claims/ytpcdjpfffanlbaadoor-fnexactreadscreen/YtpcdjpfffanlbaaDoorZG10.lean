/- Texts put together: AsF TakeI. -/
import Derived.Test.YtpcdjpfffanlbaaDoorZAsH
/- impl.faultCode of a fault. -/
namespace Go.Proofs.YtpcdjpfffanlbaaDoor
open Go.RowKit Go.Extern.Stop Go.Stop Go.Extern
theorem flt_hitB (tb : Nat) (c : Int) (u : TypeId) (y o0 o1 : Value) (w : World) (hg : w.cell? ⟨3, 0, none⟩ = some (.iface 92 (.agg #[.pointer (some ⟨4, 55, none⟩)]))) (h0 : w.cell? ⟨tb, 0, none⟩ = some o0) (h1 : w.cell? ⟨tb, 1, none⟩ = some o1) (f0 : w.frozen? ⟨tb, 0, none⟩ = false) (f1 : w.frozen? ⟨tb, 1, none⟩ = false) :
  Calls Tryd.prog 45 #[.iface 72 (.agg #[.int .i64 c, .iface u y]), .iface 76 (.pointer (some ⟨tb, 0, none⟩))] w fun ev w' => ev = .returned (.bool true) ∧ w'.cell? ⟨tb, 0, none⟩ = some (.int .i64 c) ∧ Below tb w w' := by
 have htl : tb < w.heap.size := World.block_lt_of_cell? w _ h0
 refine (flt_hit tb c u y o0 o1 w hg h0 h1 f0 f1).mono ?_
 rintro ev w' ⟨rfl, rfl⟩
 refine ⟨rfl, ?_, ?_⟩
 ·refine Eq.trans (by apply World.cell?_setCell_other; simp) ?_
  apply World.cell?_setCell_same (u := o0)
  rw [World.cell?_alloc_lt _ _ ⟨tb, 0, none⟩ (by simp <;> omega), World.cell?_alloc_lt _ _ ⟨tb, 0, none⟩ (by simp <;> omega), World.cell?_alloc_lt _ _ ⟨tb, 0, none⟩ (by simp <;> omega), World.cell?_alloc_lt _ _ ⟨tb, 0, none⟩ htl]; exact h0
 ·exact ((((((Below.refl tb w).alloc (Nat.le_of_lt htl) _).alloc (by simp <;> omega) _).alloc (by simp <;> omega) _).alloc (by simp <;> omega) _).setCell (Nat.le_refl _) _).setCell (Nat.le_refl _) _
theorem ifcode (c : Int) (u : TypeId) (y : Value) (w : World) (hg : w.cell? ⟨3, 0, none⟩ = some (.iface 92 (.agg #[.pointer (some ⟨4, 55, none⟩)]))) :
  Calls Tryd.prog 28 #[.iface 72 (.agg #[.int .i64 c, .iface u y])] w fun e w' => e = .returned (.int .i64 c) ∧ Below w.heap.size w w' := by
 have hlt : 3 < w.heap.size := World.block_lt_of_cell? w _ hg
 go_enter Tryd.func28, Tryd.ntmps28
 have g1 : (w.alloc (Obj.cells #[Value.int IntKind.i64 0, Value.nilIface] 72)).cell? ⟨3, 0, none⟩ = some (.iface 92 (.agg #[.pointer (some ⟨4, 55, none⟩)])) := by
  rw [World.cell?_alloc_lt _ _ ⟨3, 0, none⟩ hlt]; exact hg
 have g2 : (w.alloc (Obj.cells #[Value.int IntKind.i64 0, Value.nilIface] 72)).cell? ⟨w.heap.size, 0, none⟩ = some (.int .i64 0) := by simp
 have g3 : (w.alloc (Obj.cells #[Value.int IntKind.i64 0, Value.nilIface] 72)).cell? ⟨w.heap.size, 1, none⟩ = some .nilIface := by simp
 have g4 : ∀ o, (w.alloc (Obj.cells #[Value.int IntKind.i64 0, Value.nilIface] 72)).frozen? ⟨w.heap.size, o, none⟩ = false := by intro o; simp
 go_wp2_with (go_at_call 45; refine (flt_hitB w.heap.size c u y (.int .i64 0) .nilIface _ g1 g2 g3 (g4 0) (g4 1)).mono ?_; rintro e w1 ⟨rfl, hc, hb⟩)
 go_ret
 exact ⟨rfl, ((Below.refl _ _).alloc (Nat.le_refl _) _).trans hb⟩
end Go.Proofs.YtpcdjpfffanlbaaDoor

/- impl.take: too short a row, and a long enough one. -/
namespace Go.Proofs.YtpcdjpfffanlbaaDoor
open Go.RowKit
theorem itakeNo (a : Option Addr) (len cap n : Nat) (hs : len < n) (u : TypeId) (y : Value) (w : World) (hg : w.cell? ⟨2, 0, none⟩ = some (.iface u y)) :
  Calls Tryd.prog 42 #[.slice a len cap, .int .i64 n] w fun e w' => e = .returned (.tuple #[.slice none 0 0, .slice none 0 0, .iface u y]) ∧ Below w.heap.size w w' := by
 have h1 : (len : Int) < (n : Int) := by omega
 go_enter Tryd.func42, Tryd.ntmps42
 go_wp2
 go_region_held3 (fun w' => w'.cell? ⟨2, 0, none⟩ = some (.iface u y)) (go_keep) (fail)
 go_wp2
 go_ret3
 exact ⟨rfl, (Below.refl _ _).drew⟩
theorem itakeOk (b off len cap n : Nat) (hn : n ≤ len) (hc : len ≤ cap) (w : World) :
  Calls Tryd.prog 42 #[.slice (some ⟨b, off, none⟩) len cap, .int .i64 n] w fun e w' => e = .returned (.tuple #[.slice (some ⟨b, off, none⟩) n cap, .slice (if cap = n then some ⟨b, off, none⟩ else some ⟨b, off + n, none⟩) (len - n) (cap - n), .nilIface]) ∧ Below w.heap.size w w' := by
 have h1 : ¬ (len : Int) < (n : Int) := by omega
 have h2 : (n : Int) ≤ (cap : Int) := by omega
 have h3 : (n : Int) ≤ (len : Int) := by omega
 have h4 : (0 : Int) ≤ (n : Int) := by omega
 have h5 : (len : Int) ≤ (cap : Int) := by omega
 go_enter Tryd.func42, Tryd.ntmps42
 go_wp2
 go_region_held3 (fun _ => True) (trivial) (fail)
 go_wp2
 all_goals (go_ret3; exact ⟨rfl, (Below.refl _ _).drew⟩)
theorem row8_take {w : World} {a : Option Addr} {l : List UInt8} (h : Row8 w a l) (n : Nat) : Row8 w a (l.take n) := by
 rcases h with rfl | ⟨b, off, e, hlt, hc⟩
 ·exact .inl (by simp)
 ·refine .inr ⟨b, off, e, hlt, fun i hi => ?_⟩
  rw [List.length_take] at hi
  rw [hc i (by omega), List.getElem_take]
theorem row8_drop {w : World} {b off : Nat} {l : List UInt8} (h : Row8 w (some ⟨b, off, none⟩) l) (n : Nat) : Row8 w (some ⟨b, off + n, none⟩) (l.drop n) := by
 rcases h with rfl | ⟨b', off', e, hlt, hc⟩
 ·exact .inl (by simp)
 ·simp only [Option.some.injEq, Addr.mk.injEq, and_true] at e
  obtain ⟨rfl, rfl⟩ := e
  refine .inr ⟨b, off + n, rfl, hlt, fun i hi => ?_⟩
  rw [List.length_drop] at hi
  rw [Nat.add_assoc, hc (n + i) (by omega), List.getElem_drop]
/-- The first n bytes of a row and what stands behind them. -/
theorem itake (b off cap n : Nat) (l : List UInt8) (len : Nat) (el : l.length = len) (hn : n ≤ len) (hc : len ≤ cap) (w : World) (hr : Row8 w (some ⟨b, off, none⟩) l) :
  Calls Tryd.prog 42 #[.slice (some ⟨b, off, none⟩) len cap, .int .i64 n] w fun e w' => ∃ o2, e = .returned (.tuple #[.slice (some ⟨b, off, none⟩) n cap, .slice (some ⟨b, o2, none⟩) (len - n) (cap - n), .nilIface]) ∧ Row8 w' (some ⟨b, off, none⟩) (l.take n) ∧ Row8 w' (some ⟨b, o2, none⟩) (l.drop n) ∧ Below w.heap.size w w' := by
 refine (itakeOk b off len cap n hn hc w).mono ?_
 rintro e w' ⟨rfl, hb⟩
 by_cases h : cap = n
 ·refine ⟨off, by rw [if_pos h], (row8_take hr n).below hb, .inl (List.drop_eq_nil_of_le (by omega)), hb⟩
 ·refine ⟨off + n, by rw [if_neg h], (row8_take hr n).below hb, (row8_drop hr n).below hb, hb⟩
end Go.Proofs.YtpcdjpfffanlbaaDoor
