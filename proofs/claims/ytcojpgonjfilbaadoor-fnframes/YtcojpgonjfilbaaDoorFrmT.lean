/- ReadFrames, both sides, in the law's form; what the listed variables hold. -/
import Derived.Test.YtcojpgonjfilbaaDoorFrmJ
import Derived.Test.YtcojpgonjfilbaaDoorFrmS
import Derived.OpenVars
import Derived.LaidMore
import Derived.LaidHandle
import Derived.Lib.LaidU8
namespace Go.Proofs.YtcojpgonjfilbaaDoor
open Go.ChangeShapes Go.WideShapes Go.ChangeAt Go.RowKit
set_option linter.unusedVariables false
set_option maxHeartbeats 1000000 in
set_option maxRecDepth 100000 in
theorem sreadfr (a : Option Addr) (cap : Nat) (l : List UInt8) (hl : l.length ≤ 1048576) (w : World) (hr : RowV w a (B8 l)) :
    Calls Tryd.prog 9 #[.slice a l.length cap] w fun e w' => ∃ v, e = .returned (.tuple #[v, .int .i64 (rdP l), .int .i64 (rdC l)]) ∧ w'.ownsRow w.heap.size 9 1 v (rdL l).length (cS (rdL l)) ∧ Below w.heap.size w w' := by
  have hcv := conv_row8 (cap := cap) (P := Tryd.prog) Tryd.underlying22 Tryd.underlying5 Tryd.underlying9 (rowV_8 hr)
  clear hr
  obtain ⟨s, hs⟩ : ∃ s : ByteArray, s = ⟨l.toArray⟩ := ⟨_, rfl⟩
  have hsl : s.data.toList = l := by rw [hs]
  have hsz : s.size = l.length := by rw [hs]; simp [ByteArray.size]
  rw [← hs] at hcv
  clear hs
  by_cases long : 65536 < l.length
  · have HV : Hid (rdL l = [] ∧ rdP l = 0 ∧ rdC l = 2) := by unfold rdL rdP rdC; rw [if_pos long, if_pos long, if_pos long]; exact ⟨rfl, rfl, rfl⟩
    rw [(unhide HV).1, (unhide HV).2.1, (unhide HV).2.2]
    have h1 : (65536 : Int) < (l.length : Int) := by omega
    clear hcv hsl hsz
    go_enter Tryd.func9, Tryd.ntmps9
    go_wp2_with fail
    go_ret3
    exact ⟨_, rfl, lit_emptyT _ _ _ (Nat.le_refl _), (Below.refl _ _).alloc (Nat.le_refl _) _⟩
  · obtain ⟨p1, p2, p3⟩ := rd_parts (l := l) rfl long
    have T := sframes s (by omega) w
    rw [hsl, hsz, ← p1, ← p2, ← p3] at T
    have HT := hide T
    have h1 : ¬ (65536 : Int) < (l.length : Int) := by omega
    clear T p1 p2 p3 hsl hsz
    go_enter Tryd.func9, Tryd.ntmps9
    go_wp2_with fail
    refine (unhide HT).mono ?_
    rintro e w2 ⟨v, rfl, ho, hb⟩
    have HO := hide ho
    have HB := hide hb
    clear ho hb HT
    go_wp2_with fail
    go_ret3
    exact ⟨_, rfl, unhide HO, unhide HB⟩
theorem sreadfrH (a : Option Addr) (cap : Nat) (l : List UInt8) (r : List ByteArray) (p c : Int) (hr : r = rdL l) (hp : p = rdP l) (hc : c = rdC l) (hl : l.length ≤ 1048576) (w : World) (hrow : RowV w a (B8 l)) :
    Calls Tryd.prog 9 #[.slice a l.length cap] w fun e w' => ∃ v', e = .returned (.tuple #[v', .int .i64 p, .int .i64 c]) ∧ w'.ownsRow w.heap.size 9 1 v' r.length (cS r) ∧ Below w.heap.size w w' := by
  subst hr hp hc; exact sreadfr a cap l hl w hrow
theorem ireadfrH (a : Option Addr) (cap : Nat) (l : List UInt8) (r : List ByteArray) (p c : Int) (hr : r = rdL l) (hp : p = rdP l) (hc : c = rdC l) (hl : l.length ≤ 1048576) (hcap : l.length ≤ cap) (w : World) (hrow : RowV w a (B8 l)) (hE : ErrsR w) :
    Calls Tryd.prog 7 #[.slice a l.length cap] w fun e w' => ∃ v', e = .returned (.tuple #[v', .int .i64 p, .int .i64 c]) ∧ w'.ownsRow w.heap.size 9 1 v' r.length (cS r) ∧ Below w.heap.size w w' := by
  subst hr hp hc; exact ireadfr a cap l hl hcap w hE (rowV_8 hrow)
theorem rdL_le (l : List UInt8) : (rdL l).length ≤ 65536 := by
  unfold rdL
  by_cases h : 65536 < l.length
  · rw [if_pos h]; simp
  · rw [if_neg h]; have := frs_len l.length l; omega
theorem iface_cell {W : World} {n : String} {g0 t0 : Nat} {ms : Array (String × TypeId)} {nm : String} {d : DataW Unit} (hg0 : Tryd.prog.globalNamed n = some g0) (ht0 : (Tryd.prog.globals[g0]?).map (·.type) = some t0) (hi : Tryd.prog.underlying t0 = some (.interface ms))
    (h : Lib.VarReads Tryd.prog W n (.iface nm d)) : ∃ u y, W.cell? ⟨g0, 0, none⟩ = some (.iface u y) := by
  obtain ⟨g, t, cs, fuel, p, hg, ht, hv, hd⟩ := h
  obtain rfl : g = g0 := (Option.some.inj (hg0.symm.trans hg)).symm
  obtain rfl : t = t0 := (Option.some.inj (ht0.symm.trans ht)).symm
  obtain ⟨f2, u, v, e, _, _⟩ := iface_of_trod hi hd
  refine ⟨u, v, ?_⟩
  have hc := World.var?_cell hg hv 0
  rw [hc, ← Array.getElem?_toList, e]; rfl
theorem Tryd.etA : Tryd.prog.globalNamed "errors.errorType" = some 0 := by kernel_rfl
theorem Tryd.rtA : (Tryd.prog.cutTypes.find? (·.1 == "internal/reflectlite.rtype")).map (·.2) = some 80 := by kernel_rfl
theorem Tryd.oneRowA : ((List.range 125).filter fun t => Tryd.prog.rowNamed t [101, 114, 114, 111, 114]) = [39] := by kernel_rfl
theorem Tryd.sizeA : Tryd.prog.types.size = 125 := by kernel_rfl
theorem handle_of {W : World} (h : handlesMet Tryd.prog [("errors.errorType", Rows.laid_errors_errorType)] W) : W.cell? ⟨0, 0, none⟩ = some (.iface 80 (.agg #[.pointer (some ⟨4, 39, none⟩)])) := by
  obtain ⟨name, u, ty, e1, e2, e3, e4, e5⟩ := h _ (List.mem_singleton.2 rfl)
  have en : name = [101, 114, 114, 111, 114] := (Option.some.inj e1).symm
  subst en
  obtain rfl := Option.some.inj (Tryd.rtA.symm.trans e2)
  have hm : ty ∈ (List.range 125).filter fun t => Tryd.prog.rowNamed t [101, 114, 114, 111, 114] := List.mem_filter.2 ⟨List.mem_range.2 (by rw [← Tryd.sizeA]; exact e3), e4⟩
  rw [Tryd.oneRowA] at hm
  obtain rfl := List.mem_singleton.1 hm
  have hh : typeHandle Tryd.prog 39 = .pointer (some ⟨4, 39, none⟩) := by kernel_rfl
  rw [hh] at e5
  simpa using World.var?_cell Tryd.etA e5 0
theorem errs_laidG {W : World} (h : laidMetH Tryd.prog Rows.fnFramesRow.laid W) : ErrsR W := by
  have h' : laidMet Tryd.prog [("loop.example/g00308/impl.errCutOff", Rows.laid_loop_example_g00308_impl_errCutOff), ("loop.example/g00308/impl.errBounds", Rows.laid_loop_example_g00308_impl_errBounds), ("loop.example/g00308/impl.errSum", Rows.laid_loop_example_g00308_impl_errSum)] W ∧ handlesMet Tryd.prog [("errors.errorType", Rows.laid_errors_errorType)] W := h
  exact ⟨handle_of h'.2, iface_cell (by kernel_rfl) (by kernel_rfl) Tryd.underlying39 (Lib.laidMet.reads h'.1 (List.mem_cons_self ..)),
    iface_cell (by kernel_rfl) (by kernel_rfl) Tryd.underlying39 (Lib.laidMet.reads h'.1 (List.mem_cons_of_mem _ (List.mem_cons_self ..))),
    iface_cell (by kernel_rfl) (by kernel_rfl) Tryd.underlying39 (Lib.laidMet.reads h'.1 (List.mem_cons_of_mem _ (List.mem_cons_of_mem _ (List.mem_cons_self ..))))⟩
theorem vars_len3 {H : Type} {enc : TypeId × Value → H} {P : Program} {w : World} {spare : Nat → Bool} {n1 n2 n3 : String} {gs : List (DataW H)} {ps : List MemPlace} (h : DataW.TrodVars enc P w spare [n1, n2, n3] gs ps) : ∃ d1 d2 d3, gs = [d1, d2, d3] := by
  match gs, h with
  | [d1, d2, d3], _ => exact ⟨d1, d2, d3, rfl⟩
end Go.Proofs.YtcojpgonjfilbaaDoor
