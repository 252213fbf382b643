/- Texts put together: StA EntD EntK ApAll AppI. -/
import Derived.Test.YtkdplhhkkpkmoaaDoorZG24
import Derived.Test.YtkdplhhkkpkmoaaDoorZG22
import Derived.Test.YtkdplhhkkpkmoaaDoorZG21
import Derived.Stop.LaidErr
import Derived.Test.YtkdplhhkkpkmoaaDoorZG2
import Derived.Test.YtkdplhhkkpkmoaaDoorZG14
import Derived.Deep.Cut
import Derived.Test.YtkdplhhkkpkmoaaDoorZG3
/- What the row's list gives of the named errors of fields and of stores, together; ApplyRecord's answer is there. -/
namespace Go.Proofs.YtkdplhhkkpkmoaaDoor
open Go.ChangeShapes Go.WideShapes Go.ChangeAt Go.RowKit
set_option linter.unusedVariables false
theorem errs8 {W : World} (h : laidMet Tryd.prog [("loop.example/g00308/impl.errCutOff", Rows.laid_loop_example_g00308_impl_errCutOff), ("loop.example/g00308/impl.errBounds", Rows.laid_loop_example_g00308_impl_errBounds), ("loop.example/g00308/impl.errBehind", Rows.laid_loop_example_g00308_impl_errBehind), ("loop.example/g00308/impl.errNoRecord", Rows.laid_loop_example_g00308_impl_errNoRecord), ("loop.example/g00308/impl.errNotRight", Rows.laid_loop_example_g00308_impl_errNotRight), ("loop.example/g00308/impl.errLowerTerm", Rows.laid_loop_example_g00308_impl_errLowerTerm), ("loop.example/g00308/impl.errRecordSize", Rows.laid_loop_example_g00308_impl_errRecordSize), ("loop.example/g00308/impl.errNoRoom", Rows.laid_loop_example_g00308_impl_errNoRoom)] W) (h2 : handlesMet Tryd.prog [("errors.errorType", Rows.laid_errors_errorType)] W) : ErrsIn W ∧ ∃ x0 x1 x2 x3 x4, StE W x0 x1 x2 x3 x4 :=
 ⟨⟨handle_of h2, iface_cell (by kernel_rfl) (by kernel_rfl) Tryd.underlying51 (Lib.laidMet.reads h (List.mem_cons_self ..)),
  iface_cell (by kernel_rfl) (by kernel_rfl) Tryd.underlying51 (Lib.laidMet.reads h (List.mem_cons_of_mem _ (List.mem_cons_self ..))),
  iface_cell (by kernel_rfl) (by kernel_rfl) Tryd.underlying51 (Lib.laidMet.reads h (List.mem_cons_of_mem _ (List.mem_cons_of_mem _ (List.mem_cons_self ..))))⟩, errs5 h.tail.tail.tail⟩
theorem vars_len8 {H : Type} {enc : TypeId × Value → H} {P : Program} {w : World} {spare : Nat → Bool} {n1 n2 n3 n4 n5 n6 n7 n8 : String} {gs : List (DataW H)} {ps : List MemPlace} (h : DataW.TrodVars enc P w spare [n1, n2, n3, n4, n5, n6, n7, n8] gs ps) : ∃ d1 d2 d3 d4 d5 d6 d7 d8, gs = [d1, d2, d3, d4, d5, d6, d7, d8] := by
 match gs, h with
 | [d1, d2, d3, d4, d5, d6, d7, d8], _ => exact ⟨d1, d2, d3, d4, d5, d6, d7, d8, rfl⟩
end Go.Proofs.YtkdplhhkkpkmoaaDoor

/- Marks of rows of a number and a text. -/
namespace Go.Proofs.YtkdplhhkkpkmoaaDoor
open Go.ChangeShapes Go.WideShapes Go.ChangeAt Go.RowKit
def mkE (k0 j : Nat) : Value := if j % 2 = 0 then .int .i64 ((k0 + j : Nat) : Int) else .string (mtS (k0 + j))
def onesEnt (k0 n : Nat) : List Value := (List.range (n * 2)).map (mkE k0)
end Go.Proofs.YtkdplhhkkpkmoaaDoor

/- Rows of entries, states: what the laws' own helpers mark, and tell of marked rows. -/
namespace Go.Proofs.YtkdplhhkkpkmoaaDoor
open Go.ChangeShapes Go.WideShapes Go.ChangeAt Go.RowKit
set_option linter.unusedVariables false
end Go.Proofs.YtkdplhhkkpkmoaaDoor

/- All that the walk names. -/

/- appendNumber: the bytes of a number behind a row. -/
namespace Go.Proofs.YtkdplhhkkpkmoaaDoor
open Go.ChangeShapes Go.WideShapes Go.ChangeAt Go.RowKit
theorem Tryd.infN5 : (Tryd.prog.info? 5).map (fun i => (i.zero, i.size, i.bytes)) = some (some (.int .u8 0), 1, 1) := by kernel_rfl
set_option maxHeartbeats 400000 in
set_option maxRecDepth 100000 in
/-- appendNumber: the bytes of a number behind a row that the call owns. -/
theorem iappend (base : Nat) (v : Value) (l : List UInt8) (n size : Nat) (_hn : n < 4294967296) (hs : size ≤ 4) (hl : l.length ≤ 4000000) (w : World) (h : w.ownsRow base 5 1 v l.length (B8 l)) (hb : base ≤ w.heap.size) :
  Calls Tryd.prog 43 #[v, .int .i64 (n : Int), .int .i64 (size : Int)] w fun e w' => ∃ v', e = .returned v' ∧ w'.ownsRow base 5 1 v' (l ++ be n size).length (B8 (l ++ be n size)) ∧ Below base w w' := by
 obtain ⟨i0, hi, hz0, hz1, hz2⟩ := info_parts Tryd.infN5
 have HH := hide h
 clear h
 go_enter Tryd.func43, Tryd.ntmps43
 go_wp2_with fail
 go_loopw [0, 7] (fun v i wr => ∃ (b : Nat) (m : List UInt8), b ≤ size ∧ i = .int .i64 ((b : Int) - 1) ∧ Hid (m ++ be n b = l ++ be n size) ∧ m.length + b ≤ 4000004 ∧ Hid (wr.ownsRow base 5 1 v m.length (B8 m)) ∧ Hid (Below base w wr)) (fun _ i _ => (intOf i + 1).toNat)
 case atStart => exact ⟨size, l, Nat.le_refl _, by go_num, rfl, by omega, HH, Below.refl _ _⟩
 case round =>
  clear HH
  obtain ⟨b, m, hbs, rfl, HM, hm, HO, HB⟩ := hrel
  by_cases hb0 : b = 0
  ·subst hb0
   have HV : Hid (l ++ be n size = m) := by show _ = _; have := unhide HM; simpa [be] using this.symm
   go_wp2_with fail
   go_ret
   exact ⟨_, rfl, by rw [unhide HV]; exact unhide HO, unhide HB⟩
  ·obtain ⟨k, rfl⟩ : ∃ k, b = k + 1 := ⟨b - 1, by omega⟩
   have hk : (k : Int) ≤ 3 := by omega
   have hv := nb_val n k
   have hown := unhide HO
   have hz := (unhide HB).size
   clear HO
   go_wp2_with (at_builtin; refine wpList_append_lies _ rfl (.tmp 14) (.tmp 20) 22 rfl base 5 i0 (.int .u8 0) 1 1 Tryd.underlying22 hi hz0 hz1 hz2 rfl (by decide) _ _ _ rfl (hown.alloc _) ⟨wr.heap.size, 0, none⟩ 1 1 (B8 [nb n k]) rfl rfl (by exact news_new wr (B8 [nb n k]) 5) (B8_one _) (by decide) (by unfold maxLen; omega) (by omega) (by simp; omega) _ rfl ?_; intro g2 c2 w2 hown2 hgrow2 hat2 hlt2; have HB2 := hide (below_app (unhide HB) (by omega) hown (Nat.le_refl _) hgrow2); have HO2 : Hid (w2.ownsRow base 5 1 (.slice (some ⟨g2, 0, none⟩) (m.length + 1) c2) (m ++ [nb n k]).length (B8 (m ++ [nb n k]))) := own_app hown2 rfl; clear hown2 hgrow2 hat2 hlt2 hown HB hv)
   go_roundw
   case rel => exact ⟨k, m ++ [nb n k], by omega, by go_num, by show _ = _; rw [← unhide HM]; simp [be], by rw [List.length_append]; simp; omega, HO2, HB2⟩
   case measure => simp [intOf]
end Go.Proofs.YtkdplhhkkpkmoaaDoor
