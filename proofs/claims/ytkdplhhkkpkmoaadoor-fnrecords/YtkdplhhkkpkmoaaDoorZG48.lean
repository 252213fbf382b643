/- Texts put together: FrM RowInts. -/
import Derived.Test.YtkdplhhkkpkmoaaDoorZG21
import Derived.Test.YtkdplhhkkpkmoaaDoorZG25
import Derived.Test.YtkdplhhkkpkmoaaDoorZG38
import Derived.Test.YtkdplhhkkpkmoaaDoorZG40
import Derived.Test.YtkdplhhkkpkmoaaDoorZSrcO
import Derived.Test.YtkdplhhkkpkmoaaDoorZG0
/- What FnRecords' walk names: the records between two right states are short, and each leads on. -/
namespace Go.Proofs.YtkdplhhkkpkmoaaDoor
open Go.ChangeShapes Go.WideShapes Go.ChangeAt Go.RowKit
set_option linter.unusedVariables false
theorem recT_size (fs : List ByteArray) : (recT fs).size = fsum fs := by
 have h : (recT fs).size = (be fs.length 1 ++ fieldsL fs).length := by simp [recT, ByteArray.size]
 rw [h, List.length_append, be_len]; rfl
theorem recT_short {fs : List ByteArray} (h : ∀ x ∈ fs, x.size ≤ 400) (hn : fs.length ≤ 3) : (recT fs).size ≤ 65536 := by
 rw [recT_size]; have := fsum_of h hn (by decide); omega
theorem recs_short {tm vt tm2 vt2 : Int} {l m : List Ent} (hm : stateB tm2 vt2 m = true) : ∀ t ∈ recsL tm vt l tm2 vt2 m, t.size ≤ 65536 := by
 intro t ht
 obtain ⟨b0, b1, b2, b3⟩ := state_parts hm
 unfold recsL at ht
 rcases List.mem_append.1 ht with ht | ht
 ·rcases List.mem_append.1 ht with ht | ht
  ·unfold tPart at ht
   split at ht
   ·simp at ht
   ·obtain rfl := List.mem_singleton.1 ht
    exact recT_short (f_t tm2 vt2) (by simp)
  ·unfold cPart at ht
   split at ht
   ·obtain rfl := List.mem_singleton.1 ht
    exact recT_short (f_c _) (by simp)
   ·simp at ht
 ·obtain ⟨e, he, rfl⟩ := List.mem_map.1 ht
  obtain ⟨i, hi, rfl⟩ := List.getElem_of_mem (List.mem_of_mem_drop he)
  exact recT_short (f_e _ _ (log_ent (Int.le_refl 1) b3 i hi).2) (by simp)
theorem ap_next {tm vt : Int} {l : List Ent} {L : List ByteArray} {F : Int × Int × List Ent} {k : Nat} (h : apAll (tm, vt, l) (L.drop k) = some F) (hk : k < L.length) (hs : stateB tm vt l = true) (hz : L[k].size ≤ 65536) : ∃ tm' vt' l', ApIs tm vt l L[k] tm' vt' l' 0 ∧ stateB tm' vt' l' = true ∧ apAll (tm', vt', l') (L.drop (k + 1)) = some F := by
 rw [List.drop_eq_getElem_cons hk] at h
 unfold apAll at h
 cases hF : apF tm vt l L[k] with
 | none => rw [hF] at h; simp at h
 | some q =>
  obtain ⟨tm2, vt2, l2⟩ := q
  rw [hF] at h
  refine ⟨tm2, vt2, l2, ?_, ?_, by simpa using h⟩
  ·unfold ApIs; rw [if_neg (by omega), if_neg (by simp [hs]), hF]
  ·unfold apF at hF
   split at hF
   ·split at hF
    ·rename_i h4 h5
     injection hF with hF; injection hF with e1 hF; injection hF with e2 e3
     subst e1 e2 e3
     exact h5.1
    ·cases hF
   ·cases hF
theorem state_mk {tm vt : Int} {l : List Ent} {n : Nat} (h0 : 0 ≤ tm ∧ tm ≤ 1000) (h1 : -1 ≤ vt ∧ vt ≤ 2) (hn : l.length = n) (h2 : n ≤ 60) (h3 : logB tm 1 l = true) : stateB tm vt l = true := state_of h0 (by omega) (by omega) h3
theorem state_szs {tm vt : Int} {l : List Ent} (h : stateB tm vt l = true) : (∀ k (h : k < l.length), l[k].2.size ≤ 1048576) ∧ l.length ≤ 60 := by
 obtain ⟨b0, b1, b2, b3⟩ := state_parts h
 exact ⟨fun k hk => by have := (log_ent (Int.le_refl 1) b3 k hk).2; omega, b2⟩
theorem own_belowG {w w' : World} {base : Nat} {e : TypeId} {z n c : Nat} {va : Option Addr} {xs : List Value} (h : w.ownsRow base e z (.slice va n c) n xs) (hb : Below w.heap.size w w') : w'.ownsRow base e z (.slice va n c) n xs := own_keepG h (fun j hj => hb.block j (h.lt j hj).2)
theorem own_capM {w : World} {base : Nat} {e : TypeId} {z : Nat} {a : Option Addr} {n cap : Nat} {xs : List Value} (h : w.ownsRow base e z (.slice a n cap) n xs) : cap ≤ 9223372036854775807 := by
 rcases h.2 with ⟨e, e2⟩ | ⟨g, c, cur, e, _, _, h3⟩
 ·cases e; omega
 ·cases e; have := h3.2.1; unfold maxLen at this; omega
theorem errs_laidF {W : World} (h : laidMetH Tryd.prog Rows.fnRecordsRow.laid W) : ErrsIn W ∧ ∃ x0 x1 x2 x3 x4, StE W x0 x1 x2 x3 x4 := by
 have h' : laidMet Tryd.prog [("loop.example/g00308/impl.errCutOff", Rows.laid_loop_example_g00308_impl_errCutOff), ("loop.example/g00308/impl.errBounds", Rows.laid_loop_example_g00308_impl_errBounds), ("loop.example/g00308/impl.errBehind", Rows.laid_loop_example_g00308_impl_errBehind), ("loop.example/g00308/impl.errNoRecord", Rows.laid_loop_example_g00308_impl_errNoRecord), ("loop.example/g00308/impl.errNotRight", Rows.laid_loop_example_g00308_impl_errNotRight), ("loop.example/g00308/impl.errLowerTerm", Rows.laid_loop_example_g00308_impl_errLowerTerm), ("loop.example/g00308/impl.errRecordSize", Rows.laid_loop_example_g00308_impl_errRecordSize), ("loop.example/g00308/impl.errNoRoom", Rows.laid_loop_example_g00308_impl_errNoRoom)] W ∧ handlesMet Tryd.prog [("errors.errorType", Rows.laid_errors_errorType)] W := h
 exact errs8 h'.1 h'.2
end Go.Proofs.YtkdplhhkkpkmoaaDoor

/- A slice of bytes that came in leads to a row of bytes. -/
namespace Go.Proofs.YtkdplhhkkpkmoaaDoor
open Go.ChangeShapes Go.WideShapes Go.ChangeAt Go.RowKit
theorem row8_ints {w : World} {x : Addr} {len cap : Nat} {zs : List Int} (hl : len ≤ cap) (hz : zs.length = cap) (hcell : ∀ i, i < zs.length → w.cell? (x.add i) = some (.int .u8 (zs.getD i 0))) (hwz : ∀ n ∈ zs, (Lit.int .u8 n).wf = true) :
  ∃ l : List UInt8, l.length = len ∧ Row8 w (some x) l := by
 refine ⟨(zs.take len).map (fun n => UInt8.ofNat n.toNat), by simp; omega, ?_⟩
 by_cases h0 : len = 0
 ·left; simp [h0]
 ·right
  obtain ⟨b, off, spot⟩ := x
  have hc := hcell 0 (by omega)
  have hspot : spot = none := by simpa [Addr.add] using World.cell?_spot hc
  subst hspot
  refine ⟨b, off, rfl, World.block_lt_of_cell? w _ hc, fun i hi => ?_⟩
  have hi' : i < len := by simp at hi; omega
  have hci := hcell i (by omega)
  have hlt : i < zs.length := by omega
  have hg : zs.getD i 0 = zs[i] := by simp [hlt]
  have hmem : zs.getD i 0 ∈ zs := by rw [hg]; exact List.getElem_mem _
  have hb := bounds_u8 (hwz _ hmem)
  rw [show (⟨b, off, none⟩ : Addr).add i = ⟨b, off + i, none⟩ from by unfold Addr.add; split <;> simp_all] at hci
  rw [hci]
  have e1 : ((zs.take len).map (fun n => UInt8.ofNat n.toNat))[i] = UInt8.ofNat (zs.getD i 0).toNat := by
   rw [List.getElem_map, List.getElem_take, hg]
  rw [e1, UInt8.toNat_ofNat']
  congr 2
  omega
end Go.Proofs.YtkdplhhkkpkmoaaDoor
