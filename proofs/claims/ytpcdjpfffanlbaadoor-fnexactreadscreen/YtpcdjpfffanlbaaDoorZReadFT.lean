/- ReadFields: what the specification answers at every row of bytes; both answers in the words of the law's walk; what the row's list gives. -/
import Derived.Test.YtpcdjpfffanlbaaDoorZReadFS
import Derived.OpenVars
import Derived.LaidMore
import Derived.LaidHandle
import Derived.Lib.LaidU8
namespace Go.Proofs.YtpcdjpfffanlbaaDoor
open Go.ChangeShapes Go.WideShapes Go.ChangeAt Go.RowKit
theorem ofBE_first (s : ByteArray) (h : 0 < s.size) : ofBE (s.data.toList.take 1) = (s[0]'h).toNat := by
 rw [show (1 : Nat) = 0 + 1 from rfl, ofBE_snoc _ 0 (by simpa using h), List.take_zero]
 show 0 * 256 + _ = _
 rw [Nat.zero_mul, Nat.zero_add]
 rfl
set_option maxHeartbeats 400000 in
set_option maxRecDepth 100000 in
theorem sreadNone (w : World) : Calls Tryd.prog 22 #[.string ⟨#[]⟩] w fun e w' => (∃ v, e = .returned (.tuple #[v, .bool false]) ∧ w'.ownsRow w.heap.size 9 1 v ([] : List ByteArray).length (cS [])) ∧ Below w.heap.size w w' := by
 go_enter Tryd.func22, Tryd.ntmps22
 go_wp2_with fail
 go_ret2
 exact ⟨⟨_, rfl, lit_emptyS _ _ _ (Nat.le_refl _)⟩, (Below.refl _ _).alloc (Nat.le_refl _) _⟩
set_option maxHeartbeats 400000 in
set_option maxRecDepth 100000 in
theorem sreadMany (s : ByteArray) (n : Nat) (hp0 : 0 < s.size) (hs : s.size ≤ 65536) (hc0 : (s[0]'hp0).toNat = n) (h60 : 60 < n) (w : World) :
  Calls Tryd.prog 22 #[.string s] w fun e w' => (∃ v, e = .returned (.tuple #[v, .bool false]) ∧ w'.ownsRow w.heap.size 9 1 v ([] : List ByteArray).length (cS [])) ∧ Below w.heap.size w w' := by
 have hne2 : s.toList.isEmpty = false := by
  rw [ByteArray.toList_eq, List.isEmpty_eq_false_iff]
  intro h; have h2 := congrArg List.length h; rw [Array.length_toList] at h2; have h3 : s.size = 0 := h2; omega
 have n60 : (60 : Int) < (n : Int) := by omega
 go_enter Tryd.func22, Tryd.ntmps22
 go_wp2_with fail
 go_ret2
 exact ⟨⟨_, rfl, lit_emptyS _ _ _ (Nat.le_refl _)⟩, (Below.refl _ _).alloc (Nat.le_refl _) _⟩
/-- l02Read of every text. -/
theorem sread (s : ByteArray) (hs : s.size ≤ 65536) (w : World) :
  Calls Tryd.prog 22 #[.string s] w fun e w' => (∃ m v c, e = .returned (.tuple #[v, .bool c]) ∧ w'.ownsRow w.heap.size 9 1 v m.length (cS m) ∧ ((c = true ∧ rfOf s.data.toList = some m) ∨ (c = false ∧ m = [] ∧ rfOf s.data.toList = none))) ∧ Below w.heap.size w w' := by
 have hlen : s.data.toList.length = s.size := by simp
 by_cases h0 : s.size = 0
 ·have es : s = ⟨#[]⟩ := by
   obtain ⟨d⟩ := s
   have : d = #[] := Array.eq_empty_of_size_eq_zero h0
   rw [this]
  subst es
  refine (sreadNone w).mono ?_
  rintro e w' ⟨⟨v, rfl, ho⟩, hb⟩
  exact ⟨⟨[], v, false, rfl, ho, .inr ⟨rfl, rfl, rfl⟩⟩, hb⟩
 have hp : 0 < s.size := by omega
 have h1 : ¬ s.data.toList.length < 1 := by omega
 by_cases h60 : 60 < (s[0]'hp).toNat
 ·refine (sreadMany s _ hp hs rfl h60 w).mono ?_
  rintro e w' ⟨⟨v, rfl, ho⟩, hb⟩
  exact ⟨⟨[], v, false, rfl, ho, .inr ⟨rfl, rfl, by unfold rfOf; rw [if_neg h1, if_pos (by rw [ofBE_first s hp]; exact h60)]⟩⟩, hb⟩
 ·refine (sreadGo s _ hp hs rfl (by omega) w).mono ?_
  rintro e w' ⟨⟨m, v, c, rfl, ho, hc⟩, hb⟩
  have hR : rfOf s.data.toList = (fldN (s.data.toList.drop 1) (s[0]'hp).toNat).bind fun p => if p.2 = [] then some p.1 else none := by
   unfold rfOf; rw [if_neg h1, ofBE_first s hp, if_neg h60]
  refine ⟨⟨m, v, c, rfl, ho, ?_⟩, hb⟩
  rcases hc with ⟨rfl, h⟩ | ⟨rfl, rfl, h⟩
  ·exact .inl ⟨rfl, by rw [hR, h]; rfl⟩
  ·refine .inr ⟨rfl, rfl, ?_⟩
   rw [hR]
   cases hk : fldN (s.data.toList.drop 1) (s[0]'hp).toNat with
   | none => rfl
   | some p =>
    obtain ⟨m, r⟩ := p
    by_cases hr0 : r = []
    ·subst hr0; exact absurd hk (h m)
    ·simp [hr0]
theorem ireadfieldsH (a : Option Addr) (cap : Nat) (l : List UInt8) (r : List ByteArray) (c : Int) (hr : r = rfL l) (hc : c = rfC l) (hl : l.length ≤ 1048576) (hcap : l.length ≤ cap) (w : World) (hrow : RowV w a (B8 l)) (hE : ErrsIn w) :
  Calls Tryd.prog 13 #[.slice a l.length cap] w fun e w' => ∃ v', e = .returned (.tuple #[v', .int .i64 c]) ∧ w'.ownsRow w.heap.size 9 1 v' r.length (cS r) ∧ Below w.heap.size w w' := by
 subst hr hc; exact ireadfields a cap l hl hcap w hE (rowV_8 hrow)
theorem iface_cell {W : World} {n : String} {g0 t0 : Nat} {ms : Array (String × TypeId)} {nm : String} {d : DataW Unit} (hg0 : Tryd.prog.globalNamed n = some g0) (ht0 : (Tryd.prog.globals[g0]?).map (·.type) = some t0) (hi : Tryd.prog.underlying t0 = some (.interface ms))
  (h : Lib.VarReads Tryd.prog W n (.iface nm d)) : ∃ u y, W.cell? ⟨g0, 0, none⟩ = some (.iface u y) := by
 obtain ⟨g, t, cs, fuel, p, hg, ht, hv, hd⟩ := h
 obtain rfl : g = g0 := (Option.some.inj (hg0.symm.trans hg)).symm
 obtain rfl : t = t0 := (Option.some.inj (ht0.symm.trans ht)).symm
 obtain ⟨f2, u, v, e, _, _⟩ := iface_of_trod hi hd
 refine ⟨u, v, ?_⟩
 have hc := World.var?_cell hg hv 0
 rw [hc, ← Array.getElem?_toList, e]; rfl
theorem Tryd.etA : Tryd.prog.globalNamed "errors.errorType" = some 3 := by kernel_rfl
theorem Tryd.rtA : (Tryd.prog.cutTypes.find? (·.1 == "internal/reflectlite.rtype")).map (·.2) = some 92 := by kernel_rfl
theorem Tryd.oneRowA : ((List.range 140).filter fun t => Tryd.prog.rowNamed t [101, 114, 114, 111, 114]) = [55] := by kernel_rfl
theorem Tryd.sizeA : Tryd.prog.types.size = 140 := by kernel_rfl
theorem handle_of {W : World} (h : handlesMet Tryd.prog [("errors.errorType", Rows.laid_errors_errorType)] W) : W.cell? ⟨3, 0, none⟩ = some (.iface 92 (.agg #[.pointer (some ⟨4, 55, none⟩)])) := by
 obtain ⟨name, u, ty, e1, e2, e3, e4, e5⟩ := h _ (List.mem_singleton.2 rfl)
 have en : name = [101, 114, 114, 111, 114] := (Option.some.inj e1).symm
 subst en
 obtain rfl := Option.some.inj (Tryd.rtA.symm.trans e2)
 have hm : ty ∈ (List.range 140).filter fun t => Tryd.prog.rowNamed t [101, 114, 114, 111, 114] := List.mem_filter.2 ⟨List.mem_range.2 (by rw [← Tryd.sizeA]; exact e3), e4⟩
 rw [Tryd.oneRowA] at hm
 obtain rfl := List.mem_singleton.1 hm
 have hh : typeHandle Tryd.prog 55 = .pointer (some ⟨4, 55, none⟩) := by kernel_rfl
 rw [hh] at e5
 simpa using World.var?_cell Tryd.etA e5 0
theorem vars_len3 {H : Type} {enc : TypeId × Value → H} {P : Program} {w : World} {spare : Nat → Bool} {n1 n2 n3 : String} {gs : List (DataW H)} {ps : List MemPlace} (h : DataW.TrodVars enc P w spare [n1, n2, n3] gs ps) : ∃ d1 d2 d3, gs = [d1, d2, d3] := by
 match gs, h with
 | [d1, d2, d3], _ => exact ⟨d1, d2, d3, rfl⟩
end Go.Proofs.YtpcdjpfffanlbaaDoor
