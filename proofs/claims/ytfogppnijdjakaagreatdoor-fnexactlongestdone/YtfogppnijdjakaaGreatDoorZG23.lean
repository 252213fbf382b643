/- Texts put together: ReadFS ReadFT StR. -/
import Derived.Test.YtfogppnijdjakaaGreatDoorZG11
import Derived.Test.YtfogppnijdjakaaGreatDoorZG12
import Derived.OpenVars
import Derived.LaidMore
import Derived.LaidHandle
import Derived.Lib.LaidU8
import Derived.Test.YtfogppnijdjakaaGreatDoorZG22
import Derived.Test.YtfogppnijdjakaaGreatDoorZG20
/- ReadFields: what the specification answers at every row of bytes. -/
namespace Go.Proofs.YtfogppnijdjakaaGreatDoor
open Go.ChangeShapes Go.WideShapes Go.ChangeAt Go.RowKit
theorem cut_list (s : ByteArray) (i j : Nat) : (s.extract i j).data.toList = (s.data.toList.drop i).take (j - i) := by
 simp
theorem cut_size (s : ByteArray) (i j : Nat) (h : j ≤ s.size) : (s.extract i j).size = j - i := by
 rw [ByteArray.size_extract]; omega
theorem lit_emptyS (w : World) (base : Nat) (t : TypeId) (hb : base ≤ w.heap.size) : (w.alloc (.cells #[] t)).ownsRow base t 1 (.slice (some ⟨w.heap.size, 0, none⟩) 0 0) ([] : List ByteArray).length (cS []) := lit_empty w base t hb
theorem fld_short (L : List UInt8) (p : Nat) (h : L.length < p + 2) : fld (L.drop p) = none := by
 unfold fld; rw [List.length_drop, if_pos (by omega)]
theorem fld_big (L : List UInt8) (p y : Nat) (hy : y = ofBE ((L.drop p).take 2)) (h : 20000 < y) : fld (L.drop p) = none := by
 unfold fld; rw [← hy]; split
 ·rfl
 ·first | rfl | rw [if_pos h]
theorem fld_off (L : List UInt8) (p y : Nat) (hy : y = ofBE ((L.drop p).take 2)) (h : L.length < p + 2 + y) : fld (L.drop p) = none := by
 unfold fld; rw [← hy, List.length_drop]; split
 ·rfl
 ·split
  ·rfl
  ·rw [if_pos (by omega)]
theorem fld_at (L : List UInt8) (p y : Nat) (hy : y = ofBE ((L.drop p).take 2)) (h : ¬ 20000 < y) (h2 : p + 2 + y ≤ L.length) : fld (L.drop p) = some ((L.drop (p + 2)).take y, L.drop (p + 2 + y)) := by
 unfold fld
 rw [← hy, List.length_drop, if_neg (by omega), if_neg h, if_neg (by omega), List.drop_drop, List.drop_drop]
/-- What l02Read answers of n fields in l. -/
def ReadR (l : List UInt8) (n : Nat) (w : World) (e : Ending) (w' : World) : Prop :=
 (∃ m v c, e = .returned (.tuple #[v, .bool c]) ∧ w'.ownsRow w.heap.size 9 1 v m.length (cS m) ∧ ((c = true ∧ fldN l n = some (m, [])) ∨ (c = false ∧ m = [] ∧ ∀ m, fldN l n ≠ some (m, [])))) ∧ Below w.heap.size w w'
set_option maxHeartbeats 1000000 in
set_option maxRecDepth 100000 in
theorem sreadGo (s : ByteArray) (n : Nat) (hp0 : 0 < s.size) (hs : s.size ≤ 65536) (hc0 : (s[0]'hp0).toNat = n) (h60 : n ≤ 60) (w : World) :
  Calls Tryz.prog 78 #[.string s] w fun e w' => ReadR (s.data.toList.drop 1) n w e w' := by
 obtain ⟨i0, hi, hz0, hz1, hz2⟩ := info_parts Tryz.infL9
 obtain ⟨L, eL⟩ : ∃ L, L = s.data.toList := ⟨_, rfl⟩
 obtain ⟨q0, eq0⟩ : ∃ q0, q0 = L.drop 1 := ⟨_, rfl⟩
 rw [← eL, ← eq0]
 have HLS : Hid (L.length = s.size) := by show _ = _; rw [eL, Array.length_toList]; rfl
 have HL := hide eL
 have HQ := hide eq0
 have hne2 : s.toList.isEmpty = false := by
  rw [ByteArray.toList_eq, ← eL, List.isEmpty_eq_false_iff]
  intro h; have := unhide HLS; rw [h] at this; simp at this; omega
 have n60 : ¬ (60 : Int) < (n : Int) := by omega
 clear eL eq0
 go_enter Tryz.func78, Tryz.ntmps78
 go_wp2_with fail
 go_loopw [4, 5, 6] (fun v pv i wr => ∃ (j k p : Nat) (m : List ByteArray), j + k = n ∧ i = .int .i64 j ∧ pv = .int .i64 p ∧ 1 ≤ p ∧ p ≤ s.size ∧ m.length ≤ k ∧ Hid (fldN q0 k = some (m, L.drop p)) ∧ Hid (wr.ownsRow w.heap.size 9 1 v m.length (cS m)) ∧ Hid (Below w.heap.size w wr)) (fun _ _ i _ => (intOf i).toNat)
 case atStart => exact ⟨n, 0, 1, [], by omega, by go_num, rfl, by omega, by omega, by simp, by show fldN q0 0 = _; rw [unhide HQ]; rfl, lit_emptyS _ _ _ (Nat.le_refl _), (Below.refl _ _).alloc (Nat.le_refl _) _⟩
 case round =>
  obtain ⟨j, k, p, m, hjk, rfl, rfl, hp1, hp2, hm, HF, HO, HB⟩ := hrel
  have hz := (unhide HB).size
  by_cases hj : j = 0
  ·subst hj
   have ek : k = n := by omega
   subst ek
   by_cases hq : p = s.size
   ·have HN : Hid (fldN q0 k = some (m, [])) := by
     show _ = _; rw [unhide HF, List.drop_eq_nil_of_le (by rw [unhide HLS]; omega)]
    have t1 : ((p : Int) != (s.size : Int)) = false := by rw [bne_eq_false_iff_eq]; omega
    clear hq
    go_wp2_with fail
    go_ret2
    exact ⟨⟨m, _, true, rfl, unhide HO, .inl ⟨rfl, unhide HN⟩⟩, unhide HB⟩
   ·have HN : Hid (∀ m, fldN q0 k ≠ some (m, [])) := by
     show ∀ m, _ ≠ _
     intro m2 h; rw [unhide HF] at h
     simp only [Option.some.injEq, Prod.mk.injEq] at h
     have h3 := congrArg List.length h.2; rw [List.length_drop, unhide HLS] at h3; simp at h3; omega
    have t1 : ((p : Int) != (s.size : Int)) = true := by rw [bne_iff_ne]; omega
    clear hq
    go_wp2_with fail
    go_ret2
    exact ⟨⟨[], _, false, rfl, lit_emptyS _ _ _ hz, .inr ⟨rfl, rfl, unhide HN⟩⟩, (unhide HB).alloc hz _⟩
  ·have hj2 : (0 : Int) < (j : Int) := by omega
   have hN : fld (L.drop p) = none → ∀ m, fldN q0 n ≠ some (m, []) := by
    intro h
    have h0 : fldN q0 (k + 1) = none := by simp only [fldN]; rw [unhide HF]; simp [h]
    have h1 := fldN_none q0 (k + 1) h0 (n - (k + 1))
    rw [show k + 1 + (n - (k + 1)) = n by omega] at h1
    intro m h; rw [h1] at h; cases h
   obtain ⟨p2, ep2⟩ : ∃ p2, p2 = p + 2 := ⟨_, rfl⟩
   have a1 : (p : Int) + 2 = (p2 : Int) := by omega
   by_cases hp3 : s.size < p2
   ·have HN := hide (hN (fld_short L p (by rw [unhide HLS]; omega)))
    have a2 : (s.size : Int) < (p2 : Int) := by omega
    clear hN ep2 hp3
    go_wp2_with fail
    go_ret2
    exact ⟨⟨[], _, false, rfl, lit_emptyS _ _ _ hz, .inr ⟨rfl, rfl, unhide HN⟩⟩, (unhide HB).alloc hz _⟩
   ·have a2 : ¬ (s.size : Int) < (p2 : Int) := by omega
    have a6 : (p2 : Int) ≤ (s.size : Int) := by omega
    have a7 : p ≤ p2 := by omega
    have a5 : (0 : Int) ≤ (p2 : Int) := by omega
    have HPS : Hid ((s.extract p p2).size = 2) := by show _ = _; rw [cut_size _ _ _ (by omega)]; omega
    obtain ⟨y, hy⟩ : ∃ y : Nat, y = ofBE (s.extract p p2).data.toList := ⟨_, rfl⟩
    have hy1 : y = ofBE ((L.drop p).take 2) := by rw [hy, cut_list, ← unhide HL, show p2 - p = 2 by omega]
    have hy2 : y < 65536 := by have := ofBE_lt (s.extract p p2).data.toList 2; rw [List.take_of_length_le (by rw [Array.length_toList]; exact Nat.le_of_eq (unhide HPS)), ← hy] at this; exact this
    obtain ⟨p3, ep3⟩ : ∃ p3, p3 = p2 + y := ⟨_, rfl⟩
    have b1 : (p2 : Int) + (y : Int) = (p3 : Int) := by omega
    have y0 : (y : Int) ≤ 65536 := by omega
    have HY := hide hy
    by_cases hbig : 20000 < y
    ·have HN := hide (hN (fld_big L p y hy1 hbig))
     have a8 : (20000 : Int) < (y : Int) := by omega
     clear hN ep2 hp3 hy hy1 ep3 hy2 hbig
     go_wp2_with (go_at_call 76; have h3 := snumberOf (s.extract p p2) (by rw [unhide HPS]; decide) wr; rw [← unhide HY] at h3; refine h3.mono ?_; clear h3; rintro e w2 ⟨rfl, hw⟩; subst w2)
     go_ret2
     exact ⟨⟨[], _, false, rfl, lit_emptyS _ _ _ hz, .inr ⟨rfl, rfl, unhide HN⟩⟩, (unhide HB).alloc hz _⟩
    ·have a8 : ¬ (20000 : Int) < (y : Int) := by omega
     by_cases hoff : s.size < p3
     ·have HN := hide (hN (fld_off L p y hy1 (by rw [unhide HLS]; omega)))
      have a9 : (s.size : Int) < (p3 : Int) := by omega
      clear hN ep2 hp3 hy hy1 ep3 hy2 hbig hoff
      go_wp2_with (go_at_call 76; have h3 := snumberOf (s.extract p p2) (by rw [unhide HPS]; decide) wr; rw [← unhide HY] at h3; refine h3.mono ?_; clear h3; rintro e w2 ⟨rfl, hw⟩; subst w2)
      go_ret2
      exact ⟨⟨[], _, false, rfl, lit_emptyS _ _ _ hz, .inr ⟨rfl, rfl, unhide HN⟩⟩, (unhide HB).alloc hz _⟩
     ·have a9 : ¬ (s.size : Int) < (p3 : Int) := by omega
      have c1 : (p3 : Int) ≤ (s.size : Int) := by omega
      have c2 : p2 ≤ p3 := by omega
      have c3 : (0 : Int) ≤ (p3 : Int) := by omega
      have hX : (⟨((L.drop (p + 2)).take y).toArray⟩ : ByteArray) = s.extract p2 p3 := by
       have h0 := cut_list s p2 p3
       rw [← unhide HL, show p3 - p2 = y by omega, ep2] at h0
       rw [← h0, ep2]
      have HN : Hid (fldN q0 (k + 1) = some (m ++ [s.extract p2 p3], L.drop p3)) := by
       show _ = _
       simp only [fldN]
       rw [unhide HF]
       simp only [Option.bind_some]
       rw [fld_at L p y hy1 hbig (by rw [unhide HLS]; omega)]
       simp only [Option.bind_some, hX]
       rw [ep3, ep2]
      have hown := unhide HO
      obtain ⟨x, ex⟩ : ∃ x, x = s.extract p2 p3 := ⟨_, rfl⟩
      have HX := hide ex
      have hm3 : m.length ≤ 60 := by omega
      clear hN hy hy1 hy2 hbig hoff hX ex hp3
      have p0 : 1 ≤ p3 := by omega
      have q0' : p3 ≤ s.size := by omega
      obtain ⟨z, ez⟩ : ∃ z, z = 2 + y := ⟨_, rfl⟩
      have d1 : (2 : Int) + (y : Int) = (z : Int) := by omega
      have d2 : (p : Int) + (z : Int) = (p3 : Int) := by omega
      have d4 : (z : Int) ≤ 1048576 := by omega
      have d5 : (p3 : Int) ≤ 1048576 := by omega
      clear ez ep2 ep3
      obtain ⟨j2, ej⟩ : ∃ j2, j = j2 + 1 := ⟨j - 1, by omega⟩
      subst ej
      go_wp2_with (first | (go_at_call 76; have h3 := snumberOf (s.extract p p2) (by rw [unhide HPS]; decide) wr; rw [← unhide HY] at h3; refine h3.mono ?_; clear h3; rintro e w2 ⟨rfl, hw⟩; subst w2) | (at_builtin; refine wpList_append_lies _ rfl (.tmp 48) (.tmp 57) 25 rfl w.heap.size 9 i0 (.string ⟨#[]⟩) 1 16 Tryz.underlying25 hi hz0 hz1 hz2 rfl (by decide) _ _ _ rfl (hown.alloc _) ⟨wr.heap.size, 0, none⟩ 1 1 (cS [s.extract p2 p3]) rfl rfl (by exact news_new wr (cS [s.extract p2 p3]) 9) (cS_one _) (by decide) (by unfold maxLen; omega) (by omega) (by simp; omega) _ rfl ?_; intro g2 c2 w2 hown2 hgrow2 hat2 hlt2; have HB2 := hide (below_app (unhide HB) hz hown (Nat.le_refl _) hgrow2); have HO2 := hide (own_appS (l := m) (m := [s.extract p2 p3]) hown2 rfl); clear hown2 hgrow2 hat2 hlt2))
      go_roundw
      case rel => exact ⟨j2, k + 1, p3, m ++ [s.extract p2 p3], by omega, by go_num, by go_num, p0, q0', by rw [List.length_append]; exact Nat.add_le_add_right hm 1, HN, HO2, HB2⟩
      case measure => simp [intOf]
end Go.Proofs.YtfogppnijdjakaaGreatDoor

/- ReadFields: what the specification answers at every row of bytes; both answers in the words of the law's walk; what the row's list gives. -/
namespace Go.Proofs.YtfogppnijdjakaaGreatDoor
open Go.ChangeShapes Go.WideShapes Go.ChangeAt Go.RowKit
theorem ofBE_first (s : ByteArray) (h : 0 < s.size) : ofBE (s.data.toList.take 1) = (s[0]'h).toNat := by
 rw [show (1 : Nat) = 0 + 1 from rfl, ofBE_snoc _ 0 (by simpa using h), List.take_zero]
 show 0 * 256 + _ = _
 rw [Nat.zero_mul, Nat.zero_add]
 rfl
set_option maxHeartbeats 400000 in
set_option maxRecDepth 100000 in
theorem sreadNone (w : World) : Calls Tryz.prog 78 #[.string ⟨#[]⟩] w fun e w' => (∃ v, e = .returned (.tuple #[v, .bool false]) ∧ w'.ownsRow w.heap.size 9 1 v ([] : List ByteArray).length (cS [])) ∧ Below w.heap.size w w' := by
 go_enter Tryz.func78, Tryz.ntmps78
 go_wp2_with fail
 go_ret2
 exact ⟨⟨_, rfl, lit_emptyS _ _ _ (Nat.le_refl _)⟩, (Below.refl _ _).alloc (Nat.le_refl _) _⟩
set_option maxHeartbeats 400000 in
set_option maxRecDepth 100000 in
theorem sreadMany (s : ByteArray) (n : Nat) (hp0 : 0 < s.size) (hs : s.size ≤ 65536) (hc0 : (s[0]'hp0).toNat = n) (h60 : 60 < n) (w : World) :
  Calls Tryz.prog 78 #[.string s] w fun e w' => (∃ v, e = .returned (.tuple #[v, .bool false]) ∧ w'.ownsRow w.heap.size 9 1 v ([] : List ByteArray).length (cS [])) ∧ Below w.heap.size w w' := by
 have hne2 : s.toList.isEmpty = false := by
  rw [ByteArray.toList_eq, List.isEmpty_eq_false_iff]
  intro h; have h2 := congrArg List.length h; rw [Array.length_toList] at h2; have h3 : s.size = 0 := h2; omega
 have n60 : (60 : Int) < (n : Int) := by omega
 go_enter Tryz.func78, Tryz.ntmps78
 go_wp2_with fail
 go_ret2
 exact ⟨⟨_, rfl, lit_emptyS _ _ _ (Nat.le_refl _)⟩, (Below.refl _ _).alloc (Nat.le_refl _) _⟩
/-- l02Read of every text. -/
theorem sread (s : ByteArray) (hs : s.size ≤ 65536) (w : World) :
  Calls Tryz.prog 78 #[.string s] w fun e w' => (∃ m v c, e = .returned (.tuple #[v, .bool c]) ∧ w'.ownsRow w.heap.size 9 1 v m.length (cS m) ∧ ((c = true ∧ rfOf s.data.toList = some m) ∨ (c = false ∧ m = [] ∧ rfOf s.data.toList = none))) ∧ Below w.heap.size w w' := by
 have hlen : s.data.toList.length = s.size := by simp
 by_cases h0 : s.size = 0
 ·have es : s = ⟨#[]⟩ := by
   obtain ⟨d⟩ := s
   have : d = #[] := Array.eq_empty_of_size_eq_zero h0
   rw [this]
  subst es
  refine (sreadNone w).mono ?_
  rintro e w' ⟨⟨v, rfl, ho⟩, hb⟩
  exact ⟨⟨[], v, false, rfl, ho, .inr ⟨rfl, rfl, rfl⟩⟩, hb⟩
 have hp : 0 < s.size := by omega
 have h1 : ¬ s.data.toList.length < 1 := by omega
 by_cases h60 : 60 < (s[0]'hp).toNat
 ·refine (sreadMany s _ hp hs rfl h60 w).mono ?_
  rintro e w' ⟨⟨v, rfl, ho⟩, hb⟩
  exact ⟨⟨[], v, false, rfl, ho, .inr ⟨rfl, rfl, by unfold rfOf; rw [if_neg h1, if_pos (by rw [ofBE_first s hp]; exact h60)]⟩⟩, hb⟩
 ·refine (sreadGo s _ hp hs rfl (by omega) w).mono ?_
  rintro e w' ⟨⟨m, v, c, rfl, ho, hc⟩, hb⟩
  have hR : rfOf s.data.toList = (fldN (s.data.toList.drop 1) (s[0]'hp).toNat).bind fun p => if p.2 = [] then some p.1 else none := by
   unfold rfOf; rw [if_neg h1, ofBE_first s hp, if_neg h60]
  refine ⟨⟨m, v, c, rfl, ho, ?_⟩, hb⟩
  rcases hc with ⟨rfl, h⟩ | ⟨rfl, rfl, h⟩
  ·exact .inl ⟨rfl, by rw [hR, h]; rfl⟩
  ·refine .inr ⟨rfl, rfl, ?_⟩
   rw [hR]
   cases hk : fldN (s.data.toList.drop 1) (s[0]'hp).toNat with
   | none => rfl
   | some p =>
    obtain ⟨m, r⟩ := p
    by_cases hr0 : r = []
    ·subst hr0; exact absurd hk (h m)
    ·simp [hr0]
theorem iface_cell {W : World} {n : String} {g0 t0 : Nat} {ms : Array (String × TypeId)} {nm : String} {d : DataW Unit} (hg0 : Tryz.prog.globalNamed n = some g0) (ht0 : (Tryz.prog.globals[g0]?).map (·.type) = some t0) (hi : Tryz.prog.underlying t0 = some (.interface ms))
  (h : Lib.VarReads Tryz.prog W n (.iface nm d)) : ∃ u y, W.cell? ⟨g0, 0, none⟩ = some (.iface u y) := by
 obtain ⟨g, t, cs, fuel, p, hg, ht, hv, hd⟩ := h
 obtain rfl : g = g0 := (Option.some.inj (hg0.symm.trans hg)).symm
 obtain rfl : t = t0 := (Option.some.inj (ht0.symm.trans ht)).symm
 obtain ⟨f2, u, v, e, _, _⟩ := iface_of_trod hi hd
 refine ⟨u, v, ?_⟩
 have hc := World.var?_cell hg hv 0
 rw [hc, ← Array.getElem?_toList, e]; rfl
theorem Tryz.etA : Tryz.prog.globalNamed "errors.errorType" = some 8 := by kernel_rfl
theorem Tryz.rtA : (Tryz.prog.cutTypes.find? (·.1 == "internal/reflectlite.rtype")).map (·.2) = some 161 := by kernel_rfl
theorem Tryz.oneRowA : ((List.range 225).filter fun t => Tryz.prog.rowNamed t [101, 114, 114, 111, 114]) = [130] := by kernel_rfl
theorem Tryz.sizeA : Tryz.prog.types.size = 225 := by kernel_rfl
theorem handle_of {W : World} (h : handlesMet Tryz.prog [("errors.errorType", Rows.laid_errors_errorType)] W) : W.cell? ⟨8, 0, none⟩ = some (.iface 161 (.agg #[.pointer (some ⟨10, 130, none⟩)])) := by
 obtain ⟨name, u, ty, e1, e2, e3, e4, e5⟩ := h _ (List.mem_singleton.2 rfl)
 have en : name = [101, 114, 114, 111, 114] := (Option.some.inj e1).symm
 subst en
 obtain rfl := Option.some.inj (Tryz.rtA.symm.trans e2)
 have hm : ty ∈ (List.range 225).filter fun t => Tryz.prog.rowNamed t [101, 114, 114, 111, 114] := List.mem_filter.2 ⟨List.mem_range.2 (by rw [← Tryz.sizeA]; exact e3), e4⟩
 rw [Tryz.oneRowA] at hm
 obtain rfl := List.mem_singleton.1 hm
 have hh : typeHandle Tryz.prog 130 = .pointer (some ⟨10, 130, none⟩) := by kernel_rfl
 rw [hh] at e5
 simpa using World.var?_cell Tryz.etA e5 0
end Go.Proofs.YtfogppnijdjakaaGreatDoor

/- What the row's list gives of the nine named errors, together. -/
namespace Go.Proofs.YtfogppnijdjakaaGreatDoor
open Go.ChangeShapes Go.WideShapes Go.ChangeAt Go.RowKit
set_option linter.unusedVariables false
/-- What the nine named errors are: each of its own. -/
def Errs9 (W : World) : Prop := ErrsIn W ∧ ∃ xc xb xs x0 x1 x2 x3 x4, ErrsX W xc xb xs ∧ StE W x0 x1 x2 x3 x4 ∧ (xb ≠ xc ∧ xs ≠ xc) ∧ ∀ x, x = xb ∨ x = xs → x ≠ x0 ∧ x ≠ x1 ∧ x ≠ x2 ∧ x ≠ x3 ∧ x ≠ x4
set_option maxHeartbeats 4000000 in
set_option maxRecDepth 100000 in
theorem errs9 {W : World} (h : laidMet Tryz.prog [("loop.example/g00308/impl.errCutOff", Rows.laid_loop_example_g00308_impl_errCutOff), ("loop.example/g00308/impl.errBounds", Rows.laid_loop_example_g00308_impl_errBounds), ("loop.example/g00308/impl.errSum", Rows.laid_loop_example_g00308_impl_errSum), ("loop.example/g00308/impl.errBehind", Rows.laid_loop_example_g00308_impl_errBehind), ("loop.example/g00308/impl.errNoRecord", Rows.laid_loop_example_g00308_impl_errNoRecord), ("loop.example/g00308/impl.errNotRight", Rows.laid_loop_example_g00308_impl_errNotRight), ("loop.example/g00308/impl.errLowerTerm", Rows.laid_loop_example_g00308_impl_errLowerTerm), ("loop.example/g00308/impl.errRecordSize", Rows.laid_loop_example_g00308_impl_errRecordSize), ("loop.example/g00308/impl.errNoRoom", Rows.laid_loop_example_g00308_impl_errNoRoom)] W) (h2 : handlesMet Tryz.prog [("errors.errorType", Rows.laid_errors_errorType)] W) : Errs9 W := by
 have hI : ErrsIn W := ⟨handle_of h2, iface_cell (by kernel_rfl) (by kernel_rfl) Tryz.underlying130 (Lib.laidMet.reads h (List.mem_cons_self ..)),
  iface_cell (by kernel_rfl) (by kernel_rfl) Tryz.underlying130 (Lib.laidMet.reads h (List.mem_cons_of_mem _ (List.mem_cons_self ..))),
  iface_cell (by kernel_rfl) (by kernel_rfl) Tryz.underlying130 (Lib.laidMet.reads h (List.mem_cons_of_mem _ (List.mem_cons_of_mem _ (List.mem_cons_of_mem _ (List.mem_cons_self ..)))))⟩
 refine ⟨hI, ?_⟩
 clear hI
 obtain ⟨ps, ⟨g0, t0, cs0, f0, p0, q0, hg0, ht0, hv0, hd0, ⟨g1, t1, cs1, f1, p1, q1, hg1, ht1, hv1, hd1, ⟨g2, t2, cs2, f2, p2, q2, hg2, ht2, hv2, hd2, ⟨g3, t3, cs3, f3, p3, q3, hg3, ht3, hv3, hd3, ⟨g4, t4, cs4, f4, p4, q4, hg4, ht4, hv4, hd4, ⟨g5, t5, cs5, f5, p5, q5, hg5, ht5, hv5, hd5, ⟨g6, t6, cs6, f6, p6, q6, hg6, ht6, hv6, hd6, ⟨g7, t7, cs7, f7, p7, q7, hg7, ht7, hv7, hd7, ⟨g8, t8, cs8, f8, p8, q8, hg8, ht8, hv8, hd8, _, e8⟩, e7⟩, e6⟩, e5⟩, e4⟩, e3⟩, e2⟩, e1⟩, e0⟩, hnd, hrows⟩ := h
 obtain rfl : g0 = 0 := Option.some.inj (hg0.symm.trans (by kernel_rfl))
 obtain rfl : t0 = 130 := Option.some.inj (ht0.symm.trans (by kernel_rfl))
 obtain rfl : g1 = 6 := Option.some.inj (hg1.symm.trans (by kernel_rfl))
 obtain rfl : t1 = 130 := Option.some.inj (ht1.symm.trans (by kernel_rfl))
 obtain rfl : g2 = 7 := Option.some.inj (hg2.symm.trans (by kernel_rfl))
 obtain rfl : t2 = 130 := Option.some.inj (ht2.symm.trans (by kernel_rfl))
 obtain rfl : g3 = 9 := Option.some.inj (hg3.symm.trans (by kernel_rfl))
 obtain rfl : t3 = 130 := Option.some.inj (ht3.symm.trans (by kernel_rfl))
 obtain rfl : g4 = 1 := Option.some.inj (hg4.symm.trans (by kernel_rfl))
 obtain rfl : t4 = 130 := Option.some.inj (ht4.symm.trans (by kernel_rfl))
 obtain rfl : g5 = 2 := Option.some.inj (hg5.symm.trans (by kernel_rfl))
 obtain rfl : t5 = 130 := Option.some.inj (ht5.symm.trans (by kernel_rfl))
 obtain rfl : g6 = 3 := Option.some.inj (hg6.symm.trans (by kernel_rfl))
 obtain rfl : t6 = 130 := Option.some.inj (ht6.symm.trans (by kernel_rfl))
 obtain rfl : g7 = 4 := Option.some.inj (hg7.symm.trans (by kernel_rfl))
 obtain rfl : t7 = 130 := Option.some.inj (ht7.symm.trans (by kernel_rfl))
 obtain rfl : g8 = 5 := Option.some.inj (hg8.symm.trans (by kernel_rfl))
 obtain rfl : t8 = 130 := Option.some.inj (ht8.symm.trans (by kernel_rfl))
 subst e8
 subst e7
 subst e6
 subst e5
 subst e4
 subst e3
 subst e2
 subst e1
 subst e0
 obtain ⟨l0⟩ := cs0
 obtain ⟨l1⟩ := cs1
 obtain ⟨l2⟩ := cs2
 obtain ⟨l3⟩ := cs3
 obtain ⟨l4⟩ := cs4
 obtain ⟨l5⟩ := cs5
 obtain ⟨l6⟩ := cs6
 obtain ⟨l7⟩ := cs7
 obtain ⟨l8⟩ := cs8
 have ok0 : ∀ u v, l0 = [.iface u v] → Value.okWide Tryz.prog W .any 0 u v := fun u v e => by
  subst e
  exact (hrows 0 0 (by simp [MemPlace.row])).2 u v (by simpa using World.var?_cell hg0 hv0 0)
 have ok1 : ∀ u v, l1 = [.iface u v] → Value.okWide Tryz.prog W .any 0 u v := fun u v e => by
  subst e
  exact (hrows 6 0 (by simp [MemPlace.row])).2 u v (by simpa using World.var?_cell hg1 hv1 0)
 have ok2 : ∀ u v, l2 = [.iface u v] → Value.okWide Tryz.prog W .any 0 u v := fun u v e => by
  subst e
  exact (hrows 7 0 (by simp [MemPlace.row])).2 u v (by simpa using World.var?_cell hg2 hv2 0)
 have ok3 : ∀ u v, l3 = [.iface u v] → Value.okWide Tryz.prog W .any 0 u v := fun u v e => by
  subst e
  exact (hrows 9 0 (by simp [MemPlace.row])).2 u v (by simpa using World.var?_cell hg3 hv3 0)
 have ok4 : ∀ u v, l4 = [.iface u v] → Value.okWide Tryz.prog W .any 0 u v := fun u v e => by
  subst e
  exact (hrows 1 0 (by simp [MemPlace.row])).2 u v (by simpa using World.var?_cell hg4 hv4 0)
 have ok5 : ∀ u v, l5 = [.iface u v] → Value.okWide Tryz.prog W .any 0 u v := fun u v e => by
  subst e
  exact (hrows 2 0 (by simp [MemPlace.row])).2 u v (by simpa using World.var?_cell hg5 hv5 0)
 have ok6 : ∀ u v, l6 = [.iface u v] → Value.okWide Tryz.prog W .any 0 u v := fun u v e => by
  subst e
  exact (hrows 3 0 (by simp [MemPlace.row])).2 u v (by simpa using World.var?_cell hg6 hv6 0)
 have ok7 : ∀ u v, l7 = [.iface u v] → Value.okWide Tryz.prog W .any 0 u v := fun u v e => by
  subst e
  exact (hrows 4 0 (by simp [MemPlace.row])).2 u v (by simpa using World.var?_cell hg7 hv7 0)
 have ok8 : ∀ u v, l8 = [.iface u v] → Value.okWide Tryz.prog W .any 0 u v := fun u v e => by
  subst e
  exact (hrows 5 0 (by simp [MemPlace.row])).2 u v (by simpa using World.var?_cell hg8 hv8 0)
 obtain ⟨x0, s0, rfl, hc0, -, -, rfl⟩ := errorString_of_trod Tryz.underlying130 rowE Tryz.underlying194 Tryz.underlying214 rfl rfl Tryz.underlying9 (by kernel_rfl) (by kernel_rfl) hd0 ok0
 obtain ⟨x1, s1, rfl, hc1, -, -, rfl⟩ := errorString_of_trod Tryz.underlying130 rowE Tryz.underlying194 Tryz.underlying214 rfl rfl Tryz.underlying9 (by kernel_rfl) (by kernel_rfl) hd1 ok1
 obtain ⟨x2, s2, rfl, hc2, -, -, rfl⟩ := errorString_of_trod Tryz.underlying130 rowE Tryz.underlying194 Tryz.underlying214 rfl rfl Tryz.underlying9 (by kernel_rfl) (by kernel_rfl) hd2 ok2
 obtain ⟨x3, s3, rfl, hc3, -, -, rfl⟩ := errorString_of_trod Tryz.underlying130 rowE Tryz.underlying194 Tryz.underlying214 rfl rfl Tryz.underlying9 (by kernel_rfl) (by kernel_rfl) hd3 ok3
 obtain ⟨x4, s4, rfl, hc4, -, -, rfl⟩ := errorString_of_trod Tryz.underlying130 rowE Tryz.underlying194 Tryz.underlying214 rfl rfl Tryz.underlying9 (by kernel_rfl) (by kernel_rfl) hd4 ok4
 obtain ⟨x5, s5, rfl, hc5, -, -, rfl⟩ := errorString_of_trod Tryz.underlying130 rowE Tryz.underlying194 Tryz.underlying214 rfl rfl Tryz.underlying9 (by kernel_rfl) (by kernel_rfl) hd5 ok5
 obtain ⟨x6, s6, rfl, hc6, -, -, rfl⟩ := errorString_of_trod Tryz.underlying130 rowE Tryz.underlying194 Tryz.underlying214 rfl rfl Tryz.underlying9 (by kernel_rfl) (by kernel_rfl) hd6 ok6
 obtain ⟨x7, s7, rfl, hc7, -, -, rfl⟩ := errorString_of_trod Tryz.underlying130 rowE Tryz.underlying194 Tryz.underlying214 rfl rfl Tryz.underlying9 (by kernel_rfl) (by kernel_rfl) hd7 ok7
 obtain ⟨x8, s8, rfl, hc8, -, -, rfl⟩ := errorString_of_trod Tryz.underlying130 rowE Tryz.underlying194 Tryz.underlying214 rfl rfl Tryz.underlying9 (by kernel_rfl) (by kernel_rfl) hd8 ok8
 have hnd2 := hnd
 simp [MemPlace.row] at hnd2
 clear hnd
 have HC0 : W.cell? ⟨0, 0, none⟩ = some (.iface 194 (.pointer (some x0))) := by simpa using World.var?_cell hg0 hv0 0
 have HX : ErrsX W x0 x1 x2 := ⟨handle_of h2, HC0, by simpa using World.var?_cell hg1 hv1 0, by simpa using World.var?_cell hg2 hv2 0, (hrows x0.block x0.off (by simp [MemPlace.row])).1, (hrows x1.block x1.off (by simp [MemPlace.row])).1, (hrows x2.block x2.off (by simp [MemPlace.row])).1⟩
 have c4 : W.cell? ⟨1, 0, none⟩ = some (.iface 194 (.pointer (some x4))) := by simpa using World.var?_cell hg4 hv4 0
 have c5 : W.cell? ⟨2, 0, none⟩ = some (.iface 194 (.pointer (some x5))) := by simpa using World.var?_cell hg5 hv5 0
 have c6 : W.cell? ⟨3, 0, none⟩ = some (.iface 194 (.pointer (some x6))) := by simpa using World.var?_cell hg6 hv6 0
 have c7 : W.cell? ⟨4, 0, none⟩ = some (.iface 194 (.pointer (some x7))) := by simpa using World.var?_cell hg7 hv7 0
 have c8 : W.cell? ⟨5, 0, none⟩ = some (.iface 194 (.pointer (some x8))) := by simpa using World.var?_cell hg8 hv8 0
 have b4 := (hrows x4.block x4.off (by simp [MemPlace.row])).1
 have b5 := (hrows x5.block x5.off (by simp [MemPlace.row])).1
 have b6 := (hrows x6.block x6.off (by simp [MemPlace.row])).1
 have b7 := (hrows x7.block x7.off (by simp [MemPlace.row])).1
 have b8 := (hrows x8.block x8.off (by simp [MemPlace.row])).1
 clear hrows ok0 hc0 hv0 hg0 ht0 hd0 ok1 hc1 hv1 hg1 ht1 hd1 ok2 hc2 hv2 hg2 ht2 hd2 ok3 hc3 hv3 hg3 ht3 hd3 ok4 hc4 hv4 hg4 ht4 hd4 ok5 hc5 hv5 hg5 ht5 hd5 ok6 hc6 hv6 hg6 ht6 hd6 ok7 hc7 hv7 hg7 ht7 hd7 ok8 hc8 hv8 hg8 ht8 hd8 h2 HC0
 have n1_0 : x1 ≠ x0 := by
  clear HX c4 c5 c6 c7 c8 b4 b5 b6 b7 b8
  rintro rfl; simp_all
 have n2_0 : x2 ≠ x0 := by
  clear HX c4 c5 c6 c7 c8 b4 b5 b6 b7 b8
  rintro rfl; simp_all
 have n1_4 : x1 ≠ x4 := by
  clear HX c4 c5 c6 c7 c8 b4 b5 b6 b7 b8
  rintro rfl; simp_all
 have n1_5 : x1 ≠ x5 := by
  clear HX c4 c5 c6 c7 c8 b4 b5 b6 b7 b8
  rintro rfl; simp_all
 have n1_6 : x1 ≠ x6 := by
  clear HX c4 c5 c6 c7 c8 b4 b5 b6 b7 b8
  rintro rfl; simp_all
 have n1_7 : x1 ≠ x7 := by
  clear HX c4 c5 c6 c7 c8 b4 b5 b6 b7 b8
  rintro rfl; simp_all
 have n1_8 : x1 ≠ x8 := by
  clear HX c4 c5 c6 c7 c8 b4 b5 b6 b7 b8
  rintro rfl; simp_all
 have n2_4 : x2 ≠ x4 := by
  clear HX c4 c5 c6 c7 c8 b4 b5 b6 b7 b8
  rintro rfl; simp_all
 have n2_5 : x2 ≠ x5 := by
  clear HX c4 c5 c6 c7 c8 b4 b5 b6 b7 b8
  rintro rfl; simp_all
 have n2_6 : x2 ≠ x6 := by
  clear HX c4 c5 c6 c7 c8 b4 b5 b6 b7 b8
  rintro rfl; simp_all
 have n2_7 : x2 ≠ x7 := by
  clear HX c4 c5 c6 c7 c8 b4 b5 b6 b7 b8
  rintro rfl; simp_all
 have n2_8 : x2 ≠ x8 := by
  clear HX c4 c5 c6 c7 c8 b4 b5 b6 b7 b8
  rintro rfl; simp_all
 have n4_5 : x4 ≠ x5 := by
  clear HX c4 c5 c6 c7 c8 b4 b5 b6 b7 b8
  rintro rfl; simp_all
 have n4_6 : x4 ≠ x6 := by
  clear HX c4 c5 c6 c7 c8 b4 b5 b6 b7 b8
  rintro rfl; simp_all
 have n4_7 : x4 ≠ x7 := by
  clear HX c4 c5 c6 c7 c8 b4 b5 b6 b7 b8
  rintro rfl; simp_all
 have n4_8 : x4 ≠ x8 := by
  clear HX c4 c5 c6 c7 c8 b4 b5 b6 b7 b8
  rintro rfl; simp_all
 have n5_6 : x5 ≠ x6 := by
  clear HX c4 c5 c6 c7 c8 b4 b5 b6 b7 b8
  rintro rfl; simp_all
 have n5_7 : x5 ≠ x7 := by
  clear HX c4 c5 c6 c7 c8 b4 b5 b6 b7 b8
  rintro rfl; simp_all
 have n5_8 : x5 ≠ x8 := by
  clear HX c4 c5 c6 c7 c8 b4 b5 b6 b7 b8
  rintro rfl; simp_all
 have n6_7 : x6 ≠ x7 := by
  clear HX c4 c5 c6 c7 c8 b4 b5 b6 b7 b8
  rintro rfl; simp_all
 have n6_8 : x6 ≠ x8 := by
  clear HX c4 c5 c6 c7 c8 b4 b5 b6 b7 b8
  rintro rfl; simp_all
 have n7_8 : x7 ≠ x8 := by
  clear HX c4 c5 c6 c7 c8 b4 b5 b6 b7 b8
  rintro rfl; simp_all
 have HS : StE W x4 x5 x6 x7 x8 := ⟨c4, c5, c6, c7, c8, b4, b5, b6, b7, b8, by
  clear HX c4 c5 c6 c7 c8 b4 b5 b6 b7 b8 hnd2
  simp
  exact ⟨⟨n4_5, n4_6, n4_7, n4_8⟩, ⟨n5_6, n5_7, n5_8⟩, ⟨n6_7, n6_8⟩, n7_8⟩⟩
 exact ⟨x0, x1, x2, x4, x5, x6, x7, x8, HX, HS, ⟨n1_0, n2_0⟩, fun x hx => by
  rcases hx with rfl | rfl
  ·exact ⟨n1_4, n1_5, n1_6, n1_7, n1_8⟩
  ·exact ⟨n2_4, n2_5, n2_6, n2_7, n2_8⟩⟩
theorem vars_len9 {H : Type} {enc : TypeId × Value → H} {P : Program} {w : World} {spare : Nat → Bool} {n1 n2 n3 n4 n5 n6 n7 n8 n9 : String} {gs : List (DataW H)} {ps : List MemPlace} (h : DataW.TrodVars enc P w spare [n1, n2, n3, n4, n5, n6, n7, n8, n9] gs ps) : ∃ d1 d2 d3 d4 d5 d6 d7 d8 d9, gs = [d1, d2, d3, d4, d5, d6, d7, d8, d9] := by
 match gs, h with
 | [d1, d2, d3, d4, d5, d6, d7, d8, d9], _ => exact ⟨d1, d2, d3, d4, d5, d6, d7, d8, d9, rfl⟩
end Go.Proofs.YtfogppnijdjakaaGreatDoor
