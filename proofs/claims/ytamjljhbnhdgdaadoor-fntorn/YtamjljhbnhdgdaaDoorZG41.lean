/- Texts put together: ReadFT ReadNumS SapS. -/
import Derived.Test.YtamjljhbnhdgdaaDoorZG19
import Derived.OpenVars
import Derived.LaidMore
import Derived.LaidHandle
import Derived.Lib.LaidU8
import Derived.Test.YtamjljhbnhdgdaaDoorZG3
import Derived.Test.YtamjljhbnhdgdaaDoorZG2
import Derived.Test.YtamjljhbnhdgdaaDoorZG20
import Derived.Test.YtamjljhbnhdgdaaDoorZG10
/- ReadFields: what the specification answers at every row of bytes; both answers in the words of the law's walk; what the row's list gives. -/
namespace Go.Proofs.YtamjljhbnhdgdaaDoor
open Go.ChangeShapes Go.WideShapes Go.ChangeAt Go.RowKit
theorem ofBE_first (s : ByteArray) (h : 0 < s.size) : ofBE (s.data.toList.take 1) = (s[0]'h).toNat := by
 rw [show (1 : Nat) = 0 + 1 from rfl, ofBE_snoc _ 0 (by simpa using h), List.take_zero]
 show 0 * 256 + _ = _
 rw [Nat.zero_mul, Nat.zero_add]
 rfl
set_option maxHeartbeats 400000 in
set_option maxRecDepth 100000 in
theorem sreadNone (w : World) : Calls Tryd.prog 43 #[.string ⟨#[]⟩] w fun e w' => (∃ v, e = .returned (.tuple #[v, .bool false]) ∧ w'.ownsRow w.heap.size 9 1 v ([] : List ByteArray).length (cS [])) ∧ Below w.heap.size w w' := by
 go_enter Tryd.func43, Tryd.ntmps43
 go_wp2_with fail
 go_ret2
 exact ⟨⟨_, rfl, lit_emptyS _ _ _ (Nat.le_refl _)⟩, (Below.refl _ _).alloc (Nat.le_refl _) _⟩
set_option maxHeartbeats 400000 in
set_option maxRecDepth 100000 in
theorem sreadMany (s : ByteArray) (n : Nat) (hp0 : 0 < s.size) (hs : s.size ≤ 65536) (hc0 : (s[0]'hp0).toNat = n) (h60 : 60 < n) (w : World) :
  Calls Tryd.prog 43 #[.string s] w fun e w' => (∃ v, e = .returned (.tuple #[v, .bool false]) ∧ w'.ownsRow w.heap.size 9 1 v ([] : List ByteArray).length (cS [])) ∧ Below w.heap.size w w' := by
 have hne2 : s.toList.isEmpty = false := by
  rw [ByteArray.toList_eq, List.isEmpty_eq_false_iff]
  intro h; have h2 := congrArg List.length h; rw [Array.length_toList] at h2; have h3 : s.size = 0 := h2; omega
 have n60 : (60 : Int) < (n : Int) := by omega
 go_enter Tryd.func43, Tryd.ntmps43
 go_wp2_with fail
 go_ret2
 exact ⟨⟨_, rfl, lit_emptyS _ _ _ (Nat.le_refl _)⟩, (Below.refl _ _).alloc (Nat.le_refl _) _⟩
/-- l02Read of every text. -/
theorem sread (s : ByteArray) (hs : s.size ≤ 65536) (w : World) :
  Calls Tryd.prog 43 #[.string s] w fun e w' => (∃ m v c, e = .returned (.tuple #[v, .bool c]) ∧ w'.ownsRow w.heap.size 9 1 v m.length (cS m) ∧ ((c = true ∧ rfOf s.data.toList = some m) ∨ (c = false ∧ m = [] ∧ rfOf s.data.toList = none))) ∧ Below w.heap.size w w' := by
 have hlen : s.data.toList.length = s.size := by simp
 by_cases h0 : s.size = 0
 ·have es : s = ⟨#[]⟩ := by
   obtain ⟨d⟩ := s
   have : d = #[] := Array.eq_empty_of_size_eq_zero h0
   rw [this]
  subst es
  refine (sreadNone w).mono ?_
  rintro e w' ⟨⟨v, rfl, ho⟩, hb⟩
  exact ⟨⟨[], v, false, rfl, ho, .inr ⟨rfl, rfl, rfl⟩⟩, hb⟩
 have hp : 0 < s.size := by omega
 have h1 : ¬ s.data.toList.length < 1 := by omega
 by_cases h60 : 60 < (s[0]'hp).toNat
 ·refine (sreadMany s _ hp hs rfl h60 w).mono ?_
  rintro e w' ⟨⟨v, rfl, ho⟩, hb⟩
  exact ⟨⟨[], v, false, rfl, ho, .inr ⟨rfl, rfl, by unfold rfOf; rw [if_neg h1, if_pos (by rw [ofBE_first s hp]; exact h60)]⟩⟩, hb⟩
 ·refine (sreadGo s _ hp hs rfl (by omega) w).mono ?_
  rintro e w' ⟨⟨m, v, c, rfl, ho, hc⟩, hb⟩
  have hR : rfOf s.data.toList = (fldN (s.data.toList.drop 1) (s[0]'hp).toNat).bind fun p => if p.2 = [] then some p.1 else none := by
   unfold rfOf; rw [if_neg h1, ofBE_first s hp, if_neg h60]
  refine ⟨⟨m, v, c, rfl, ho, ?_⟩, hb⟩
  rcases hc with ⟨rfl, h⟩ | ⟨rfl, rfl, h⟩
  ·exact .inl ⟨rfl, by rw [hR, h]; rfl⟩
  ·refine .inr ⟨rfl, rfl, ?_⟩
   rw [hR]
   cases hk : fldN (s.data.toList.drop 1) (s[0]'hp).toNat with
   | none => rfl
   | some p =>
    obtain ⟨m, r⟩ := p
    by_cases hr0 : r = []
    ·subst hr0; exact absurd hk (h m)
    ·simp [hr0]
theorem iface_cell {W : World} {n : String} {g0 t0 : Nat} {ms : Array (String × TypeId)} {nm : String} {d : DataW Unit} (hg0 : Tryd.prog.globalNamed n = some g0) (ht0 : (Tryd.prog.globals[g0]?).map (·.type) = some t0) (hi : Tryd.prog.underlying t0 = some (.interface ms))
  (h : Lib.VarReads Tryd.prog W n (.iface nm d)) : ∃ u y, W.cell? ⟨g0, 0, none⟩ = some (.iface u y) := by
 obtain ⟨g, t, cs, fuel, p, hg, ht, hv, hd⟩ := h
 obtain rfl : g = g0 := (Option.some.inj (hg0.symm.trans hg)).symm
 obtain rfl : t = t0 := (Option.some.inj (ht0.symm.trans ht)).symm
 obtain ⟨f2, u, v, e, _, _⟩ := iface_of_trod hi hd
 refine ⟨u, v, ?_⟩
 have hc := World.var?_cell hg hv 0
 rw [hc, ← Array.getElem?_toList, e]; rfl
theorem Tryd.etA : Tryd.prog.globalNamed "errors.errorType" = some 6 := by kernel_rfl
theorem Tryd.rtA : (Tryd.prog.cutTypes.find? (·.1 == "internal/reflectlite.rtype")).map (·.2) = some 96 := by kernel_rfl
theorem Tryd.oneRowA : ((List.range 176).filter fun t => Tryd.prog.rowNamed t [101, 114, 114, 111, 114]) = [51] := by kernel_rfl
theorem Tryd.sizeA : Tryd.prog.types.size = 176 := by kernel_rfl
theorem handle_of {W : World} (h : handlesMet Tryd.prog [("errors.errorType", Rows.laid_errors_errorType)] W) : W.cell? ⟨6, 0, none⟩ = some (.iface 96 (.agg #[.pointer (some ⟨10, 51, none⟩)])) := by
 obtain ⟨name, u, ty, e1, e2, e3, e4, e5⟩ := h _ (List.mem_singleton.2 rfl)
 have en : name = [101, 114, 114, 111, 114] := (Option.some.inj e1).symm
 subst en
 obtain rfl := Option.some.inj (Tryd.rtA.symm.trans e2)
 have hm : ty ∈ (List.range 176).filter fun t => Tryd.prog.rowNamed t [101, 114, 114, 111, 114] := List.mem_filter.2 ⟨List.mem_range.2 (by rw [← Tryd.sizeA]; exact e3), e4⟩
 rw [Tryd.oneRowA] at hm
 obtain rfl := List.mem_singleton.1 hm
 have hh : typeHandle Tryd.prog 51 = .pointer (some ⟨10, 51, none⟩) := by kernel_rfl
 rw [hh] at e5
 simpa using World.var?_cell Tryd.etA e5 0
end Go.Proofs.YtamjljhbnhdgdaaDoor

/- ReadNumbers: what the specification answers at every row of bytes. -/
namespace Go.Proofs.YtamjljhbnhdgdaaDoor
open Go.ChangeShapes Go.WideShapes Go.ChangeAt Go.RowKit
theorem Tryd.infQ3 : (Tryd.prog.info? 3).map (fun i => (i.zero, i.size, i.bytes)) = some (some (.int .i64 0), 1, 8) := by kernel_rfl
theorem sub_list (s : ByteArray) (i j : Nat) : (s.extract i j).data.toList = (s.data.toList.drop i).take (j - i) := by
 simp
theorem sub_size (s : ByteArray) (i j : Nat) (h : j ≤ s.size) : (s.extract i j).size = j - i := by
 rw [ByteArray.size_extract]; omega
set_option maxHeartbeats 400000 in
set_option maxRecDepth 100000 in
theorem sreadnums30 (s : ByteArray) (n : Nat) (hn : s.size = 3 * n) (hn4 : n ≤ 21845) (w : World) :
  Calls Tryd.prog 44 #[.string s] w fun e w' => ∃ v', e = .returned (.tuple #[v', .bool true]) ∧ w'.ownsRow w.heap.size 3 1 v' (numsR s.data.toList n).length (cI (numsR s.data.toList n)) ∧ Below w.heap.size w w' := by
 obtain ⟨i0, hi, hz0, hz1, hz2⟩ := info_parts Tryd.infQ3
 obtain ⟨l, hl⟩ : ∃ l, l = s.data.toList := ⟨_, rfl⟩
 rw [← hl]
 have HL := hide hl
 have HN := hide hn
 have t1 : ((s.size : Int) % 3 != 0) = false := by rw [bne_eq_false_iff_eq]; omega
 have t2 : ((s.size : Int).tmod 3 != 0) = false := by rw [Int.tmod_eq_emod_of_nonneg (by omega), bne_eq_false_iff_eq]; omega
 have hs : s.size ≤ 65535 := by omega
 clear hl hn
 go_enter Tryd.func44, Tryd.ntmps44
 go_wp2_with fail
 go_loopw [4, 5] (fun v i wr => ∃ (k j : Nat) (m : List Int), k ≤ n ∧ Hid (j = 3 * k) ∧ i = .int .i64 j ∧ Hid (m = numsR l k) ∧ m.length ≤ 21845 ∧ Hid (wr.ownsRow w.heap.size 3 1 v m.length (cI m)) ∧ Hid (Below w.heap.size w wr)) (fun _ i _ => s.size - (intOf i).toNat)
 case atStart => exact ⟨0, 0, [], by omega, rfl, rfl, rfl, by simp, lit_emptyI _ _ _ (Nat.le_refl _), (Below.refl _ _).alloc (Nat.le_refl _) _⟩
 case round =>
  obtain ⟨k, j, m, hk, HJ, rfl, HM, hm, HO, HB⟩ := hrel
  have ej := unhide HJ
  have en := unhide HN
  by_cases hlt : k < n
  ·have hj1 : (j : Int) < (s.size : Int) := by omega
   obtain ⟨b_, hbb⟩ : ∃ b_, b_ = j + 3 := ⟨_, rfl⟩
   have a4 : (j : Int) + 3 = (b_ : Int) := by omega
   have a5 : (0 : Int) ≤ (b_ : Int) := by omega
   have a6 : (b_ : Int) ≤ (s.size : Int) := by omega
   have a7 : j ≤ b_ := by omega
   have a8 : b_ - j = 3 := by omega
   have a9 : (j : Int) ≤ 1048576 := by omega
   have hm' : m.length ≤ k := by rw [unhide HM, numsR_len]; omega
   have HBB : Hid (b_ = 3 * (k + 1)) := by show _ = _; omega
   have HP : Hid ((s.extract j b_).data.toList = chunk l k) := by show _ = _; rw [sub_list, ← unhide HL, a8, ej]; rfl
   have HPS : Hid ((s.extract j b_).size = 3) := by show _ = _; rw [sub_size _ _ _ (by omega), a8]
   obtain ⟨y, hy⟩ : ∃ y : Nat, y = ofBE (s.extract j b_).data.toList := ⟨_, rfl⟩
   have hy2 : y < 16777216 := by have := ofBE_lt (s.extract j b_).data.toList 3; rw [List.take_of_length_le (by rw [Array.length_toList]; exact Nat.le_of_eq (unhide HPS)), ← hy] at this; exact this
   have HS : Hid (numsR l (k + 1) = m ++ [(y : Int) - 1]) := by show _ = _; rw [numsR_snoc, unhide HM, hy, unhide HP]
   have hy3 : (y : Int) ≤ 16777216 := by omega
   have HY := hide hy
   have hown := unhide HO
   have hz := (unhide HB).size
   clear ej en hbb HO hy hy2
   go_wp2_with (first | (go_at_call 54; have h3 := snumberOf (s.extract j b_) (by rw [unhide HPS]; decide) wr; rw [← unhide HY] at h3; refine h3.mono ?_; clear h3; rintro e w2 ⟨rfl, hw⟩; subst w2) | (at_builtin; refine wpList_append_lies _ rfl (.tmp 18) (.tmp 26) 72 rfl w.heap.size 3 i0 (.int .i64 0) 1 8 Tryd.underlying72 hi hz0 hz1 hz2 rfl (by decide) _ _ _ rfl (hown.alloc _) ⟨wr.heap.size, 0, none⟩ 1 1 (cI [(y : Int) - 1]) rfl rfl (by exact news_new wr (cI [(y : Int) - 1]) 3) (cI_one _) (by decide) (by unfold maxLen; omega) (by omega) (by simp; omega) _ rfl ?_; intro g2 c2 w2 hown2 hgrow2 hat2 hlt2; have HB2 := hide (below_app (unhide HB) (by omega) hown (Nat.le_refl _) hgrow2); have HO2 := hide (own_appI (l := m) (m := [(y : Int) - 1]) hown2 rfl); clear hown2 hgrow2 hat2 hlt2 hown HB))
   go_roundw
   case rel => exact ⟨k + 1, b_, m ++ [(y : Int) - 1], by omega, unhide HBB, by go_num, (unhide HS).symm, by rw [List.length_append]; simp; omega, HO2, HB2⟩
   case measure => simp [intOf]; omega
  ·have ek : k = n := by omega
   have hj1 : ¬ (j : Int) < (s.size : Int) := by omega
   rw [ek] at HM
   clear ej en
   go_wp2_with fail
   go_ret2
   rw [← unhide HM]
   exact ⟨_, rfl, unhide HO, unhide HB⟩
theorem sreadform30 (s : ByteArray) (hn : ¬ s.size % 3 = 0) (hs : s.size ≤ 65536) (w : World) :
  Calls Tryd.prog 44 #[.string s] w fun e w' => ∃ v', e = .returned (.tuple #[v', .bool false]) ∧ Below w.heap.size w w' := by
 have t1 : ((s.size : Int) % 3 != 0) = true := by rw [bne_iff_ne]; omega
 have t2 : ((s.size : Int).tmod 3 != 0) = true := by rw [Int.tmod_eq_emod_of_nonneg (by omega), bne_iff_ne]; omega
 clear hn
 go_enter Tryd.func44, Tryd.ntmps44
 go_wp2_with fail
 go_ret2
 exact ⟨_, rfl, (Below.refl _ _).alloc (Nat.le_refl _) _⟩
end Go.Proofs.YtamjljhbnhdgdaaDoor

/- spec.l07Apply of a text that is no record: what the specification answers. -/
namespace Go.Proofs.YtamjljhbnhdgdaaDoor
open Go.ChangeShapes Go.WideShapes Go.ChangeAt Go.RowKit
set_option linter.unusedVariables false
theorem rf_lenA {l : List UInt8} {m : List ByteArray} (h : rfOf l = some m) : m.length ≤ 60 := by
 unfold rfOf at h
 split at h
 ·cases h
 ·split at h
  ·cases h
  ·cases hf : fldN (l.drop 1) (ofBE (l.take 1)) with
   | none => rw [hf] at h; cases h
   | some p =>
    rw [hf] at h
    simp only [Option.bind_some] at h
    split at h
    ·injection h with h
     rw [← h, (fldN_len _ _ p.1 p.2 hf).1]
     omega
    ·cases h
set_option maxHeartbeats 4000000 in
set_option maxRecDepth 100000 in
theorem sap_few (tm vt : Int) (a : Option Addr) (cap n : Nat) (t : ByteArray) (ht : t.size ≤ 65536) (H : Hid (∀ m, rfOf t.data.toList = some m → m.length < 2)) (w : World) :
  Calls Tryd.prog 27 #[.agg #[.int .i64 tm, .int .i64 vt, .slice a n cap], .string t] w fun e w' => e = .returned (.tuple #[.agg #[.int .i64 tm, .int .i64 vt, .slice a n cap], .bool false]) ∧ Below w.heap.size w w' := by
 have B0 := hide (Go.Joins.below_alloc2 w (.cells #[.int .i64 tm, .int .i64 vt, .slice a n cap] 25) (.cells #[.int .i64 0, .int .i64 0, .slice none 0 0] 25))
 have A0 := hide ((BF.new w #[.int .i64 tm, .int .i64 vt, .slice a n cap] 25).alloc (.cells #[.int .i64 0, .int .i64 0, .slice none 0 0] 25))
 have Z0 := hide (BF.new (w.alloc (.cells #[.int .i64 tm, .int .i64 vt, .slice a n cap] 25)) #[.int .i64 0, .int .i64 0, .slice none 0 0] 25)
 simp only [World.size_alloc] at Z0
 go_enter Tryd.func27, Tryd.ntmps27
 go_wp2_with fail
 refine (sread t ht _).mono ?_
 rintro e w1 ⟨⟨m, v, c, rfl, ho, hm⟩, hb1⟩
 have B1 := hide ((unhide B0).trans (hb1.mono (unhide B0).size))
 have A1 := hide ((unhide A0).below hb1)
 have Z1 := hide ((unhide Z0).below hb1)
 obtain ⟨am, cm, rfl, -⟩ := own_rowV ho
 have ka := (unhide A1).S
 have kz := (unhide Z1).S
 have kzf := (unhide Z1).F
 have hlen : c = true → m.length < 2 := by
  intro hc
  rcases hm with ⟨_, h⟩ | ⟨h, _⟩
  ·exact unhide H m h
  ·rw [hc] at h; cases h
 obtain ⟨k, hk⟩ : ∃ k, k = m.length := ⟨_, rfl⟩
 rw [← hk] at hlen ⊢
 clear hb1 B0 A0 Z0 ho hm hk
 cases c with
 | false =>
  go_wp2_with fail
  refine bodyPost_ret (v := .tuple #[.agg #[.int .i64 tm, .int .i64 vt, .slice a n cap], .bool false]) (by simp [results, Tryd.results27, go_sem, kz]) rfl ⟨rfl, ?_⟩
  iterate 3 refine Below.setCell ?_ (by exact Nat.le_succ _) _
  exact unhide B1
 | true =>
  have hl2 : (k : Int) < 2 := by have := hlen rfl; omega
  clear hlen
  go_wp2_with fail
  refine bodyPost_ret (v := .tuple #[.agg #[.int .i64 tm, .int .i64 vt, .slice a n cap], .bool false]) (by simp [results, Tryd.results27, go_sem, kz]) rfl ⟨rfl, ?_⟩
  iterate 3 refine Below.setCell ?_ (by exact Nat.le_succ _) _
  exact unhide B1
set_option maxHeartbeats 4000000 in
set_option maxRecDepth 100000 in
theorem sap_form (tm vt : Int) (a : Option Addr) (cap n : Nat) (t f0 f1 : ByteArray) (r : List ByteArray) (ht : t.size ≤ 65536) (H : Hid (rfOf t.data.toList = some (f0 :: f1 :: r))) (hf1 : ¬ f1.size % 3 = 0) (hf2 : f1.size ≤ 65536) (w : World) :
  Calls Tryd.prog 27 #[.agg #[.int .i64 tm, .int .i64 vt, .slice a n cap], .string t] w fun e w' => e = .returned (.tuple #[.agg #[.int .i64 tm, .int .i64 vt, .slice a n cap], .bool false]) ∧ Below w.heap.size w w' := by
 have B0 := hide (Go.Joins.below_alloc2 w (.cells #[.int .i64 tm, .int .i64 vt, .slice a n cap] 25) (.cells #[.int .i64 0, .int .i64 0, .slice none 0 0] 25))
 have A0 := hide ((BF.new w #[.int .i64 tm, .int .i64 vt, .slice a n cap] 25).alloc (.cells #[.int .i64 0, .int .i64 0, .slice none 0 0] 25))
 have Z0 := hide (BF.new (w.alloc (.cells #[.int .i64 tm, .int .i64 vt, .slice a n cap] 25)) #[.int .i64 0, .int .i64 0, .slice none 0 0] 25)
 simp only [World.size_alloc] at Z0
 have T := sreadform30 f1 hf1 hf2
 have HT := hide T
 clear T
 go_enter Tryd.func27, Tryd.ntmps27
 go_wp2_with fail
 refine (sread t ht _).mono ?_
 rintro e w1 ⟨⟨m, v, c, rfl, ho, hm⟩, hb1⟩
 obtain ⟨rfl, rfl⟩ : c = true ∧ m = f0 :: f1 :: r := by
  rcases hm with ⟨h1, h2⟩ | ⟨_, _, h2⟩
  ·rw [unhide H] at h2; injection h2 with h2; exact ⟨h1, h2.symm⟩
  ·rw [unhide H] at h2; cases h2
 have B1 := hide ((unhide B0).trans (hb1.mono (unhide B0).size))
 have A1 := hide ((unhide A0).below hb1)
 have Z1 := hide ((unhide Z0).below hb1)
 obtain ⟨am, cm, rfl, hrm⟩ := own_rowV ho
 obtain ⟨k, hk⟩ : ∃ k, k = (f0 :: f1 :: r).length := ⟨_, rfl⟩
 have hk2 : 2 ≤ k := by rw [hk]; simp
 have hk6 : k ≤ 60 := by rw [hk]; exact rf_lenA (unhide H)
 rw [← hk]
 obtain ⟨b, off, rfl, hblt, hcel⟩ := hrm.at (by simp [cS])
 have k1 : w1.cell? ⟨b, off + 1, none⟩ = some (.string f1) := hcel 1 _ (by simp [cS])
 have dl : ¬ (k : Int) < 2 := by omega
 have i1 : (1 : Int) < (k : Int) := by omega
 have i1n : 1 < k := by omega
 have ka := (unhide A1).S
 clear hb1 B0 A0 Z0 ho hm hrm hcel hk
 go_wp2_with fail
 refine (unhide HT _).mono ?_
 rintro e w2 ⟨v2, rfl, hb2⟩
 have B2 := hide ((unhide B1).trans (hb2.mono (unhide B1).size))
 have A2 := hide ((unhide A1).below hb2)
 have Z2 := hide ((unhide Z1).below hb2)
 clear hb2 B1 A1 Z1 k1 ka
 have ka := (unhide A2).S
 have kz := (unhide Z2).S
 have kzf := (unhide Z2).F
 go_wp2_with fail
 refine bodyPost_ret (v := .tuple #[.agg #[.int .i64 tm, .int .i64 vt, .slice a n cap], .bool false]) (by simp [results, Tryd.results27, go_sem, kz]) rfl ⟨rfl, ?_⟩
 iterate 3 refine Below.setCell ?_ (by exact Nat.le_succ _) _
 exact unhide B2
end Go.Proofs.YtamjljhbnhdgdaaDoor
