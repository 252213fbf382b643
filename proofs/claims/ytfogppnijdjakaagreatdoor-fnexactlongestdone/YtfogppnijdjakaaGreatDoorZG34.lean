/- Texts put together: StoS OwnS ReadNumS SapS. -/
import Derived.Test.YtfogppnijdjakaaGreatDoorZG17
import Derived.Test.YtfogppnijdjakaaGreatDoorZG31
import Derived.Test.YtfogppnijdjakaaGreatDoorZG2
import Derived.Lib.SmallJoins
import Derived.Test.YtfogppnijdjakaaGreatDoorZAftU
import Derived.Test.YtfogppnijdjakaaGreatDoorZG14
import Derived.Test.YtfogppnijdjakaaGreatDoorZG9
import Derived.Test.YtfogppnijdjakaaGreatDoorZG12
import Derived.Test.YtfogppnijdjakaaGreatDoorZG23
/- Stores: what the specification answers. -/
namespace Go.Proofs.YtfogppnijdjakaaGreatDoor
open Go.ChangeShapes Go.WideShapes Go.ChangeAt Go.RowKit
set_option linter.unusedVariables false
set_option maxHeartbeats 1000000 in
set_option maxRecDepth 100000 in
theorem sstoreok (d : ByteArray) (s : Int) (hd : Hid (d.size ≤ maxLen)) (R : Bool) (HR : Hid (R = stoB d s)) (w : World) : Calls Tryz.prog 37 #[.agg #[.string d, .int .i64 s]] w fun e w' => e = .returned (.bool R) ∧ Below w.heap.size w w' := by
 have HB := hide (Go.Joins.below_alloc1 w (.cells #[.string d, .int .i64 s] 74))
 have h1 := unhide hd
 unfold maxLen at h1
 obtain ⟨a, ha⟩ : ∃ a : Nat, a = d.size := ⟨_, rfl⟩
 have HA := hide ha
 rw [← ha] at h1
 have la : (d.size : Int) = (a : Int) := by rw [ha]
 clear ha
 by_cases c1 : a ≤ 60000
 ·have HS : inB s 0 (a : Int) = R := by
   rw [unhide HR, stoB, ← unhide HA, decide_eq_true c1, Bool.true_and]
  have HS := hide HS
  go_enter Tryz.func37, Tryz.ntmps37
  go_wp2_with fail
  refine (sin s 0 (a : Int) _).mono ?_
  rintro e w1 ⟨rfl, rfl⟩
  rw [unhide HS]
  go_wp2_with fail
  go_ret
  exact ⟨rfl, unhide HB⟩
 ·have HS : R = false := by rw [unhide HR, stoB, ← unhide HA, decide_eq_false c1, Bool.false_and]
  subst HS
  go_enter Tryz.func37, Tryz.ntmps37
  go_wp2_with fail
  go_ret
  exact ⟨rfl, unhide HB⟩
end Go.Proofs.YtfogppnijdjakaaGreatDoor

/- spec.l07Own: a state with a log of its own. -/
namespace Go.Proofs.YtfogppnijdjakaaGreatDoor
open Go.ChangeShapes Go.WideShapes Go.ChangeAt Go.RowKit
set_option linter.unusedVariables false
set_option maxHeartbeats 4000000 in
set_option maxRecDepth 100000 in
theorem sown (tm vt : Int) (a : Option Addr) (cap n : Nat) (l : List (Int × ByteArray)) (HN : Hid (l.length = n)) (hn : n ≤ 1048576) (w : World) (hr : RowV w a (cE l)) :
  Calls Tryz.prog 80 #[.agg #[.int .i64 tm, .int .i64 vt, .slice a n cap]] w fun e w' => ∃ v, e = .returned (.agg #[.int .i64 tm, .int .i64 vt, v]) ∧ w'.ownsRow w.heap.size 103 2 v n (cE l) ∧ Below w.heap.size w w' := by
 obtain ⟨ie, hie, hie0, hie1, hie2⟩ := info_parts Tryz.infE103
 have B0 := hide (Go.Joins.below_alloc3 w (.cells #[.int .i64 tm, .int .i64 vt, .slice a n cap] 76) (.cells #[.int .i64 0, .int .i64 0, .slice none 0 0] 76) (.cells #[] 103))
 have A0 := hide (((BF.new w #[.int .i64 tm, .int .i64 vt, .slice a n cap] 76).alloc (.cells #[.int .i64 0, .int .i64 0, .slice none 0 0] 76)).alloc (.cells #[] 103))
 have Z0 := hide ((BF.new (w.alloc (.cells #[.int .i64 tm, .int .i64 vt, .slice a n cap] 76)) #[.int .i64 0, .int .i64 0, .slice none 0 0] 76).alloc (.cells #[] 103))
 simp only [World.size_alloc] at Z0
 have HW := hide (hr.below (unhide B0))
 have OL := hide (World.ownsRow_lit (e := 103) (base := w.heap.size + 2) (size := 2) ((w.alloc (.cells #[.int .i64 tm, .int .i64 vt, .slice a n cap] 76)).alloc (.cells #[.int .i64 0, .int .i64 0, .slice none 0 0] 76)) #[] 0 (by simp) (by unfold maxLen; omega) rfl)
 simp only [World.size_alloc] at OL
 clear hr
 go_enter Tryz.func80, Tryz.ntmps80
 go_wp2_with (at_builtin; refine append_ents _ rfl (.tmp 3) (.tmp 5) 69 rfl (w.heap.size + 2) 103 ie Tryz.underlying69 hie hie0 hie1 hie2 _ rfl (unhide OL) a cap n l (unhide HN) rfl (unhide HW) hn (by simp) ?_; intro v' w1 ho1 hg1; obtain ⟨a1, c1, rfl, -⟩ := ownZ_rowV ho1; have hk : ∀ j, (Value.slice (some ⟨w.heap.size + 1 + 1, 0, none⟩) 0 0).ownBlock = some j → j = w.heap.size + 1 + 1 := (fun j hj => (Option.some.inj hj).symm); have A1 := hide ((unhide A0).grown hg1 (fun h => by have := hk _ h; omega)); have Z1 := hide ((unhide Z0).grown hg1 (fun h => by have := hk _ h; omega)); have B1 := hide ((unhide B0).grown hg1 (unhide B0).size (fun j hj => by have := hk j hj; omega)); have O1 := hide ho1; have ka := (unhide A1).S; have kaf := (unhide A1).F; have kz := (unhide Z1).S; have kzf := (unhide Z1).F; clear ho1 hg1 hk)
 refine bodyPost_ret (v := .agg #[.int .i64 tm, .int .i64 vt, .slice a1 n c1]) (by simp [results, Tryz.results80, go_sem, kz]) rfl ⟨_, rfl, ?_, ?_⟩
 ·refine own_low ?_ (Nat.le_add_right _ 2)
  iterate 3 refine ownsRow_setCell_below ?_ (by show w.heap.size + 1 < w.heap.size + 2; omega) _
  refine ownsRow_setCell_below ?_ (by show w.heap.size < w.heap.size + 2; omega) _
  exact unhide O1
 ·iterate 3 refine Below.setCell ?_ (by exact Nat.le_succ _) _
  refine Below.setCell ?_ (by exact Nat.le_refl _) _
  exact unhide B1
end Go.Proofs.YtfogppnijdjakaaGreatDoor

/- ReadNumbers: what the specification answers at every row of bytes. -/
namespace Go.Proofs.YtfogppnijdjakaaGreatDoor
open Go.ChangeShapes Go.WideShapes Go.ChangeAt Go.RowKit
theorem Tryz.infQ3 : (Tryz.prog.info? 3).map (fun i => (i.zero, i.size, i.bytes)) = some (some (.int .i64 0), 1, 8) := by kernel_rfl
theorem sub_list (s : ByteArray) (i j : Nat) : (s.extract i j).data.toList = (s.data.toList.drop i).take (j - i) := by
 simp
theorem sub_size (s : ByteArray) (i j : Nat) (h : j ≤ s.size) : (s.extract i j).size = j - i := by
 rw [ByteArray.size_extract]; omega
set_option maxHeartbeats 400000 in
set_option maxRecDepth 100000 in
theorem sreadnums30 (s : ByteArray) (n : Nat) (hn : s.size = 3 * n) (hn4 : n ≤ 21845) (w : World) :
  Calls Tryz.prog 79 #[.string s] w fun e w' => ∃ v', e = .returned (.tuple #[v', .bool true]) ∧ w'.ownsRow w.heap.size 3 1 v' (numsR s.data.toList n).length (cI (numsR s.data.toList n)) ∧ Below w.heap.size w w' := by
 obtain ⟨i0, hi, hz0, hz1, hz2⟩ := info_parts Tryz.infQ3
 obtain ⟨l, hl⟩ : ∃ l, l = s.data.toList := ⟨_, rfl⟩
 rw [← hl]
 have HL := hide hl
 have HN := hide hn
 have t1 : ((s.size : Int) % 3 != 0) = false := by rw [bne_eq_false_iff_eq]; omega
 have t2 : ((s.size : Int).tmod 3 != 0) = false := by rw [Int.tmod_eq_emod_of_nonneg (by omega), bne_eq_false_iff_eq]; omega
 have hs : s.size ≤ 65535 := by omega
 clear hl hn
 go_enter Tryz.func79, Tryz.ntmps79
 go_wp2_with fail
 go_loopw [4, 5] (fun v i wr => ∃ (k j : Nat) (m : List Int), k ≤ n ∧ Hid (j = 3 * k) ∧ i = .int .i64 j ∧ Hid (m = numsR l k) ∧ m.length ≤ 21845 ∧ Hid (wr.ownsRow w.heap.size 3 1 v m.length (cI m)) ∧ Hid (Below w.heap.size w wr)) (fun _ i _ => s.size - (intOf i).toNat)
 case atStart => exact ⟨0, 0, [], by omega, rfl, rfl, rfl, by simp, lit_emptyI _ _ _ (Nat.le_refl _), (Below.refl _ _).alloc (Nat.le_refl _) _⟩
 case round =>
  obtain ⟨k, j, m, hk, HJ, rfl, HM, hm, HO, HB⟩ := hrel
  have ej := unhide HJ
  have en := unhide HN
  by_cases hlt : k < n
  ·have hj1 : (j : Int) < (s.size : Int) := by omega
   obtain ⟨b_, hbb⟩ : ∃ b_, b_ = j + 3 := ⟨_, rfl⟩
   have a4 : (j : Int) + 3 = (b_ : Int) := by omega
   have a5 : (0 : Int) ≤ (b_ : Int) := by omega
   have a6 : (b_ : Int) ≤ (s.size : Int) := by omega
   have a7 : j ≤ b_ := by omega
   have a8 : b_ - j = 3 := by omega
   have a9 : (j : Int) ≤ 1048576 := by omega
   have hm' : m.length ≤ k := by rw [unhide HM, numsR_len]; omega
   have HBB : Hid (b_ = 3 * (k + 1)) := by show _ = _; omega
   have HP : Hid ((s.extract j b_).data.toList = chunk l k) := by show _ = _; rw [sub_list, ← unhide HL, a8, ej]; rfl
   have HPS : Hid ((s.extract j b_).size = 3) := by show _ = _; rw [sub_size _ _ _ (by omega), a8]
   obtain ⟨y, hy⟩ : ∃ y : Nat, y = ofBE (s.extract j b_).data.toList := ⟨_, rfl⟩
   have hy2 : y < 16777216 := by have := ofBE_lt (s.extract j b_).data.toList 3; rw [List.take_of_length_le (by rw [Array.length_toList]; exact Nat.le_of_eq (unhide HPS)), ← hy] at this; exact this
   have HS : Hid (numsR l (k + 1) = m ++ [(y : Int) - 1]) := by show _ = _; rw [numsR_snoc, unhide HM, hy, unhide HP]
   have hy3 : (y : Int) ≤ 16777216 := by omega
   have HY := hide hy
   have hown := unhide HO
   have hz := (unhide HB).size
   clear ej en hbb HO hy hy2
   go_wp2_with (first | (go_at_call 76; have h3 := snumberOf (s.extract j b_) (by rw [unhide HPS]; decide) wr; rw [← unhide HY] at h3; refine h3.mono ?_; clear h3; rintro e w2 ⟨rfl, hw⟩; subst w2) | (at_builtin; refine wpList_append_lies _ rfl (.tmp 18) (.tmp 26) 59 rfl w.heap.size 3 i0 (.int .i64 0) 1 8 Tryz.underlying59 hi hz0 hz1 hz2 rfl (by decide) _ _ _ rfl (hown.alloc _) ⟨wr.heap.size, 0, none⟩ 1 1 (cI [(y : Int) - 1]) rfl rfl (by exact news_new wr (cI [(y : Int) - 1]) 3) (cI_one _) (by decide) (by unfold maxLen; omega) (by omega) (by simp; omega) _ rfl ?_; intro g2 c2 w2 hown2 hgrow2 hat2 hlt2; have HB2 := hide (below_app (unhide HB) (by omega) hown (Nat.le_refl _) hgrow2); have HO2 := hide (own_appI (l := m) (m := [(y : Int) - 1]) hown2 rfl); clear hown2 hgrow2 hat2 hlt2 hown HB))
   go_roundw
   case rel => exact ⟨k + 1, b_, m ++ [(y : Int) - 1], by omega, unhide HBB, by go_num, (unhide HS).symm, by rw [List.length_append]; simp; omega, HO2, HB2⟩
   case measure => simp [intOf]; omega
  ·have ek : k = n := by omega
   have hj1 : ¬ (j : Int) < (s.size : Int) := by omega
   rw [ek] at HM
   clear ej en
   go_wp2_with fail
   go_ret2
   rw [← unhide HM]
   exact ⟨_, rfl, unhide HO, unhide HB⟩
theorem sreadform30 (s : ByteArray) (hn : ¬ s.size % 3 = 0) (hs : s.size ≤ 65536) (w : World) :
  Calls Tryz.prog 79 #[.string s] w fun e w' => ∃ v', e = .returned (.tuple #[v', .bool false]) ∧ Below w.heap.size w w' := by
 have t1 : ((s.size : Int) % 3 != 0) = true := by rw [bne_iff_ne]; omega
 have t2 : ((s.size : Int).tmod 3 != 0) = true := by rw [Int.tmod_eq_emod_of_nonneg (by omega), bne_iff_ne]; omega
 clear hn
 go_enter Tryz.func79, Tryz.ntmps79
 go_wp2_with fail
 go_ret2
 exact ⟨_, rfl, (Below.refl _ _).alloc (Nat.le_refl _) _⟩
end Go.Proofs.YtfogppnijdjakaaGreatDoor

/- spec.l07Apply of a text that is no record: what the specification answers. -/
namespace Go.Proofs.YtfogppnijdjakaaGreatDoor
open Go.ChangeShapes Go.WideShapes Go.ChangeAt Go.RowKit
set_option linter.unusedVariables false
theorem rf_lenA {l : List UInt8} {m : List ByteArray} (h : rfOf l = some m) : m.length ≤ 60 := by
 unfold rfOf at h
 split at h
 ·cases h
 ·split at h
  ·cases h
  ·cases hf : fldN (l.drop 1) (ofBE (l.take 1)) with
   | none => rw [hf] at h; cases h
   | some p =>
    rw [hf] at h
    simp only [Option.bind_some] at h
    split at h
    ·injection h with h
     rw [← h, (fldN_len _ _ p.1 p.2 hf).1]
     omega
    ·cases h
set_option maxHeartbeats 4000000 in
set_option maxRecDepth 100000 in
theorem sap_few (tm vt : Int) (a : Option Addr) (cap n : Nat) (t : ByteArray) (ht : t.size ≤ 65536) (H : Hid (∀ m, rfOf t.data.toList = some m → m.length < 2)) (w : World) :
  Calls Tryz.prog 59 #[.agg #[.int .i64 tm, .int .i64 vt, .slice a n cap], .string t] w fun e w' => e = .returned (.tuple #[.agg #[.int .i64 tm, .int .i64 vt, .slice a n cap], .bool false]) ∧ Below w.heap.size w w' := by
 have B0 := hide (Go.Joins.below_alloc2 w (.cells #[.int .i64 tm, .int .i64 vt, .slice a n cap] 76) (.cells #[.int .i64 0, .int .i64 0, .slice none 0 0] 76))
 have A0 := hide ((BF.new w #[.int .i64 tm, .int .i64 vt, .slice a n cap] 76).alloc (.cells #[.int .i64 0, .int .i64 0, .slice none 0 0] 76))
 have Z0 := hide (BF.new (w.alloc (.cells #[.int .i64 tm, .int .i64 vt, .slice a n cap] 76)) #[.int .i64 0, .int .i64 0, .slice none 0 0] 76)
 simp only [World.size_alloc] at Z0
 go_enter Tryz.func59, Tryz.ntmps59
 go_wp2_with fail
 refine (sread t ht _).mono ?_
 rintro e w1 ⟨⟨m, v, c, rfl, ho, hm⟩, hb1⟩
 have B1 := hide ((unhide B0).trans (hb1.mono (unhide B0).size))
 have A1 := hide ((unhide A0).below hb1)
 have Z1 := hide ((unhide Z0).below hb1)
 obtain ⟨am, cm, rfl, -⟩ := own_rowV ho
 have ka := (unhide A1).S
 have kz := (unhide Z1).S
 have kzf := (unhide Z1).F
 have hlen : c = true → m.length < 2 := by
  intro hc
  rcases hm with ⟨_, h⟩ | ⟨h, _⟩
  ·exact unhide H m h
  ·rw [hc] at h; cases h
 obtain ⟨k, hk⟩ : ∃ k, k = m.length := ⟨_, rfl⟩
 rw [← hk] at hlen ⊢
 clear hb1 B0 A0 Z0 ho hm hk
 cases c with
 | false =>
  go_wp2_with fail
  refine bodyPost_ret (v := .tuple #[.agg #[.int .i64 tm, .int .i64 vt, .slice a n cap], .bool false]) (by simp [results, Tryz.results59, go_sem, kz]) rfl ⟨rfl, ?_⟩
  iterate 3 refine Below.setCell ?_ (by exact Nat.le_succ _) _
  exact unhide B1
 | true =>
  have hl2 : (k : Int) < 2 := by have := hlen rfl; omega
  clear hlen
  go_wp2_with fail
  refine bodyPost_ret (v := .tuple #[.agg #[.int .i64 tm, .int .i64 vt, .slice a n cap], .bool false]) (by simp [results, Tryz.results59, go_sem, kz]) rfl ⟨rfl, ?_⟩
  iterate 3 refine Below.setCell ?_ (by exact Nat.le_succ _) _
  exact unhide B1
set_option maxHeartbeats 4000000 in
set_option maxRecDepth 100000 in
theorem sap_form (tm vt : Int) (a : Option Addr) (cap n : Nat) (t f0 f1 : ByteArray) (r : List ByteArray) (ht : t.size ≤ 65536) (H : Hid (rfOf t.data.toList = some (f0 :: f1 :: r))) (hf1 : ¬ f1.size % 3 = 0) (hf2 : f1.size ≤ 65536) (w : World) :
  Calls Tryz.prog 59 #[.agg #[.int .i64 tm, .int .i64 vt, .slice a n cap], .string t] w fun e w' => e = .returned (.tuple #[.agg #[.int .i64 tm, .int .i64 vt, .slice a n cap], .bool false]) ∧ Below w.heap.size w w' := by
 have B0 := hide (Go.Joins.below_alloc2 w (.cells #[.int .i64 tm, .int .i64 vt, .slice a n cap] 76) (.cells #[.int .i64 0, .int .i64 0, .slice none 0 0] 76))
 have A0 := hide ((BF.new w #[.int .i64 tm, .int .i64 vt, .slice a n cap] 76).alloc (.cells #[.int .i64 0, .int .i64 0, .slice none 0 0] 76))
 have Z0 := hide (BF.new (w.alloc (.cells #[.int .i64 tm, .int .i64 vt, .slice a n cap] 76)) #[.int .i64 0, .int .i64 0, .slice none 0 0] 76)
 simp only [World.size_alloc] at Z0
 have T := sreadform30 f1 hf1 hf2
 have HT := hide T
 clear T
 go_enter Tryz.func59, Tryz.ntmps59
 go_wp2_with fail
 refine (sread t ht _).mono ?_
 rintro e w1 ⟨⟨m, v, c, rfl, ho, hm⟩, hb1⟩
 obtain ⟨rfl, rfl⟩ : c = true ∧ m = f0 :: f1 :: r := by
  rcases hm with ⟨h1, h2⟩ | ⟨_, _, h2⟩
  ·rw [unhide H] at h2; injection h2 with h2; exact ⟨h1, h2.symm⟩
  ·rw [unhide H] at h2; cases h2
 have B1 := hide ((unhide B0).trans (hb1.mono (unhide B0).size))
 have A1 := hide ((unhide A0).below hb1)
 have Z1 := hide ((unhide Z0).below hb1)
 obtain ⟨am, cm, rfl, hrm⟩ := own_rowV ho
 obtain ⟨k, hk⟩ : ∃ k, k = (f0 :: f1 :: r).length := ⟨_, rfl⟩
 have hk2 : 2 ≤ k := by rw [hk]; simp
 have hk6 : k ≤ 60 := by rw [hk]; exact rf_lenA (unhide H)
 rw [← hk]
 obtain ⟨b, off, rfl, hblt, hcel⟩ := hrm.at (by simp [cS])
 have k1 : w1.cell? ⟨b, off + 1, none⟩ = some (.string f1) := hcel 1 _ (by simp [cS])
 have dl : ¬ (k : Int) < 2 := by omega
 have i1 : (1 : Int) < (k : Int) := by omega
 have i1n : 1 < k := by omega
 have ka := (unhide A1).S
 clear hb1 B0 A0 Z0 ho hm hrm hcel hk
 go_wp2_with fail
 refine (unhide HT _).mono ?_
 rintro e w2 ⟨v2, rfl, hb2⟩
 have B2 := hide ((unhide B1).trans (hb2.mono (unhide B1).size))
 have A2 := hide ((unhide A1).below hb2)
 have Z2 := hide ((unhide Z1).below hb2)
 clear hb2 B1 A1 Z1 k1 ka
 have ka := (unhide A2).S
 have kz := (unhide Z2).S
 have kzf := (unhide Z2).F
 go_wp2_with fail
 refine bodyPost_ret (v := .tuple #[.agg #[.int .i64 tm, .int .i64 vt, .slice a n cap], .bool false]) (by simp [results, Tryz.results59, go_sem, kz]) rfl ⟨rfl, ?_⟩
 iterate 3 refine Below.setCell ?_ (by exact Nat.le_succ _) _
 exact unhide B2
end Go.Proofs.YtfogppnijdjakaaGreatDoor
