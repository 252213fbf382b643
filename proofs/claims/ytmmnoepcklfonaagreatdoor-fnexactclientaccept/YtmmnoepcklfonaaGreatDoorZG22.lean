/- Texts put together: CaC BldI WnI. -/
import Derived.Test.YtmmnoepcklfonaaGreatDoorZG21
import Derived.Test.YtmmnoepcklfonaaGreatDoorZG13
import Derived.Test.YtmmnoepcklfonaaGreatDoorZStrS
import Derived.Lib.UnsafeStr
import Derived.Test.YtmmnoepcklfonaaGreatDoorZG1
import Derived.Test.YtmmnoepcklfonaaGreatDoorZG17
/- Copies of clients. -/
namespace Go.Proofs.YtmmnoepcklfonaaGreatDoor
open Go.ChangeShapes Go.WideShapes Go.ChangeAt Go.RowKit
set_option linter.unusedVariables false
set_option maxHeartbeats 4000000 in
set_option maxRecDepth 100000 in
theorem icopC (id : Int) (win tok : ByteArray) (nb vw vh : Int) (a : Option Addr) (cap n : Nat) (R : List ByteArray) (HN : Hid (R.length = n)) (hn : n ≤ 1048576) (w : World) (hr : RowV w a (cS R)) :
    Calls Tryz.prog 26 #[.agg #[.int .i64 id, .string win, .string tok, .int .i64 nb, .int .i64 vw, .int .i64 vh, .slice a n cap]] w fun e w' => ∃ v, e = .returned (.agg #[.int .i64 id, .string win, .string tok, .int .i64 nb, .int .i64 vw, .int .i64 vh, v]) ∧ w'.ownsRow w.heap.size 9 1 v n (cS R) ∧ Below w.heap.size w w' := by
  have B0 := hide (Go.Joins.below_alloc2 w (.cells #[.int .i64 id, .string win, .string tok, .int .i64 nb, .int .i64 vw, .int .i64 vh, .slice a n cap] 34) (.cells #[.int .i64 0, .string ⟨#[]⟩, .string ⟨#[]⟩, .int .i64 0, .int .i64 0, .int .i64 0, .slice none 0 0] 34))
  have A0 := hide ((BF.new w #[.int .i64 id, .string win, .string tok, .int .i64 nb, .int .i64 vw, .int .i64 vh, .slice a n cap] 34).alloc (.cells #[.int .i64 0, .string ⟨#[]⟩, .string ⟨#[]⟩, .int .i64 0, .int .i64 0, .int .i64 0, .slice none 0 0] 34))
  have Z0 := hide (BF.new (w.alloc (.cells #[.int .i64 id, .string win, .string tok, .int .i64 nb, .int .i64 vw, .int .i64 vh, .slice a n cap] 34)) #[.int .i64 0, .string ⟨#[]⟩, .string ⟨#[]⟩, .int .i64 0, .int .i64 0, .int .i64 0, .slice none 0 0] 34)
  rw [show (w.alloc (.cells #[.int .i64 id, .string win, .string tok, .int .i64 nb, .int .i64 vw, .int .i64 vh, .slice a n cap] 34)).heap.size = w.heap.size + 1 from by simp] at Z0
  have T := imcopied nb vw vh a cap n R HN hn _ (hr.below (unhide B0))
  clear hr
  go_enter Tryz.func26, Tryz.ntmps26
  go_wp2_with fail
  refine T.mono ?_
  clear T
  rintro e w1 ⟨v, rfl, ho, hb1⟩
  have B1 := hide ((unhide B0).trans (hb1.mono (unhide B0).size))
  have A1 := hide ((unhide A0).below hb1)
  have Z1 := hide ((unhide Z0).below hb1)
  obtain ⟨a2, cap2, rfl, hr2⟩ := own_rowV ho
  have ka := (unhide A1).S
  have kaf := (unhide A1).F
  have kz := (unhide Z1).S
  have kf := (unhide Z1).F
  have h9 := ho
  rw [show ((w.alloc (.cells #[.int .i64 id, .string win, .string tok, .int .i64 nb, .int .i64 vw, .int .i64 vh, .slice a n cap] 34)).alloc (.cells #[.int .i64 0, .string ⟨#[]⟩, .string ⟨#[]⟩, .int .i64 0, .int .i64 0, .int .i64 0, .slice none 0 0] 34)).heap.size = w.heap.size + 2 from by simp] at h9
  have HO := hide h9
  clear B0 A0 Z0 hb1 ho hr2 h9
  go_wp2_with fail
  refine bodyPost_ret (v := .agg #[.int .i64 id, .string win, .string tok, .int .i64 nb, .int .i64 vw, .int .i64 vh, .slice a2 n cap2]) (by simp [results, Tryz.results26, go_sem, kz]) rfl ⟨_, rfl, ?_, ?_⟩
  · refine Go.Joins.ownsRow_le (base := w.heap.size + 2) ?_ (by omega)
    have hl1 : w.heap.size + 1 < w.heap.size + 2 := by omega
    have hl2 : w.heap.size < w.heap.size + 2 := by omega
    iterate 11 refine ownsRow_setCell_below ?_ (by first | exact hl1 | exact hl2) _
    exact unhide HO
  · iterate 11 refine Below.setCell ?_ (by first | exact Nat.le_succ _ | exact Nat.le_refl _) _
    exact unhide B1
set_option maxHeartbeats 4000000 in
set_option maxRecDepth 100000 in
theorem s13own (id : Int) (win tok : ByteArray) (nb vw vh : Int) (a : Option Addr) (cap n : Nat) (R : List ByteArray) (HN : Hid (R.length = n)) (hn : n ≤ 1048576) (w : World) (hr : RowV w a (cS R)) :
    Calls Tryz.prog 20 #[.agg #[.int .i64 id, .string win, .string tok, .int .i64 nb, .int .i64 vw, .int .i64 vh, .slice a n cap]] w fun e w' => ∃ v, e = .returned (.agg #[.int .i64 id, .string win, .string tok, .int .i64 nb, .int .i64 vw, .int .i64 vh, v]) ∧ w'.ownsRow w.heap.size 9 1 v n (cS R) ∧ Below w.heap.size w w' := by
  have B0 := hide (Go.Joins.below_alloc2 w (.cells #[.int .i64 id, .string win, .string tok, .int .i64 nb, .int .i64 vw, .int .i64 vh, .slice a n cap] 34) (.cells #[.int .i64 0, .string ⟨#[]⟩, .string ⟨#[]⟩, .int .i64 0, .int .i64 0, .int .i64 0, .slice none 0 0] 34))
  have A0 := hide ((BF.new w #[.int .i64 id, .string win, .string tok, .int .i64 nb, .int .i64 vw, .int .i64 vh, .slice a n cap] 34).alloc (.cells #[.int .i64 0, .string ⟨#[]⟩, .string ⟨#[]⟩, .int .i64 0, .int .i64 0, .int .i64 0, .slice none 0 0] 34))
  have Z0 := hide (BF.new (w.alloc (.cells #[.int .i64 id, .string win, .string tok, .int .i64 nb, .int .i64 vw, .int .i64 vh, .slice a n cap] 34)) #[.int .i64 0, .string ⟨#[]⟩, .string ⟨#[]⟩, .int .i64 0, .int .i64 0, .int .i64 0, .slice none 0 0] 34)
  rw [show (w.alloc (.cells #[.int .i64 id, .string win, .string tok, .int .i64 nb, .int .i64 vw, .int .i64 vh, .slice a n cap] 34)).heap.size = w.heap.size + 1 from by simp] at Z0
  have T := smown nb vw vh a cap n R HN hn _ (hr.below (unhide B0))
  clear hr
  go_enter Tryz.func20, Tryz.ntmps20
  go_wp2_with fail
  refine T.mono ?_
  clear T
  rintro e w1 ⟨v, rfl, ho, hb1⟩
  have B1 := hide ((unhide B0).trans (hb1.mono (unhide B0).size))
  have A1 := hide ((unhide A0).below hb1)
  have Z1 := hide ((unhide Z0).below hb1)
  obtain ⟨a2, cap2, rfl, hr2⟩ := own_rowV ho
  have ka := (unhide A1).S
  have kaf := (unhide A1).F
  have kz := (unhide Z1).S
  have kf := (unhide Z1).F
  have h9 := ho
  rw [show ((w.alloc (.cells #[.int .i64 id, .string win, .string tok, .int .i64 nb, .int .i64 vw, .int .i64 vh, .slice a n cap] 34)).alloc (.cells #[.int .i64 0, .string ⟨#[]⟩, .string ⟨#[]⟩, .int .i64 0, .int .i64 0, .int .i64 0, .slice none 0 0] 34)).heap.size = w.heap.size + 2 from by simp] at h9
  have HO := hide h9
  clear B0 A0 Z0 hb1 ho hr2 h9
  go_wp2_with fail
  refine bodyPost_ret (v := .agg #[.int .i64 id, .string win, .string tok, .int .i64 nb, .int .i64 vw, .int .i64 vh, .slice a2 n cap2]) (by simp [results, Tryz.results20, go_sem, kz]) rfl ⟨_, rfl, ?_, ?_⟩
  · refine Go.Joins.ownsRow_le (base := w.heap.size + 2) ?_ (by omega)
    have hl1 : w.heap.size + 1 < w.heap.size + 2 := by omega
    have hl2 : w.heap.size < w.heap.size + 2 := by omega
    iterate 11 refine ownsRow_setCell_below ?_ (by first | exact hl1 | exact hl2) _
    exact unhide HO
  · iterate 11 refine Below.setCell ?_ (by first | exact Nat.le_succ _ | exact Nat.le_refl _) _
    exact unhide B1
end Go.Proofs.YtmmnoepcklfonaaGreatDoor

/- blankJoined: texts put together by a strings.Builder. -/
namespace Go.Proofs.YtmmnoepcklfonaaGreatDoor
open Go.ChangeShapes Go.WideShapes Go.ChangeAt Go.RowKit
set_option linter.unusedVariables false
set_option maxHeartbeats 4000000 in
set_option maxRecDepth 1000000 in
theorem ibj (x : ByteArray) (a : Option Addr) (cap n : Nat) (m : List ByteArray) (HN : Hid (m.length = n)) (hn : n ≤ 4096) (HX : Hid (x.size ≤ 1048576)) (HS : Hid (∀ k (h : k < m.length), m[k].size ≤ 1048576)) (R : ByteArray) (HR : Hid (R = bjS x m)) (w : World) (hr : RowV w a (cS m)) :
    Calls Tryz.prog 74 #[.string x, .slice a n cap] w fun e w' => e = .returned (.string R) ∧ Below w.heap.size w w' := by
  have HRW := hide hr
  have HNN := hide hn
  clear hr hn
  have hI0 := Lib.IsBuilderF.of (Lib.fresh_isBuilder 112 5 w)
  have HI0 := hide hI0
  clear hI0
  have hB0 := hide ((Below.refl w.heap.size w).alloc (Nat.le_refl _) (.cells #[.pointer none, .slice none 0 0] 112))
  go_enter Tryz.func74, Tryz.ntmps74
  go_wp2_with (go_at_call 87; refine (Tryz.Builder_WriteString_k w.heap.size w.heap.size [] x _ (unhide HI0) (by have := unhide HX; simp; omega) (by simp)).mono ?_; rintro e w1 ⟨rfl, h1, b1, -⟩)
  have HI1 : Hid (Lib.IsBuilderF 112 5 w.heap.size w.heap.size (Lib.byteCells (bjL x.data.toList (m.take 0))) w1) := by
    show Lib.IsBuilderF _ _ _ _ _ _
    rw [show bjL x.data.toList (m.take 0) = x.data.toList by simp [bjL], ← Lib.strCells_eq]
    exact Or.inr h1
  have HB1 := hide ((unhide hB0).trans b1)
  clear h1 b1 hB0 HI0
  have HLEN := hide (fun k => bjL_len x.data.toList m 1048576 (unhide HS) k)
  have HXL : Hid (x.data.toList.length ≤ 1048576) := by have := unhide HX; show _ ≤ _; rw [show x.data.toList.length = x.size from Array.length_toList]; exact this
  go_loopw [12] (fun i wr => ∃ k : Nat, k ≤ n ∧ i = .int .i64 k ∧ Hid (Lib.IsBuilderF 112 5 w.heap.size w.heap.size (Lib.byteCells (bjL x.data.toList (m.take k))) wr) ∧ Hid (Below w.heap.size w wr)) (fun i _ => n - (intOf i).toNat)
  case atStart => exact ⟨0, by omega, rfl, HI1, HB1⟩
  case round =>
    clear HI1 HB1
    obtain ⟨k, hk, rfl, HI, HB⟩ := hrel
    by_cases hlt : k < n
    · have hlm : k < m.length := by rw [unhide HN]; exact hlt
      obtain ⟨b, off, ha, hblt, hc⟩ := (unhide HRW).at (by rw [cS_len, unhide HN]; omega)
      subst ha
      have hc1 : wr.cell? ⟨b, off + k, none⟩ = some (.string m[k]) := ((unhide HB).cell (p := ⟨b, off + k, none⟩) hblt).trans (hc k _ (cS_at m k hlm))
      have hlt' : (k : Int) < (n : Int) := by omega
      have hk9 : k ≤ 4096 := by have := unhide HNN; omega
      have HSK := hide (unhide HS k hlm)
      have HE := hide (bjL_snoc x.data.toList m k hlm)
      have hz := (unhide HB).size
      have HLK : Hid ((bjL x.data.toList (m.take k)).length ≤ 1048576 + 4096 * 1048577) := by
        have h1 := unhide HLEN k
        have h2 := unhide HXL
        have h3 := unhide HNN
        have h4 : k * (1048576 + 1) ≤ 4096 * 1048577 := Nat.mul_le_mul (by omega) (Nat.le_refl _)
        show _ ≤ _
        omega
      clear hc HRW
      obtain ⟨T, hT⟩ : ∃ T, T = m[k] := ⟨_, rfl⟩
      rw [← hT] at hc1 HSK HE
      clear hT
      go_wp2_with (first
        | (go_at_call 88; refine (Tryz.Builder_WriteByte_k w.heap.size w.heap.size _ 32 _ (unhide HI) (by have := unhide HLK; rw [Lib.byteCells_length]; omega) (by omega)).mono ?_; rintro e w2 ⟨rfl, h2, b2, -⟩; have HI2 := hide h2; have HB2 := hide ((unhide HB).trans b2); clear h2 b2)
        | (go_at_call 87; refine (Tryz.Builder_WriteString_k w.heap.size w.heap.size _ T _ (Or.inr (unhide HI2)) (by have := unhide HLK; have := unhide HSK; simp only [List.length_append, Lib.byteCells_length, List.length_cons, List.length_nil]; omega) (by have := (unhide HB2).size; omega)).mono ?_; rintro e w3 ⟨rfl, h3, b3, -⟩; have HI3 := hide h3; have HB3 := hide ((unhide HB2).trans b3); clear h3 b3))
      go_roundw
      case rel =>
        refine ⟨k + 1, by omega, by go_num, ?_, HB3⟩
        show Lib.IsBuilderF _ _ _ _ _ _
        rw [unhide HE, Lib.byteCells_append, Lib.byteCells_append, ← Lib.strCells_eq]
        exact Or.inr (unhide HI3)
      case measure => simp [intOf]; omega
    · obtain rfl : k = n := by omega
      have HV : Hid (R = ⟨(bjL x.data.toList (m.take k)).toArray⟩) := by show _ = _; rw [unhide HR, List.take_of_length_le (by rw [unhide HN]; exact Nat.le_refl _)]; rfl
      have hz := (unhide HB).size
      clear hlt
      go_wp2_with (go_at_call 89; refine (Tryz.Builder_String_any_k w.heap.size w.heap.size _ _ (unhide HI) (by omega)).mono ?_; rintro e w4 ⟨rfl, -, b4, -⟩; have HB4 := hide ((unhide HB).trans b4); clear b4; rw [← unhide HV])
      go_ret
      exact ⟨rfl, unhide HB4⟩
end Go.Proofs.YtmmnoepcklfonaaGreatDoor

/- A client's number, a window's name: what the program answers. -/
namespace Go.Proofs.YtmmnoepcklfonaaGreatDoor
open Go.ChangeShapes Go.WideShapes Go.ChangeAt Go.RowKit
set_option linter.unusedVariables false
theorem icl (x : Int) (R : Bool) (HR : Hid (R = inB x 0 200)) (w : World) : Calls Tryz.prog 95 #[.int .i64 x] w fun e w' => e = .returned (.bool R) ∧ w' = w := by
  go_enter Tryz.func95, Tryz.ntmps95
  go_wp2_with fail
  refine (iwi x 0 200 R HR _).mono ?_
  rintro e w1 ⟨rfl, rfl⟩
  go_wp2_with fail
  go_ret
  exact ⟨rfl, rfl⟩
set_option maxHeartbeats 400000 in
theorem iwn (s : ByteArray) (HS : Hid (s.size ≤ 1048576)) (R : Bool) (HR : Hid (R = wnB s)) (w : World) : Calls Tryz.prog 96 #[.string s] w fun e w' => e = .returned (.bool R) ∧ w' = w := by
  have hs := unhide HS
  by_cases h1 : s.size ≤ 12
  · have hR : R = nameB s := by rw [unhide HR]; unfold wnB; rw [decide_eq_true h1]; rfl
    have h2 : (s.size : Int) ≤ 12 := by omega
    clear HR hs
    go_enter Tryz.func96, Tryz.ntmps96
    go_wp2_with fail
    refine (name6 s (unhide HS) _).mono ?_
    rintro e w1 ⟨rfl, rfl⟩
    go_wp2_with fail
    go_ret
    exact ⟨ret_bool hR.symm, rfl⟩
  · have hR : R = false := by rw [unhide HR]; unfold wnB; rw [decide_eq_false h1]; rfl
    have h2 : ¬ (s.size : Int) ≤ 12 := by omega
    clear HR hs
    subst hR
    go_enter Tryz.func96, Tryz.ntmps96
    go_wp2_with fail
    go_ret
    exact ⟨rfl, rfl⟩
end Go.Proofs.YtmmnoepcklfonaaGreatDoor
