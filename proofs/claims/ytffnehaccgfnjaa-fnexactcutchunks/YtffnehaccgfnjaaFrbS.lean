/- spec.FrameBytes of data that is not empty and not too long. -/
import Derived.Test.YtffnehaccgfnjaaFrmR
import Derived.Test.YtffnehaccgfnjaaFrmU
import Derived.Test.YtffnehaccgfnjaaAppendAny
import Derived.Test.YtffnehaccgfnjaaAppS
import Derived.Test.YtffnehaccgfnjaaStepStr
import Derived.Lib.AppendStr
namespace Go.Proofs.Ytffnehaccgfnjaa
open Go.ChangeShapes Go.WideShapes Go.ChangeAt Go.RowKit
set_option linter.unusedVariables false
theorem Try.infD5 : (Try.prog.info? 5).map (fun i => (i.zero, i.size, i.bytes)) = some (some (.int .u8 0), 1, 1) := by kernel_rfl
set_option maxHeartbeats 800000 in
set_option maxRecDepth 100000 in
theorem sframe1 (d : ByteArray) (h1 : 1 ≤ d.size) (h2 : d.size ≤ 60000) (w : World) :
    Calls Try.prog 13 #[.string d] w fun e w' => ∃ v, e = .returned v ∧ w'.ownsRow w.heap.size 5 1 v (frmB d.data.toList).length (B8 (frmB d.data.toList)) ∧ Below w.heap.size w w' := by
  obtain ⟨i0, hi, hz0, hz1, hz2⟩ := info_parts Try.infD5
  obtain ⟨D, eD⟩ : ∃ D, D = d.data.toList := ⟨_, rfl⟩
  have hDl : D.length = d.size := by rw [eD, sizeT]
  have hlt := chk_lt (be d.size 3 ++ D)
  obtain ⟨S, hS⟩ : ∃ S, S = (chk (be d.size 3 ++ D)).toNat := ⟨_, rfl⟩
  have hSi : chk (be d.size 3 ++ D) = (S : Int) := by omega
  have hS32 : S < 4294967296 := by omega
  have HF : Hid (frmB D = be d.size 3 ++ be S 4 ++ D) := by show _ = _; unfold frmB; rw [hDl, ← hS]
  rw [← eD]
  have HD := hide eD
  have HDL := hide hDl
  have HSI := hide hSi
  have T1 := snumber d.size 3 (by omega) (by decide) w
  change Calls _ _ #[_, .int .i64 3] _ _ at T1
  rw [be_len] at T1
  have HT1 := hide T1
  have TOK : True := trivial
  clear T1 hlt hS hSi hDl eD
  go_enter Try.func13, Try.ntmps13
  go_wp2_with (first
    | (have hq := TOK; go_at_call 18; refine (unhide HT1).mono ?_; rintro e w1 ⟨v1, rfl, o1, hb1⟩; obtain ⟨g1, c1, rfl, hg1, hg1b, -, -⟩ := own_some o1 (by decide); have HO1 := hide (held_of o1); have HB1 := hide hb1; have HR1 := hide ((rowV_8 (row_at o1)).below ((Below.refl w1.heap.size w1).alloc (Nat.le_refl _) (.cells #[] 5))); have HA1 := hide ((unhide HO1).below ((Below.refl w1.heap.size w1).alloc (Nat.le_refl _) (.cells #[] 5)) (Nat.le_refl _)); have HA0 := hide (hb1.alloc hb1.size (.cells #[] 5)); have TOK3 : True := trivial; clear TOK o1 hb1 HT1)
    | (have hq := TOK3; at_builtin; refine append_row8 _ rfl (.tmp 8) (.tmp 9) 22 rfl w1.heap.size 5 i0 Try.underlying22 hi hz0 hz1 hz2 w1.heap.size 0 0 (B8 []) rfl (lit_empty w1 _ _ (Nat.le_refl _)) (some ⟨g1, 0, none⟩) c1 (be d.size 3) (by rw [be_len]; rfl) (unhide HR1) (by rw [be_len]; decide) (by simp) ?_; intro g3 c3 w3 o3 hg3; rw [be_len, Nat.zero_add] at o3 ⊢; have HB3 := hide ((unhide HA0).grown hg3 (unhide HA0).size (fun j hj => by injection hj with hj; have := (unhide HB1).size; omega)); have HH3 := hide ((unhide HA1).grown hg3 (fun j hj => .inr (by injection hj with hj; omega))); have zz3 : w1.heap.size ≤ w3.heap.size := (by have := hg3.size; simp at this; omega); have HO3 := hide o3; have TOK4 : True := trivial; clear TOK3 o3 hg3 HR1 HA0 HA1)
    | (have hq := TOK4; refine Go.Lib.wpList_append_own_string _ rfl (.tmp 10) (.tmp 11) 22 9 rfl w1.heap.size 5 i0 Try.underlying22 Try.underlying9 hi hz0 hz1 hz2 _ _ _ rfl (unhide HO3) d rfl (by unfold maxLen; omega) (by omega) zz3 ?_; intro v4 w4 o4 hg4 _; have HB4 := hide ((unhide HB3).grown hg4 (unhide HB3).size (fun j hj => Nat.le_trans (unhide HB1).size ((unhide HO3).lt j hj).1)); have HH4 := hide ((unhide HH3).grown hg4 (fun j hj => .inr ((unhide HO3).lt j hj).1)); have o4b : w4.ownsRow w1.heap.size 5 1 v4 (3 + d.size) (B8 (be d.size 3 ++ d.data.toList)) := (by rw [show B8 (be d.size 3 ++ d.data.toList) = B8 (be d.size 3) ++ B8 d.data.toList from by simp [B8]]; exact o4); obtain ⟨a4, c4, rfl, r4⟩ := own_rowV o4b; have HR4 := hide (rowV_8 r4); have HN4 : Hid ((be d.size 3 ++ d.data.toList).length = 3 + d.size) := (by show _ = _; rw [List.length_append, be_len, sizeT]); clear TOK4 o4 o4b r4 hg4 HO3)
    | (go_at_call 19; refine (check16n a4 c4 _ (be d.size 3 ++ d.data.toList) (unhide HN4) (by omega) _ (unhide HR4)).mono ?_; rintro e w5 ⟨rfl, hw⟩; subst w5; rw [← unhide HD, unhide HSI]; have TOK6 : True := trivial)
    | (have hq := TOK6; go_at_call 18; have T2 := snumber S 4 hS32 (by decide) w4; change Calls _ _ #[_, .int .i64 4] _ _ at T2; rw [be_len] at T2; refine T2.mono ?_; clear T2; rintro e w6 ⟨v6, rfl, o6, hb6⟩; obtain ⟨a6, c6, rfl, r6⟩ := own_rowV o6; have HR6 := hide (rowV_8 r6); have HB6 := hide ((unhide HB4).trans (hb6.mono (unhide HB4).size)); have HH6 := hide ((unhide HH4).below hb6 (unhide HH4).le); have TOK7 : True := trivial; clear TOK6 o6 r6 hb6)
    | (have hq := TOK7; at_builtin; refine append_row8 _ rfl (.tmp 7) (.tmp 14) 22 rfl w.heap.size 5 i0 Try.underlying22 hi hz0 hz1 hz2 g1 3 c1 (B8 (be d.size 3)) rfl (unhide HH6).own a6 c6 (be S 4) (by rw [be_len]; rfl) (unhide HR6) (by rw [be_len]; decide) (unhide HB6).size ?_; intro g7 c7 w7 o7 hg7; rw [be_len] at o7 ⊢; have HB7 := hide ((unhide HB6).grown hg7 (unhide HB6).size (fun j hj => by injection hj with hj; omega)); have HO7 := hide o7; have TOK8 : True := trivial; clear TOK7 o7 hg7)
    | (have hq := TOK8; refine Go.Lib.wpList_append_own_string _ rfl (.tmp 15) (.tmp 16) 22 9 rfl w.heap.size 5 i0 Try.underlying22 Try.underlying9 hi hz0 hz1 hz2 _ _ _ rfl (unhide HO7) d rfl (by unfold maxLen; omega) (by omega) (unhide HB7).size ?_; intro v8 w8 o8 hg8 _; have HB8 := hide ((unhide HB7).grown hg8 (unhide HB7).size (fun j hj => ((unhide HO7).lt j hj).1)); have HO8 := hide o8; clear TOK8 o8 hg8))
  go_ret
  refine ⟨_, rfl, ?_, unhide HB8⟩
  have o := unhide HO8
  rw [unhide HF, unhide HD, show (be d.size 3 ++ be S 4 ++ d.data.toList).length = 3 + 4 + d.size from by rw [List.length_append, List.length_append, be_len, be_len, sizeT], show B8 (be d.size 3 ++ be S 4 ++ d.data.toList) = B8 (be d.size 3) ++ B8 (be S 4) ++ B8 d.data.toList from by simp [B8]]
  exact o
end Go.Proofs.Ytffnehaccgfnjaa
