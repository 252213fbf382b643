/- impl.FrameBytes of data that is not empty and not too long. -/
import Derived.Test.YtamjljhbnhdgdaaDoorZG2
import Derived.Test.YtamjljhbnhdgdaaDoorZConI
import Derived.Test.YtamjljhbnhdgdaaDoorZG23
import Derived.Lib.AppendStr
namespace Go.Proofs.YtamjljhbnhdgdaaDoor
open Go.ChangeShapes Go.WideShapes Go.ChangeAt Go.RowKit
set_option linter.unusedVariables false
theorem Tryd.infB5 : (Tryd.prog.info? 5).map (fun i => (i.zero, i.size, i.bytes)) = some (some (.int .u8 0), 1, 1) := by kernel_rfl
set_option maxHeartbeats 2000000 in
set_option maxRecDepth 100000 in
theorem iframe (d : ByteArray) (n : Nat) (hn : d.size = n) (h1 : 1 ≤ n) (h2 : n ≤ 60000) (w : World) :
  Calls Tryd.prog 36 #[.string d] w fun e w' => ∃ v, e = .returned (.tuple #[v, .int .i64 0]) ∧ w'.ownsRow w.heap.size 5 1 v (frmB d.data.toList).length (B8 (frmB d.data.toList)) ∧ Below w.heap.size w w' := by
 obtain ⟨i0, hi, hz0, hz1, hz2⟩ := info_parts Tryd.infB5
 obtain ⟨D, eD⟩ : ∃ D, D = d.data.toList := ⟨_, rfl⟩
 have hDl : D.length = n := by rw [eD, sizeT, hn]
 have hlt := chk_lt (be n 3 ++ D)
 obtain ⟨S, hS⟩ : ∃ S, S = (chk (be n 3 ++ D)).toNat := ⟨_, rfl⟩
 have hSi : chk (be n 3 ++ D) = (S : Int) := by omega
 have hS32 : S < 4294967296 := by omega
 have HF : Hid (frmB D = be n 3 ++ be S 4 ++ D) := by show _ = _; unfold frmB; rw [hDl, ← hS]
 rw [← eD]
 have HD := hide eD
 have HDL := hide hDl
 have HSI := hide hSi
 have T1 := iappend w.heap.size (.slice none 0 0) [] n 3 (by omega) (by decide) (by simp) w (World.ownsRow_nil _ _ _ _) (Nat.le_refl _)
 change Calls _ _ #[_, _, .int .i64 3] _ _ at T1
 rw [List.nil_append, be_len] at T1
 have q1 := fun w' : World => Go.Lib.run_convert_string_bytes w' 9 22 5 d Tryd.underlying9 Tryd.underlying22 Tryd.underlying5
 have b1 : ¬ (65536 : Int) < (n : Int) := by omega
 have b2 : ((n : Int) == 0) = false := beq_eq_false_iff_ne.2 (by omega)
 have b3 : ¬ (n : Int) = 0 := by omega
 have HT1 := hide T1
 have TOK : True := trivial
 clear T1 hlt hS hSi hDl eD
 go_enter Tryd.func36, Tryd.ntmps36
 go_wp2_with (first
  | (have hq := TOK; go_at_call 48; refine (unhide HT1).mono ?_; rintro e w1 ⟨v1, rfl, o1, hb1⟩; obtain ⟨a1, c1, rfl, -⟩ := own_rowV o1; have HO1 := hide (held_of o1); have HB1 := hide hb1; clear TOK o1 hb1 HT1)
  | (go_at_call 49; refine (iframesum a1 (some ⟨w1.heap.size, 0, none⟩) c1 _ 3 n (be n 3) D (be_len _ _) (unhide HDL) (by decide) (by omega) _ ((rowV_8 (unhide HO1).rowV).below (bytes_belowT w1 d)) (by rw [unhide HD]; exact bytes_rowT w1 d)).mono ?_; rintro e w3 ⟨rfl, hb3⟩; rw [unhide HSI]; have HB3 := hide (((unhide HB1).trans ((bytes_belowT w1 d).mono (unhide HB1).size)).trans (hb3.mono (Nat.le_trans (unhide HB1).size (bytes_belowT w1 d).size))); have HO3 := hide (((unhide HO1).below (bytes_belowT w1 d) (Nat.le_refl _)).below hb3 (bytes_belowT w1 d).size).own; clear hb3)
  | (have hq := HO3; go_at_call 48; have T2 := iappend w.heap.size (.slice a1 3 c1) (be n 3) S 4 hS32 (by decide) (by rw [be_len]; decide) w3 (by rw [be_len]; exact unhide HO3) (unhide HB3).size; change Calls _ _ #[_, _, .int .i64 4] _ _ at T2; refine T2.mono ?_; clear T2; rintro e w4 ⟨v4, rfl, o4, hb4⟩; have HB4 := hide ((unhide HB3).trans hb4); clear hb4 HO3)
  | (refine Go.Lib.wpList_append_own_string _ rfl (.tmp 21) (.tmp 22) 22 9 rfl w.heap.size 5 i0 Tryd.underlying22 Tryd.underlying9 hi hz0 hz1 hz2 _ _ _ rfl o4 d rfl (by rw [List.length_append, be_len, be_len]; unfold maxLen; omega) (by rw [List.length_append, be_len, be_len]; omega) (unhide HB4).size ?_; intro v5 w5 ho5 hg5 _; have HB5 := hide ((unhide HB4).grown hg5 (unhide HB4).size (fun j hj => (o4.lt j hj).1)); have HO5 : Hid (w5.ownsRow w.heap.size 5 1 v5 (be n 3 ++ be S 4 ++ d.data.toList).length (B8 (be n 3 ++ be S 4 ++ d.data.toList))) := own_app ho5 (by rw [Array.length_toList]; rfl); clear o4 ho5 hg5))
 go_ret2
 rw [← unhide HD] at HO5
 exact ⟨_, rfl, by rw [unhide HF]; exact unhide HO5, unhide HB5⟩
end Go.Proofs.YtamjljhbnhdgdaaDoor
