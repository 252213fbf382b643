/- FieldsBytes: what the specification answers at every list of texts. -/
import Derived.Test.YtkdplhhkkpkmoaaDoorZG3
import Derived.Test.YtkdplhhkkpkmoaaDoorZG33
import Derived.Test.YtkdplhhkkpkmoaaDoorZG28
namespace Go.Proofs.YtkdplhhkkpkmoaaDoor
open Go.ChangeShapes Go.WideShapes Go.ChangeAt Go.RowKit
theorem Tryd.infG5 : (Tryd.prog.info? 5).map (fun i => (i.zero, i.size, i.bytes)) = some (some (.int .u8 0), 1, 1) := by kernel_rfl
theorem be1_own (w : World) (n : Nat) (t : TypeId) (hn : n < 256) : (w.alloc (.cells #[.int .u8 (n : Int)] t)).ownsRow w.heap.size t 1 (.slice (some ⟨w.heap.size, 0, none⟩) 1 1) (be n 1).length (B8 (be n 1)) := by
 have e : B8 (be n 1) = [.int .u8 (n : Int)] := by
  have : ((nb n 0).toNat : Int) = (n : Int) := by unfold nb; rw [UInt8.toNat_ofNat']; simp; omega
  simp [B8, be, this]
 rw [e]
 exact World.ownsRow_lit w #[.int .u8 (n : Int)] 1 (Nat.le_refl _) (by decide) rfl
set_option maxHeartbeats 400000 in
set_option maxRecDepth 100000 in
theorem sfields24 (a : Option Addr) (cap : Nat) (l : List ByteArray) (h60 : l.length ≤ 60) (hshort : allShort l) (hfull : ¬ 65536 < fsum l) (w : World) (hr : RowV w a (cS l)) :
  Calls Tryd.prog 33 #[.slice a l.length cap] w fun e w' => ∃ v', e = .returned v' ∧ w'.ownsRow w.heap.size 5 1 v' (be l.length 1 ++ fieldsL l).length (B8 (be l.length 1 ++ fieldsL l)) ∧ Below w.heap.size w w' := by
 obtain ⟨i0, hi, hz0, hz1, hz2⟩ := info_parts Tryd.infG5
 have HR := hide hr
 have HS := hide hshort
 have HFU := hide hfull
 have HCL := hide (cS_len l)
 clear hr hshort hfull
 go_enter Tryd.func33, Tryd.ntmps33
 go_wp2_with fail
 go_loopw [3, 4] (fun v i wr => ∃ (k : Nat) (m : List UInt8) (g c : Nat), k ≤ l.length ∧ i = .int .i64 k ∧ Hid (m = be l.length 1 ++ fieldsL (l.take k)) ∧ m.length ≤ 65536 ∧ v = .slice (some ⟨g, 0, none⟩) m.length c ∧ Hid (wr.ownsRow w.heap.size 5 1 (.slice (some ⟨g, 0, none⟩) m.length c) m.length (B8 m)) ∧ Hid (Below w.heap.size w wr)) (fun _ i _ => l.length - (intOf i).toNat)
 case atStart => exact ⟨0, be l.length 1, w.heap.size, 1, by omega, rfl, by show _ = _; simp [fieldsL], by rw [be_len]; decide, by rw [be_len], by rw [be_len]; exact be1_own w l.length _ (by omega), (Below.refl _ _).alloc (Nat.le_refl _) _⟩
 case round =>
  obtain ⟨k, m, g, c, hk, rfl, HM, hm, rfl, HO, HB⟩ := hrel
  by_cases hlt : k < l.length
  ·obtain ⟨b, off, ha, hblt, hc⟩ := (unhide HR).at (by rw [unhide HCL]; omega)
   subst ha
   have hc1 : wr.cell? ⟨b, off + k, none⟩ = some (.string l[k]) := ((unhide HB).cell (p := ⟨b, off + k, none⟩) hblt).trans (hc k _ (cS_at l k hlt))
   have hlt' : (k : Int) < (l.length : Int) := by omega
   have hlt0 : (0 : Int) ≤ (k : Int) := by omega
   have hsk := unhide HS k hlt
   have HM2 : Hid (m ++ be l[k].size 2 ++ l[k].data.toList = be l.length 1 ++ fieldsL (l.take (k + 1))) := by show _ = _; rw [fieldsL_snoc l k hlt, unhide HM]; simp [fieldB]
   have HLE : Hid ((m ++ be l[k].size 2 ++ l[k].data.toList).length ≤ 65536) := by
    show _ ≤ _
    have h1 := fsum_mono l (k + 1)
    have h2 := unhide HFU
    rw [unhide HM2, List.length_append, be_len]; unfold fsum at h1 h2; omega
   have hz := (unhide HB).size
   have hbw : b < wr.heap.size := Nat.lt_of_lt_of_le hblt hz
   clear hc HR HCL HM HS HFU
   have hg := (unhide HO).lt g rfl
   have hbg : ¬ b = g := by omega
   have hown := unhide HO
   have HBS := hide (unhide HB)
   clear HO HB
   go_wp2_with fail
   go_region_held3 (fun w' => w'.cell? ⟨b, off + k, none⟩ = some (.string l[k])) (go_keep) (first | (go_at_call 44; refine (snumber l[k].size 2 (by omega) (by decide) _).mono ?_; rintro e w2 ⟨v2, rfl, ho2, hb2⟩; rw [be_len] at ho2; obtain ⟨g2, cap2, rfl, hg2a, hg2b, hg2c, hg2d⟩ := own_some ho2 (by decide); have hc2 : w2.cell? ⟨b, off + k, none⟩ = some (.string l[k]) := (hb2.cell (p := ⟨b, off + k, none⟩) hbw).trans hc1; have hown2 := hown.kept (row := none) (w' := w2) ⟨hb2.os, hb2.tape, hb2.output, hb2.size, fun k hk _ => hb2.block k hk⟩ (.inr (by simp [Value.ownBlock])); have hz2' : wr.heap.size ≤ w2.heap.size := hb2.size; have HB2 := hide ((unhide HBS).trans (below_undrew (hb2.mono hz))); clear hb2 ho2) | (refine step_append_lies _ rfl (.tmp 15) (.tmp 21) 22 rfl w.heap.size 5 i0 (.int .u8 0) 1 1 Tryd.underlying22 hi hz0 hz1 hz2 rfl (by decide) _ _ _ rfl hown2 ⟨g2, 0, none⟩ 2 cap2 (B8 (be l[k].size 2)) rfl (by rw [B8_len, be_len]) hg2d (B8_one _) (by decide) (by unfold maxLen; omega) (by omega) (by omega) _ rfl ?_; intro g3 c3 w3 hown3 hgrow3 hat3 hlt3; have hc3 : w3.cell? ⟨b, off + k, none⟩ = some (.string l[k]) := (hgrow3.cell_far ⟨b, off + k, none⟩ (Nat.lt_of_lt_of_le hbw hz2') (fun e => hbg (Option.some.inj e))).trans hc2; have HB3 := hide ((unhide HB2).grown hgrow3 (by omega) (fun j hj => by have := (hown2.lt j hj).1; omega)); have hz3 : w2.heap.size ≤ w3.heap.size := hgrow3.size; have hown3' := own_app (l := m) (m := be l[k].size 2) hown3 (be_len _ _); clear hgrow3 hat3 hown3) | (refine step_append_string _ rfl (.tmp 22) (.tmp 26) 22 9 rfl w.heap.size 5 i0 Tryd.underlying22 Tryd.underlying9 hi hz0 hz1 hz2 _ _ _ rfl hown3' l[k] rfl (by rw [List.length_append, be_len]; unfold maxLen; omega) (by rw [List.length_append, be_len]; omega) (by omega) ?_; intro v5 w5 ho5 hg5 _; have hc5 : w5.cell? ⟨b, off + k, none⟩ = some (.string l[k]) := (hg5.cell_far ⟨b, off + k, none⟩ (Nat.lt_of_lt_of_le (Nat.lt_of_lt_of_le hbw hz2') hz3) (fun e => absurd (hown3'.lt b e.symm).1 (Nat.not_le.2 hblt))).trans hc3; have HB5 := hide ((unhide HB3).grown hg5 (by omega) (fun j hj => (hown3'.lt j hj).1)); have HO5 := hide (own_app ho5 (by rw [Array.length_toList]; rfl)); obtain ⟨g5, c5, rfl, -⟩ := own_some (unhide HO5) (by rw [List.length_append, List.length_append, be_len]; omega); clear ho5 hg5 hown3'))
   all_goals
    go_wp2_with fail
    go_roundw
    case rel => exact ⟨k + 1, m ++ be l[k].size 2 ++ l[k].data.toList, g5, c5, by omega, by go_num, unhide HM2, unhide HLE, by rw [List.length_append, List.length_append, Array.length_toList, Nat.add_assoc]; rfl, HO5, HB5⟩
    case measure => simp [intOf]; omega
  ·rw [List.take_of_length_le (by omega)] at HM
   go_wp2_with fail
   go_ret
   rw [← unhide HM]
   exact ⟨_, rfl, unhide HO, unhide HB⟩
end Go.Proofs.YtkdplhhkkpkmoaaDoor
