/- Texts put together: AppS AppendAny NumbersS FieldsS. -/
import Derived.Test.YtamjljhbnhdgdaaDoorZG1
import Derived.Test.YtamjljhbnhdgdaaDoorZG0
import Derived.Deep.AppendSrc
import Derived.Test.YtamjljhbnhdgdaaDoorZG14
import Derived.Test.YtamjljhbnhdgdaaDoorZG24
/- l02Number: the bytes of a number. -/
namespace Go.Proofs.YtamjljhbnhdgdaaDoor
open Go.ChangeShapes Go.WideShapes Go.ChangeAt Go.RowKit
theorem Tryd.infS5 : (Tryd.prog.info? 5).map (fun i => (i.zero, i.size, i.bytes)) = some (some (.int .u8 0), 1, 1) := by kernel_rfl
set_option maxHeartbeats 400000 in
set_option maxRecDepth 100000 in
theorem snumber (n size : Nat) (_hn : n < 4294967296) (hs : size ≤ 4) (w : World) :
  Calls Tryd.prog 47 #[.int .i64 (n : Int), .int .i64 (size : Int)] w fun e w' => ∃ v', e = .returned v' ∧ w'.ownsRow w.heap.size 5 1 v' (be n size).length (B8 (be n size)) ∧ Below w.heap.size w w' := by
 obtain ⟨i0, hi, hz0, hz1, hz2⟩ := info_parts Tryd.infS5
 go_enter Tryd.func47, Tryd.ntmps47
 go_wp2_with fail
 go_loopw [5, 6] (fun v i wr => ∃ (b : Nat) (m : List UInt8), b ≤ size ∧ i = .int .i64 ((b : Int) - 1) ∧ Hid (m ++ be n b = be n size) ∧ m.length + b ≤ 4 ∧ Hid (wr.ownsRow w.heap.size 5 1 v m.length (B8 m)) ∧ Hid (Below w.heap.size w wr)) (fun _ i _ => (intOf i + 1).toNat)
 case atStart => exact ⟨size, [], Nat.le_refl _, by go_num, rfl, by simpa using hs, lit_empty w _ _ (Nat.le_refl _), (Below.refl _ _).alloc (Nat.le_refl _) _⟩
 case round =>
  obtain ⟨b, m, hbs, rfl, HM, hm, HO, HB⟩ := hrel
  by_cases hb0 : b = 0
  ·subst hb0
   have HV : Hid (be n size = m) := by show _ = _; have := unhide HM; simpa [be] using this.symm
   go_wp2_with fail
   go_ret
   exact ⟨_, rfl, by rw [unhide HV]; exact unhide HO, unhide HB⟩
  ·obtain ⟨k, rfl⟩ : ∃ k, b = k + 1 := ⟨b - 1, by omega⟩
   have hk : (k : Int) ≤ 3 := by omega
   have hv := nb_val n k
   have hown := unhide HO
   have hz := (unhide HB).size
   clear HO
   go_wp2_with (at_builtin; refine wpList_append_lies _ rfl (.tmp 14) (.tmp 21) 22 rfl w.heap.size 5 i0 (.int .u8 0) 1 1 Tryd.underlying22 hi hz0 hz1 hz2 rfl (by decide) _ _ _ rfl (hown.alloc _) ⟨wr.heap.size, 0, none⟩ 1 1 (B8 [nb n k]) rfl rfl (by exact news_new wr (B8 [nb n k]) 5) (B8_one _) (by decide) (by unfold maxLen; omega) (by omega) (by simp; omega) _ rfl ?_; intro g2 c2 w2 hown2 hgrow2 hat2 hlt2; have HB2 := hide (below_app (unhide HB) (by omega) hown (Nat.le_refl _) hgrow2); have HO2 : Hid (w2.ownsRow w.heap.size 5 1 (.slice (some ⟨g2, 0, none⟩) (m.length + 1) c2) (m ++ [nb n k]).length (B8 (m ++ [nb n k]))) := own_app hown2 rfl; clear hown2 hgrow2 hat2 hlt2 hown HB hv)
   go_roundw
   case rel => exact ⟨k, m ++ [nb n k], by omega, by go_num, by show _ = _; rw [← unhide HM]; simp [be], by rw [List.length_append]; simp; omega, HO2, HB2⟩
   case measure => simp [intOf]
end Go.Proofs.YtamjljhbnhdgdaaDoor

/- append of a row of bytes, empty or not, onto a row that the call owns. -/
namespace Go.Proofs.YtamjljhbnhdgdaaDoor
open Go.ChangeShapes Go.WideShapes Go.ChangeAt Go.RowKit

theorem append_row8 {P : Program} (w : World) {ops : Array Oper} {rest : List Oper} {o : Oper} {a : Act} {Q : Exit → Act → World → Prop} (hgd : o.guard = none) (s x : Operand) (t : TypeId)
  (ho : o.op = .call { callee := .builtin .append, args := #[s, x], argTypes := #[t, t] }) (base : Nat) (e : TypeId) (i : TypeInfo) (ht : P.underlying t = some (.slice e)) (hi : P.info? e = some i) (hz : i.zero = some (.int .u8 0)) (hsize : i.size = 1) (hby : i.bytes = 1)
  (g0 n c0 : Nat) (xs : List Value) (hs : a.eval s = .slice (some ⟨g0, 0, none⟩) n c0) (hown : w.ownsRow base e 1 (.slice (some ⟨g0, 0, none⟩) n c0) n xs)
  (sp : Option Addr) (sc : Nat) (l : List UInt8) (hx : a.eval x = .slice sp l.length sc) (hr : Row8 w sp l) (hb : n + l.length ≤ 1099511627776) (hbase : base ≤ w.heap.size)
  (h : ∀ g cap w', w'.ownsRow base e 1 (.slice (some ⟨g, 0, none⟩) (n + l.length) cap) (n + l.length) (xs ++ B8 l) → w.grownBy w' (some g0) → wpList P ops Q rest (a.put o.dst (.slice (some ⟨g, 0, none⟩) (n + l.length) cap)) w') :
  wpList P ops Q (o :: rest) a w := by
 by_cases h0 : l.length = 0
 ·obtain rfl : l = [] := List.length_eq_zero_iff.1 h0
  have hnc : n ≤ c0 := by
   rcases hown.2 with ⟨h', _⟩ | ⟨g, cap, cur, h', _, _, hnc, _⟩
   ·simp at h'
   ·simp only [Value.slice.injEq, true_and] at h'; omega
  have hsrc : Src P i.size t (.slice sp 0 sc) 0 [] w := by
   cases sp with
   | none => exact Src.ofNil w ht sc
   | some ad => exact Src.ofSlice w ht ad 0 sc [] (by simp) (fun j u hu => by simp at hu) (fun u hu => by cases hu)
  have hrun := run_append_room_src (P := P) w t t o.type e i ht hi g0 0 n c0 (.slice sp 0 sc) 0 [] hsrc (by omega) (fun j hj => by simp at hj) (fun j hj => by simp at hj)
  refine wpList_plain hgd fun K hK => ?_
  unfold Oper.wp
  simp only [List.length_nil] at hx
  simp [execOp, ho, resolve, invoke, builtin, hs, hx, hrun, Result.andThen, World.setCells]
  refine hK _ _ ?_
  have := h g0 c0 w (by simpa [B8] using hown) ⟨rfl, rfl, rfl, Nat.le_refl _, fun _ _ _ => rfl⟩
  simpa using this
 ·obtain ⟨b, off, rfl, _, hc⟩ := hr.at (by omega)
  refine wpList_append_lies w hgd s x t ho base e i (.int .u8 0) 1 1 ht hi hz hsize hby rfl (by decide) _ n xs hs hown ⟨b, off, none⟩ l.length sc (B8 l) hx (by rw [B8_len]; omega) ?_ (B8_one _) (by omega) (by unfold maxLen; omega) (by omega) hbase _ rfl ?_
  ·intro j u hu
   have hj : j < l.length := by have := (List.getElem?_eq_some_iff.1 hu).1; rwa [B8_len] at this
   rw [show (⟨b, off, none⟩ : Addr).add j = ⟨b, off + j, none⟩ from by unfold Addr.add; split <;> simp_all, hc j hj, ← hu]
   simp [B8, List.getElem?_eq_getElem hj]
  ·intro g cap w' ho1 hg1 _ _
   exact h g cap w' ho1 hg1
end Go.Proofs.YtamjljhbnhdgdaaDoor

/- NumbersBytes: what the specification answers at every list. -/
namespace Go.Proofs.YtamjljhbnhdgdaaDoor
open Go.ChangeShapes Go.WideShapes Go.ChangeAt Go.RowKit
theorem Tryd.infZ5 : (Tryd.prog.info? 5).map (fun i => (i.zero, i.size, i.bytes)) = some (some (.int .u8 0), 1, 1) := by kernel_rfl
set_option maxHeartbeats 400000 in
set_option maxRecDepth 100000 in
theorem snums (a : Option Addr) (cap : Nat) (l : List Int) (hl : l.length ≤ 4096) (hfit : allFit l) (w : World) (hr : RowV w a (cI l)) :
  Calls Tryd.prog 34 #[.slice a l.length cap] w fun e w' => ∃ v', e = .returned v' ∧ w'.ownsRow w.heap.size 5 1 v' (numsL l).length (B8 (numsL l)) ∧ Below w.heap.size w w' := by
 obtain ⟨i0, hi, hz0, hz1, hz2⟩ := info_parts Tryd.infZ5
 have HR := hide hr
 have HCL := hide (cI_len l)
 have HFT := hide hfit
 clear hr hfit
 go_enter Tryd.func34, Tryd.ntmps34
 go_wp2_with fail
 go_loopw [3, 4] (fun v i wr => ∃ (k : Nat) (m : List UInt8) (g c : Nat), k ≤ l.length ∧ i = .int .i64 k ∧ Hid (m = numsL (l.take k)) ∧ m.length ≤ 12288 ∧ v = .slice (some ⟨g, 0, none⟩) m.length c ∧ Hid (wr.ownsRow w.heap.size 5 1 (.slice (some ⟨g, 0, none⟩) m.length c) m.length (B8 m)) ∧ Hid (Below w.heap.size w wr)) (fun _ i _ => l.length - (intOf i).toNat)
 case atStart => exact ⟨0, [], w.heap.size, 0, by omega, rfl, rfl, by simp, rfl, lit_empty w _ _ (Nat.le_refl _), (Below.refl _ _).alloc (Nat.le_refl _) _⟩
 case round =>
  obtain ⟨k, m, g, c, hk, rfl, HM, hm, rfl, HO, HB⟩ := hrel
  by_cases hlt : k < l.length
  ·obtain ⟨b, off, ha, hblt, hc⟩ := (unhide HR).at (by rw [unhide HCL]; omega)
   subst ha
   have hc1 : wr.cell? ⟨b, off + k, none⟩ = some (.int .i64 l[k]) := ((unhide HB).cell (p := ⟨b, off + k, none⟩) hblt).trans (hc k _ (cI_at l k hlt))
   have hlt' : (k : Int) < (l.length : Int) := by omega
   obtain ⟨n, hn, hn2, hn3⟩ := fit_nat _ (unhide HFT k hlt)
   have HN : Hid (numsL (l.take (k + 1)) = m ++ be n 3) := by show _ = _; rw [numsL_snoc l k hlt, unhide HM, hn3]
   have hz := (unhide HB).size
   rw [hn] at hc1
   clear hc hn hn3 HR HCL HM
   go_wp2_with fail
   refine (snumber n 3 (by omega) (by omega) _).mono ?_
   rintro e w2 ⟨v2, rfl, ho2, hb2⟩
   obtain ⟨a2, cap2, rfl, hr2⟩ := own_rowV ho2
   rw [be_len] at *
   have hown := (unhide HO).kept (row := none) ⟨hb2.os, hb2.tape, hb2.output, hb2.size, fun k hk _ => hb2.block k hk⟩ (.inr (by simp [Value.ownBlock]))
   have hr8 := rowV_8 hr2
   have HB2 := hide ((unhide HB).trans (hb2.mono hz))
   have hz2' := (unhide HB2).size
   clear ho2 hr2 HB HO hb2
   go_wp2_with (at_builtin; refine append_row8 _ rfl (.tmp 12) (.tmp 18) 22 rfl w.heap.size 5 i0 Tryd.underlying22 hi hz0 hz1 hz2 g m.length c (B8 m) rfl hown _ _ (be n 3) (by rw [be_len]; rfl) hr8 (by rw [be_len]; omega) (by omega) ?_; intro g3 c3 w3 hown3 hgrow3; have HB3 := hide ((unhide HB2).grown hgrow3 (by omega) (fun j hj => by have := (hown.lt j hj).1; omega)); have HO3 := hide (own_app (l := m) (m := be n 3) (n := (be n 3).length) hown3 rfl); rw [be_len] at HO3 ⊢; clear hown hown3 hgrow3 HB2 hr8)
   go_roundw
   case rel => exact ⟨k + 1, m ++ be n 3, g3, c3, by omega, by go_num, (unhide HN).symm, by rw [← unhide HN, numsL_len]; have := List.length_take_le (k + 1) l; omega, by rw [List.length_append, be_len], by rw [List.length_append, be_len] at *; exact HO3, HB3⟩
   case measure => simp [intOf]; omega
  ·rw [List.take_of_length_le (by omega)] at HM
   go_wp2_with fail
   go_ret
   rw [← unhide HM]
   exact ⟨_, rfl, unhide HO, unhide HB⟩
end Go.Proofs.YtamjljhbnhdgdaaDoor

/- FieldsBytes: what the specification answers at every list of texts. -/
namespace Go.Proofs.YtamjljhbnhdgdaaDoor
open Go.ChangeShapes Go.WideShapes Go.ChangeAt Go.RowKit
theorem Tryd.infG5 : (Tryd.prog.info? 5).map (fun i => (i.zero, i.size, i.bytes)) = some (some (.int .u8 0), 1, 1) := by kernel_rfl
theorem be1_own (w : World) (n : Nat) (t : TypeId) (hn : n < 256) : (w.alloc (.cells #[.int .u8 (n : Int)] t)).ownsRow w.heap.size t 1 (.slice (some ⟨w.heap.size, 0, none⟩) 1 1) (be n 1).length (B8 (be n 1)) := by
 have e : B8 (be n 1) = [.int .u8 (n : Int)] := by
  have : ((nb n 0).toNat : Int) = (n : Int) := by unfold nb; rw [UInt8.toNat_ofNat']; simp; omega
  simp [B8, be, this]
 rw [e]
 exact World.ownsRow_lit w #[.int .u8 (n : Int)] 1 (Nat.le_refl _) (by decide) rfl
set_option maxHeartbeats 400000 in
set_option maxRecDepth 100000 in
theorem sfields24 (a : Option Addr) (cap : Nat) (l : List ByteArray) (h60 : l.length ≤ 60) (hshort : allShort l) (hfull : ¬ 65536 < fsum l) (w : World) (hr : RowV w a (cS l)) :
  Calls Tryd.prog 33 #[.slice a l.length cap] w fun e w' => ∃ v', e = .returned v' ∧ w'.ownsRow w.heap.size 5 1 v' (be l.length 1 ++ fieldsL l).length (B8 (be l.length 1 ++ fieldsL l)) ∧ Below w.heap.size w w' := by
 obtain ⟨i0, hi, hz0, hz1, hz2⟩ := info_parts Tryd.infG5
 have HR := hide hr
 have HS := hide hshort
 have HFU := hide hfull
 have HCL := hide (cS_len l)
 clear hr hshort hfull
 go_enter Tryd.func33, Tryd.ntmps33
 go_wp2_with fail
 go_loopw [3, 4] (fun v i wr => ∃ (k : Nat) (m : List UInt8) (g c : Nat), k ≤ l.length ∧ i = .int .i64 k ∧ Hid (m = be l.length 1 ++ fieldsL (l.take k)) ∧ m.length ≤ 65536 ∧ v = .slice (some ⟨g, 0, none⟩) m.length c ∧ Hid (wr.ownsRow w.heap.size 5 1 (.slice (some ⟨g, 0, none⟩) m.length c) m.length (B8 m)) ∧ Hid (Below w.heap.size w wr)) (fun _ i _ => l.length - (intOf i).toNat)
 case atStart => exact ⟨0, be l.length 1, w.heap.size, 1, by omega, rfl, by show _ = _; simp [fieldsL], by rw [be_len]; decide, by rw [be_len], by rw [be_len]; exact be1_own w l.length _ (by omega), (Below.refl _ _).alloc (Nat.le_refl _) _⟩
 case round =>
  obtain ⟨k, m, g, c, hk, rfl, HM, hm, rfl, HO, HB⟩ := hrel
  by_cases hlt : k < l.length
  ·obtain ⟨b, off, ha, hblt, hc⟩ := (unhide HR).at (by rw [unhide HCL]; omega)
   subst ha
   have hc1 : wr.cell? ⟨b, off + k, none⟩ = some (.string l[k]) := ((unhide HB).cell (p := ⟨b, off + k, none⟩) hblt).trans (hc k _ (cS_at l k hlt))
   have hlt' : (k : Int) < (l.length : Int) := by omega
   have hlt0 : (0 : Int) ≤ (k : Int) := by omega
   have hsk := unhide HS k hlt
   have HM2 : Hid (m ++ be l[k].size 2 ++ l[k].data.toList = be l.length 1 ++ fieldsL (l.take (k + 1))) := by show _ = _; rw [fieldsL_snoc l k hlt, unhide HM]; simp [fieldB]
   have HLE : Hid ((m ++ be l[k].size 2 ++ l[k].data.toList).length ≤ 65536) := by
    show _ ≤ _
    have h1 := fsum_mono l (k + 1)
    have h2 := unhide HFU
    rw [unhide HM2, List.length_append, be_len]; unfold fsum at h1 h2; omega
   have hz := (unhide HB).size
   have hbw : b < wr.heap.size := Nat.lt_of_lt_of_le hblt hz
   clear hc HR HCL HM HS HFU
   have hg := (unhide HO).lt g rfl
   have hbg : ¬ b = g := by omega
   have hown := unhide HO
   have HBS := hide (unhide HB)
   clear HO HB
   go_wp2_with fail
   go_region_held3 (fun w' => w'.cell? ⟨b, off + k, none⟩ = some (.string l[k])) (go_keep) (first | (go_at_call 47; refine (snumber l[k].size 2 (by omega) (by decide) _).mono ?_; rintro e w2 ⟨v2, rfl, ho2, hb2⟩; rw [be_len] at ho2; obtain ⟨g2, cap2, rfl, hg2a, hg2b, hg2c, hg2d⟩ := own_some ho2 (by decide); have hc2 : w2.cell? ⟨b, off + k, none⟩ = some (.string l[k]) := (hb2.cell (p := ⟨b, off + k, none⟩) hbw).trans hc1; have hown2 := hown.kept (row := none) (w' := w2) ⟨hb2.os, hb2.tape, hb2.output, hb2.size, fun k hk _ => hb2.block k hk⟩ (.inr (by simp [Value.ownBlock])); have hz2' : wr.heap.size ≤ w2.heap.size := hb2.size; have HB2 := hide ((unhide HBS).trans (below_undrew (hb2.mono hz))); clear hb2 ho2) | (refine step_append_lies _ rfl (.tmp 15) (.tmp 21) 22 rfl w.heap.size 5 i0 (.int .u8 0) 1 1 Tryd.underlying22 hi hz0 hz1 hz2 rfl (by decide) _ _ _ rfl hown2 ⟨g2, 0, none⟩ 2 cap2 (B8 (be l[k].size 2)) rfl (by rw [B8_len, be_len]) hg2d (B8_one _) (by decide) (by unfold maxLen; omega) (by omega) (by omega) _ rfl ?_; intro g3 c3 w3 hown3 hgrow3 hat3 hlt3; have hc3 : w3.cell? ⟨b, off + k, none⟩ = some (.string l[k]) := (hgrow3.cell_far ⟨b, off + k, none⟩ (Nat.lt_of_lt_of_le hbw hz2') (fun e => hbg (Option.some.inj e))).trans hc2; have HB3 := hide ((unhide HB2).grown hgrow3 (by omega) (fun j hj => by have := (hown2.lt j hj).1; omega)); have hz3 : w2.heap.size ≤ w3.heap.size := hgrow3.size; have hown3' := own_app (l := m) (m := be l[k].size 2) hown3 (be_len _ _); clear hgrow3 hat3 hown3) | (refine step_append_string _ rfl (.tmp 22) (.tmp 26) 22 9 rfl w.heap.size 5 i0 Tryd.underlying22 Tryd.underlying9 hi hz0 hz1 hz2 _ _ _ rfl hown3' l[k] rfl (by rw [List.length_append, be_len]; unfold maxLen; omega) (by rw [List.length_append, be_len]; omega) (by omega) ?_; intro v5 w5 ho5 hg5 _; have hc5 : w5.cell? ⟨b, off + k, none⟩ = some (.string l[k]) := (hg5.cell_far ⟨b, off + k, none⟩ (Nat.lt_of_lt_of_le (Nat.lt_of_lt_of_le hbw hz2') hz3) (fun e => absurd (hown3'.lt b e.symm).1 (Nat.not_le.2 hblt))).trans hc3; have HB5 := hide ((unhide HB3).grown hg5 (by omega) (fun j hj => (hown3'.lt j hj).1)); have HO5 := hide (own_app ho5 (by rw [Array.length_toList]; rfl)); obtain ⟨g5, c5, rfl, -⟩ := own_some (unhide HO5) (by rw [List.length_append, List.length_append, be_len]; omega); clear ho5 hg5 hown3'))
   all_goals
    go_wp2_with fail
    go_roundw
    case rel => exact ⟨k + 1, m ++ be l[k].size 2 ++ l[k].data.toList, g5, c5, by omega, by go_num, unhide HM2, unhide HLE, by rw [List.length_append, List.length_append, Array.length_toList, Nat.add_assoc]; rfl, HO5, HB5⟩
    case measure => simp [intOf]; omega
  ·rw [List.take_of_length_le (by omega)] at HM
   go_wp2_with fail
   go_ret
   rw [← unhide HM]
   exact ⟨_, rfl, unhide HO, unhide HB⟩
end Go.Proofs.YtamjljhbnhdgdaaDoor
