/- NumbersBytes: what the specification answers at every list. -/
import Derived.Test.YtoapgccpaockfaaDoorNumbersM
import Derived.Test.YtoapgccpaockfaaDoorAppS
import Derived.Test.YtoapgccpaockfaaDoorAppendAny
namespace Go.Proofs.YtoapgccpaockfaaDoor
open Go.ChangeShapes Go.WideShapes Go.ChangeAt Go.RowKit
theorem in33 (x : Int) (w : World) :
    Calls Tryd.prog 32 #[.int .i64 x, .int .i64 (-1), .int .i64 16777214] w fun e w' => e = .returned (.bool (decide (-1 ≤ x ∧ x ≤ 16777214))) ∧ w' = w := by
  have hc : x < -1 ∨ (-1 ≤ x ∧ x ≤ 16777214) ∨ (-1 ≤ x ∧ 16777214 < x) := by omega
  have HV := hide (show decide (-1 ≤ x ∧ x ≤ 16777214) = decide (-1 ≤ x ∧ x ≤ 16777214) from rfl)
  rcases hc with c | ⟨c, d⟩ | ⟨c, d⟩
  all_goals
    go_enter Tryd.func32, Tryd.ntmps32
    go_wp2
    go_ret
    exact ⟨ret_bool (by first | rfl | (rw [Bool.eq_iff_iff]; simp <;> omega)), rfl⟩
set_option maxHeartbeats 400000 in
set_option maxRecDepth 100000 in
theorem sfits (a : Option Addr) (cap : Nat) (l : List Int) (hl : l.length ≤ 1048576) (w : World) (hr : RowV w a (cI l)) :
    Calls Tryd.prog 22 #[.slice a l.length cap] w fun e w' => e = .returned (.bool (fitB l)) ∧ w' = w := by
  have HR := hide hr
  have HCL := hide (cI_len l)
  clear hr
  go_enter Tryd.func22, Tryd.ntmps22
  go_wp2_with fail
  go_loop [3] (fun i => ∃ (k : Nat), k ≤ l.length ∧ i = .int .i64 k ∧ Hid (∀ q (h : q < l.length), q < k → fitsN l[q])) (fun i => l.length - (intOf i).toNat)
  case atStart => exact ⟨0, by omega, rfl, fun q _ h => absurd h (Nat.not_lt_zero _)⟩
  case round =>
    obtain ⟨k, hk, rfl, HF⟩ := hrel
    by_cases hlt : k < l.length
    · obtain ⟨b, off, ha, hblt, hc⟩ := (unhide HR).at (by rw [unhide HCL]; omega)
      subst ha
      have hc1 : w.cell? ⟨b, off + k, none⟩ = some (.int .i64 l[k]) := hc k _ (cI_at l k hlt)
      have hlt' : (k : Int) < (l.length : Int) := by omega
      by_cases hf : fitsN l[k]
      · have HF2 : Hid (∀ q (h : q < l.length), q < k + 1 → fitsN l[q]) := fun q h hq => by
          by_cases e : q = k
          · subst e; exact hf
          · exact unhide HF q h (by omega)
        have hd : decide (-1 ≤ l[k] ∧ l[k] ≤ 16777214) = true := decide_eq_true hf
        clear hc hf HR HCL HF
        go_wp2_with (go_at_call 32; refine (in33 _ _).mono ?_; rintro e w2 ⟨rfl, hw⟩; subst w2; rw [hd])
        go_round
        case rel => exact ⟨k + 1, by omega, by go_num, HF2⟩
        case measure => simp [intOf]; omega
      · have hd : decide (-1 ≤ l[k] ∧ l[k] ≤ 16777214) = false := decide_eq_false hf
        have HV : Hid (fitB l = false) := by show _ = _; rw [Bool.eq_false_iff]; exact fun e => hf ((fitB_iff l).1 e k hlt)
        clear hc hf
        go_wp2_with (go_at_call 32; refine (in33 _ _).mono ?_; rintro e w2 ⟨rfl, hw⟩; subst w2; rw [hd])
        go_ret
        exact ⟨ret_bool (unhide HV).symm, rfl⟩
    · have HV : Hid (fitB l = true) := (fitB_iff l).2 fun q hq => unhide HF q hq (by omega)
      go_wp2_with fail
      go_ret
      exact ⟨ret_bool (unhide HV).symm, rfl⟩
theorem Tryd.infZ5 : (Tryd.prog.info? 5).map (fun i => (i.zero, i.size, i.bytes)) = some (some (.int .u8 0), 1, 1) := by kernel_rfl
set_option maxHeartbeats 400000 in
set_option maxRecDepth 100000 in
theorem snums (a : Option Addr) (cap : Nat) (l : List Int) (hl : l.length ≤ 4096) (hfit : allFit l) (w : World) (hr : RowV w a (cI l)) :
    Calls Tryd.prog 23 #[.slice a l.length cap] w fun e w' => ∃ v', e = .returned v' ∧ w'.ownsRow w.heap.size 5 1 v' (numsL l).length (B8 (numsL l)) ∧ Below w.heap.size w w' := by
  obtain ⟨i0, hi, hz0, hz1, hz2⟩ := info_parts Tryd.infZ5
  have HR := hide hr
  have HCL := hide (cI_len l)
  have HFT := hide hfit
  clear hr hfit
  go_enter Tryd.func23, Tryd.ntmps23
  go_wp2_with fail
  go_loopw [3, 4] (fun v i wr => ∃ (k : Nat) (m : List UInt8) (g c : Nat), k ≤ l.length ∧ i = .int .i64 k ∧ Hid (m = numsL (l.take k)) ∧ m.length ≤ 12288 ∧ v = .slice (some ⟨g, 0, none⟩) m.length c ∧ Hid (wr.ownsRow w.heap.size 5 1 (.slice (some ⟨g, 0, none⟩) m.length c) m.length (B8 m)) ∧ Hid (Below w.heap.size w wr)) (fun _ i _ => l.length - (intOf i).toNat)
  case atStart => exact ⟨0, [], w.heap.size, 0, by omega, rfl, rfl, by simp, rfl, lit_empty w _ _ (Nat.le_refl _), (Below.refl _ _).alloc (Nat.le_refl _) _⟩
  case round =>
    obtain ⟨k, m, g, c, hk, rfl, HM, hm, rfl, HO, HB⟩ := hrel
    by_cases hlt : k < l.length
    · obtain ⟨b, off, ha, hblt, hc⟩ := (unhide HR).at (by rw [unhide HCL]; omega)
      subst ha
      have hc1 : wr.cell? ⟨b, off + k, none⟩ = some (.int .i64 l[k]) := ((unhide HB).cell (p := ⟨b, off + k, none⟩) hblt).trans (hc k _ (cI_at l k hlt))
      have hlt' : (k : Int) < (l.length : Int) := by omega
      obtain ⟨n, hn, hn2, hn3⟩ := fit_nat _ (unhide HFT k hlt)
      have HN : Hid (numsL (l.take (k + 1)) = m ++ be n 3) := by show _ = _; rw [numsL_snoc l k hlt, unhide HM, hn3]
      have hz := (unhide HB).size
      rw [hn] at hc1
      clear hc hn hn3 HR HCL HM
      go_wp2_with fail
      refine (snumber n 3 (by omega) (by omega) _).mono ?_
      rintro e w2 ⟨v2, rfl, ho2, hb2⟩
      obtain ⟨a2, cap2, rfl, hr2⟩ := own_rowV ho2
      rw [be_len] at *
      have hown := (unhide HO).kept (row := none) ⟨hb2.os, hb2.tape, hb2.output, hb2.size, fun k hk _ => hb2.block k hk⟩ (.inr (by simp [Value.ownBlock]))
      have hr8 := rowV_8 hr2
      have HB2 := hide ((unhide HB).trans (hb2.mono hz))
      have hz2' := (unhide HB2).size
      clear ho2 hr2 HB HO hb2
      go_wp2_with (at_builtin; refine append_row8 _ rfl (.tmp 12) (.tmp 18) 22 rfl w.heap.size 5 i0 Tryd.underlying22 hi hz0 hz1 hz2 g m.length c (B8 m) rfl hown _ _ (be n 3) (by rw [be_len]; rfl) hr8 (by rw [be_len]; omega) (by omega) ?_; intro g3 c3 w3 hown3 hgrow3; have HB3 := hide ((unhide HB2).grown hgrow3 (by omega) (fun j hj => by have := (hown.lt j hj).1; omega)); have HO3 := hide (own_app (l := m) (m := be n 3) (n := (be n 3).length) hown3 rfl); rw [be_len] at HO3 ⊢; clear hown hown3 hgrow3 HB2 hr8)
      go_roundw
      case rel => exact ⟨k + 1, m ++ be n 3, g3, c3, by omega, by go_num, (unhide HN).symm, by rw [← unhide HN, numsL_len]; have := List.length_take_le (k + 1) l; omega, by rw [List.length_append, be_len], by rw [List.length_append, be_len] at *; exact HO3, HB3⟩
      case measure => simp [intOf]; omega
    · rw [List.take_of_length_le (by omega)] at HM
      go_wp2_with fail
      go_ret
      rw [← unhide HM]
      exact ⟨_, rfl, unhide HO, unhide HB⟩
theorem snumbers (a : Option Addr) (cap : Nat) (l : List Int) (hl : l.length ≤ 1048576) (w : World) (hr : RowV w a (cI l)) :
    Calls Tryd.prog 11 #[.slice a l.length cap] w fun e w' => ∃ v', e = .returned (.tuple #[v', .int .i64 (nbC l)]) ∧ w'.ownsRow w.heap.size 5 1 v' (nbL l).length (B8 (nbL l)) ∧ Below w.heap.size w w' := by
  have HR := hide hr
  clear hr
  by_cases long : 4096 < l.length
  · have HV := hide (nb_long long)
    go_enter Tryd.func11, Tryd.ntmps11
    go_wp2_with fail
    go_ret2
    rw [(unhide HV).1, (unhide HV).2]
    exact ⟨_, rfl, lit_empty _ _ _ (Nat.le_refl _), (Below.refl _ _).alloc (Nat.le_refl _) _⟩
  by_cases hf : fitB l = true
  · have HF := hide ((fitB_iff l).1 hf)
    have HV := hide (nb_ok long (unhide HF))
    go_enter Tryd.func11, Tryd.ntmps11
    go_wp2_with (first | (go_at_call 22; refine (sfits _ _ l (by omega) _ (unhide HR)).mono ?_; rintro e w2 ⟨rfl, hw⟩; subst w2; rw [hf]) | (go_at_call 23; refine (snums _ _ l (by omega) (unhide HF) _ (unhide HR)).mono ?_; rintro e w2 ⟨v2, rfl, ho2, hb2⟩))
    go_ret2
    rw [(unhide HV).1, (unhide HV).2]
    exact ⟨_, rfl, ho2, hb2⟩
  · have hf' : fitB l = false := by simpa using hf
    have HV := hide (nb_bad long (fun h => hf ((fitB_iff l).2 h)))
    go_enter Tryd.func11, Tryd.ntmps11
    go_wp2_with (go_at_call 22; refine (sfits _ _ l (by omega) _ (unhide HR)).mono ?_; rintro e w2 ⟨rfl, hw⟩; subst w2; rw [hf'])
    go_ret2
    rw [(unhide HV).1, (unhide HV).2]
    exact ⟨_, rfl, lit_empty _ _ _ (Nat.le_refl _), (Below.refl _ _).alloc (Nat.le_refl _) _⟩
theorem snumbersH (a : Option Addr) (cap : Nat) (l : List Int) (r : List UInt8) (c : Int) (hr : r = nbL l) (hc : c = nbC l) (hl : l.length ≤ 1048576) (w : World) (hrow : RowV w a (cI l)) :
    Calls Tryd.prog 11 #[.slice a l.length cap] w fun e w' => ∃ v', e = .returned (.tuple #[v', .int .i64 c]) ∧ w'.ownsRow w.heap.size 5 1 v' r.length (B8 r) ∧ Below w.heap.size w w' := by
  subst hr hc; exact snumbers a cap l hl w hrow
end Go.Proofs.YtoapgccpaockfaaDoor
