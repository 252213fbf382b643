/- ScreenOK: what the specification answers at every screen. -/
import Derived.Test.YtpcdjpfffanlbaaDoorZG31
import Derived.Test.YtpcdjpfffanlbaaDoorZCelS
namespace Go.Proofs.YtpcdjpfffanlbaaDoor
open Go.ChangeShapes Go.WideShapes Go.ChangeAt Go.RowKit
set_option linter.unusedVariables false
set_option maxHeartbeats 400000 in
set_option maxRecDepth 100000 in
theorem sok0 (i0 i1 i2 i3 i4 i5 i6 i7 i8 : Int) (g1 : sizeB i0 i1 = false) (t : ByteArray) (a : Option Addr) (cap : Nat) (l : List (Int × Int)) (b : Option Addr) (capb : Nat) (m : List ByteArray) (w : World) :
  Calls Tryd.prog 26 #[.agg #[.int .i64 i0, .int .i64 i1, .int .i64 i2, .int .i64 i3, .int .i64 i4, .int .i64 i5, .int .i64 i6, .int .i64 i7, .int .i64 i8, .string t, .slice a l.length cap, .slice b m.length capb]] w fun e w' => e = .returned (.bool (okB i0 i1 i2 i3 i4 i5 i6 i7 i8 t.data.toList l m)) ∧ Below w.heap.size w w' := by
 have HB0 := hide ((Below.refl w.heap.size w).alloc (Nat.le_refl _) (.cells #[.int .i64 i0, .int .i64 i1, .int .i64 i2, .int .i64 i3, .int .i64 i4, .int .i64 i5, .int .i64 i6, .int .i64 i7, .int .i64 i8, .string t, .slice a l.length cap, .slice b m.length capb] 26))
 have HV : Hid (okB i0 i1 i2 i3 i4 i5 i6 i7 i8 t.data.toList l m = false) := by show _ = _; unfold okB; rw [g1]; rfl
 go_enter Tryd.func26, Tryd.ntmps26
 simp only [List.append_eq, List.cons_append, List.nil_append]
 go_wp2_with (go_at_call 24; refine (ssize _ _ _).mono ?_; rintro e w2 ⟨rfl, rfl⟩; rw [g1])
 go_ret
 exact ⟨ret_bool (unhide HV).symm, unhide HB0⟩
set_option maxHeartbeats 8000000 in
set_option maxRecDepth 100000 in
theorem sok1 (W H : Nat) (i2 i3 i4 i5 i6 i7 i8 : Int) (g1 : sizeB (W : Int) (H : Int) = true) (t : ByteArray) (a : Option Addr) (cap : Nat) (l : List (Int × Int)) (b : Option Addr) (capb : Nat) (m : List ByteArray) (ht : t.size ≤ 1048576) (hl : l.length ≤ 1048576) (hm : m.length ≤ 1048576) (hz : ∀ k (h : k < m.length), m[k].size ≤ 1048576) (w : World) (hr : RowV w a (cP l)) (hs : RowV w b (cS m)) :
  Calls Tryd.prog 26 #[.agg #[.int .i64 (W : Int), .int .i64 (H : Int), .int .i64 i2, .int .i64 i3, .int .i64 i4, .int .i64 i5, .int .i64 i6, .int .i64 i7, .int .i64 i8, .string t, .slice a l.length cap, .slice b m.length capb]] w fun e w' => e = .returned (.bool (okB (W : Int) (H : Int) i2 i3 i4 i5 i6 i7 i8 t.data.toList l m)) ∧ Below w.heap.size w w' := by
 have HB0 := hide ((Below.refl w.heap.size w).alloc (Nat.le_refl _) (.cells #[.int .i64 (W : Int), .int .i64 (H : Int), .int .i64 i2, .int .i64 i3, .int .i64 i4, .int .i64 i5, .int .i64 i6, .int .i64 i7, .int .i64 i8, .string t, .slice a l.length cap, .slice b m.length capb] 26))
 have K : ∀ o, (w.alloc (.cells #[.int .i64 (W : Int), .int .i64 (H : Int), .int .i64 i2, .int .i64 i3, .int .i64 i4, .int .i64 i5, .int .i64 i6, .int .i64 i7, .int .i64 i8, .string t, .slice a l.length cap, .slice b m.length capb] 26)).cell? ⟨w.heap.size, o, none⟩ = (#[.int .i64 (W : Int), .int .i64 (H : Int), .int .i64 i2, .int .i64 i3, .int .i64 i4, .int .i64 i5, .int .i64 i6, .int .i64 i7, .int .i64 i8, .string t, .slice a l.length cap, .slice b m.length capb] : Array Value)[o]? := fun o => World.cell?_alloc_mark w _ _ _ o
 have hsz : (2 : Int) ≤ W ∧ (W : Int) ≤ 24 ∧ (2 : Int) ≤ H ∧ (H : Int) ≤ 10 := of_decide_eq_true g1
 have hW : W ≤ 24 := by omega
 have hH : H ≤ 10 := by omega
 have hW2 : 2 ≤ W := by omega
 have hH2 : 2 ≤ H := by omega
 have HT := hide ht
 have HL := hide hl
 have HM := hide hm
 have HZ := hide hz
 have HR := hide hr
 have HS := hide hs
 obtain ⟨p, hp⟩ : ∃ p, p = W * H := ⟨_, rfl⟩
 have p1 : (W : Int) * (H : Int) = (p : Int) := by rw [hp]; simp
 have p2 : p ≤ 240 := by rw [hp]; exact Nat.mul_le_mul hW hH
 clear hz hr hs hsz hp
 cases g2 : inB i2 0 (W : Int)
 ·skip
  have HV : Hid (okB (W : Int) (H : Int) i2 i3 i4 i5 i6 i7 i8 t.data.toList l m = false) := by show _ = _; unfold okB placeB areaB titleB cellsB histB; rw [g2]; simp
  go_enter Tryd.func26, Tryd.ntmps26
  simp only [List.append_eq, List.cons_append, List.nil_append]
  go_wp2_with (first | (go_at_call 24; refine (ssize _ _ _).mono ?_; rintro e w2 ⟨rfl, rfl⟩; rw [g1]) | (go_at_call 40; refine (sin _ _ _ _).mono ?_; rintro e w2 ⟨rfl, rfl⟩; first | rw [g2]))
  go_ret
  exact ⟨ret_bool (unhide HV).symm, unhide HB0⟩
 ·skip
  cases g3 : inB i3 0 ((H : Int) - 1)
  ·skip
   have HV : Hid (okB (W : Int) (H : Int) i2 i3 i4 i5 i6 i7 i8 t.data.toList l m = false) := by show _ = _; unfold okB placeB areaB titleB cellsB histB; rw [g3]; simp
   go_enter Tryd.func26, Tryd.ntmps26
   simp only [List.append_eq, List.cons_append, List.nil_append]
   go_wp2_with (first | (go_at_call 24; refine (ssize _ _ _).mono ?_; rintro e w2 ⟨rfl, rfl⟩; rw [g1]) | (go_at_call 40; refine (sin _ _ _ _).mono ?_; rintro e w2 ⟨rfl, rfl⟩; first | rw [g2] | rw [g3]))
   go_ret
   exact ⟨ret_bool (unhide HV).symm, unhide HB0⟩
  ·skip
   cases g4 : inB i4 0 127
   ·skip
    have HV : Hid (okB (W : Int) (H : Int) i2 i3 i4 i5 i6 i7 i8 t.data.toList l m = false) := by show _ = _; unfold okB placeB areaB titleB cellsB histB; rw [g4]; simp
    go_enter Tryd.func26, Tryd.ntmps26
    simp only [List.append_eq, List.cons_append, List.nil_append]
    go_wp2_with (first | (go_at_call 24; refine (ssize _ _ _).mono ?_; rintro e w2 ⟨rfl, rfl⟩; rw [g1]) | (go_at_call 40; refine (sin _ _ _ _).mono ?_; rintro e w2 ⟨rfl, rfl⟩; first | rw [g2] | rw [g3] | rw [g4]))
    go_ret
    exact ⟨ret_bool (unhide HV).symm, unhide HB0⟩
   ·skip
    cases g5 : inB i5 0 ((H : Int) - 2)
    ·skip
     have HV : Hid (okB (W : Int) (H : Int) i2 i3 i4 i5 i6 i7 i8 t.data.toList l m = false) := by show _ = _; unfold okB placeB areaB titleB cellsB histB; rw [g5]; simp
     go_enter Tryd.func26, Tryd.ntmps26
     simp only [List.append_eq, List.cons_append, List.nil_append]
     go_wp2_with (first | (go_at_call 24; refine (ssize _ _ _).mono ?_; rintro e w2 ⟨rfl, rfl⟩; rw [g1]) | (go_at_call 40; refine (sin _ _ _ _).mono ?_; rintro e w2 ⟨rfl, rfl⟩; first | rw [g2] | rw [g3] | rw [g4] | rw [g5]))
     go_ret
     exact ⟨ret_bool (unhide HV).symm, unhide HB0⟩
    ·skip
     have k5 : 0 ≤ i5 ∧ i5 ≤ (H : Int) - 2 := of_decide_eq_true g5
     obtain ⟨k5a, k5b⟩ := k5
     cases g6 : inB i6 (i5 + 1) ((H : Int) - 1)
     ·skip
      have HV : Hid (okB (W : Int) (H : Int) i2 i3 i4 i5 i6 i7 i8 t.data.toList l m = false) := by show _ = _; unfold okB placeB areaB titleB cellsB histB; rw [g6]; simp
      go_enter Tryd.func26, Tryd.ntmps26
      simp only [List.append_eq, List.cons_append, List.nil_append]
      go_wp2_with (first | (go_at_call 24; refine (ssize _ _ _).mono ?_; rintro e w2 ⟨rfl, rfl⟩; rw [g1]) | (go_at_call 40; refine (sin _ _ _ _).mono ?_; rintro e w2 ⟨rfl, rfl⟩; first | rw [g2] | rw [g3] | rw [g4] | rw [g5] | rw [g6]))
      go_ret
      exact ⟨ret_bool (unhide HV).symm, unhide HB0⟩
     ·skip
      cases g7 : inB i7 0 (W : Int)
      ·skip
       have HV : Hid (okB (W : Int) (H : Int) i2 i3 i4 i5 i6 i7 i8 t.data.toList l m = false) := by show _ = _; unfold okB placeB areaB titleB cellsB histB; rw [g7]; simp
       go_enter Tryd.func26, Tryd.ntmps26
       simp only [List.append_eq, List.cons_append, List.nil_append]
       go_wp2_with (first | (go_at_call 24; refine (ssize _ _ _).mono ?_; rintro e w2 ⟨rfl, rfl⟩; rw [g1]) | (go_at_call 40; refine (sin _ _ _ _).mono ?_; rintro e w2 ⟨rfl, rfl⟩; first | rw [g2] | rw [g3] | rw [g4] | rw [g5] | rw [g6] | rw [g7]))
       go_ret
       exact ⟨ret_bool (unhide HV).symm, unhide HB0⟩
      ·skip
       cases g8 : inB i8 0 ((H : Int) - 1)
       ·skip
        have HV : Hid (okB (W : Int) (H : Int) i2 i3 i4 i5 i6 i7 i8 t.data.toList l m = false) := by show _ = _; unfold okB placeB areaB titleB cellsB histB; rw [g8]; simp
        go_enter Tryd.func26, Tryd.ntmps26
        simp only [List.append_eq, List.cons_append, List.nil_append]
        go_wp2_with (first | (go_at_call 24; refine (ssize _ _ _).mono ?_; rintro e w2 ⟨rfl, rfl⟩; rw [g1]) | (go_at_call 40; refine (sin _ _ _ _).mono ?_; rintro e w2 ⟨rfl, rfl⟩; first | rw [g2] | rw [g3] | rw [g4] | rw [g5] | rw [g6] | rw [g7] | rw [g8]))
        go_ret
        exact ⟨ret_bool (unhide HV).symm, unhide HB0⟩
       ·skip
        by_cases g9 : t.size ≤ 40
        rotate_left
        ·have d9 : decide (t.data.toList.length ≤ 40) = false := decide_eq_false (by rw [text_len]; exact g9)
         have e9 : (40 : Int) < (t.size : Int) := by omega
         have HV : Hid (okB (W : Int) (H : Int) i2 i3 i4 i5 i6 i7 i8 t.data.toList l m = false) := by show _ = _; unfold okB placeB areaB titleB cellsB histB; rw [d9]; simp
         go_enter Tryd.func26, Tryd.ntmps26
         simp only [List.append_eq, List.cons_append, List.nil_append]
         go_wp2_with (first | (go_at_call 24; refine (ssize _ _ _).mono ?_; rintro e w2 ⟨rfl, rfl⟩; rw [g1]) | (go_at_call 40; refine (sin _ _ _ _).mono ?_; rintro e w2 ⟨rfl, rfl⟩; first | rw [g2] | rw [g3] | rw [g4] | rw [g5] | rw [g6] | rw [g7] | rw [g8]))
         go_ret
         exact ⟨ret_bool (unhide HV).symm, unhide HB0⟩
        have e9 : ¬ (40 : Int) < (t.size : Int) := by omega
        by_cases g10 : l.length = p
        rotate_left
        ·have d10 : decide ((l.length : Int) = (W : Int) * (H : Int)) = false := decide_eq_false (by rw [p1]; omega)
         have e10 : ((l.length : Int) != (p : Int)) = true := by rw [bne_iff_ne]; omega
         have HV : Hid (okB (W : Int) (H : Int) i2 i3 i4 i5 i6 i7 i8 t.data.toList l m = false) := by show _ = _; unfold okB placeB areaB titleB cellsB histB; rw [d10]; simp
         clear g10
         go_enter Tryd.func26, Tryd.ntmps26
         simp only [List.append_eq, List.cons_append, List.nil_append]
         go_wp2_with (first | (go_at_call 24; refine (ssize _ _ _).mono ?_; rintro e w2 ⟨rfl, rfl⟩; rw [g1]) | (go_at_call 40; refine (sin _ _ _ _).mono ?_; rintro e w2 ⟨rfl, rfl⟩; first | rw [g2] | rw [g3] | rw [g4] | rw [g5] | rw [g6] | rw [g7] | rw [g8]))
         go_ret
         exact ⟨ret_bool (unhide HV).symm, unhide HB0⟩
        have e10 : ((l.length : Int) != (p : Int)) = false := by rw [bne_eq_false_iff_eq]; omega
        have D10 : Hid (decide ((l.length : Int) = (W : Int) * (H : Int)) = true) := decide_eq_true (by rw [p1, g10])
        clear g10
        by_cases g11 : m.length ≤ 6
        rotate_left
        ·have d11 : decide (m.length ≤ 6) = false := decide_eq_false g11
         have e11 : (6 : Int) < (m.length : Int) := by omega
         have HV : Hid (okB (W : Int) (H : Int) i2 i3 i4 i5 i6 i7 i8 t.data.toList l m = false) := by show _ = _; unfold okB placeB areaB titleB cellsB histB; rw [d11]; simp
         go_enter Tryd.func26, Tryd.ntmps26
         simp only [List.append_eq, List.cons_append, List.nil_append]
         go_wp2_with (first | (go_at_call 24; refine (ssize _ _ _).mono ?_; rintro e w2 ⟨rfl, rfl⟩; rw [g1]) | (go_at_call 40; refine (sin _ _ _ _).mono ?_; rintro e w2 ⟨rfl, rfl⟩; first | rw [g2] | rw [g3] | rw [g4] | rw [g5] | rw [g6] | rw [g7] | rw [g8]))
         go_ret
         exact ⟨ret_bool (unhide HV).symm, unhide HB0⟩
        have e11 : ¬ (6 : Int) < (m.length : Int) := by omega
        go_enter Tryd.func26, Tryd.ntmps26
        simp only [List.append_eq, List.cons_append, List.nil_append]
        go_wp2_with (first | (go_at_call 24; refine (ssize _ _ _).mono ?_; rintro e w2 ⟨rfl, rfl⟩; rw [g1]) | (go_at_call 40; refine (sin _ _ _ _).mono ?_; rintro e w2 ⟨rfl, rfl⟩; first | rw [g2] | rw [g3] | rw [g4] | rw [g5] | rw [g6] | rw [g7] | rw [g8]))
        clear e9 e10 e11
        go_loopw [3] (fun i wr => ∃ k : Nat, k ≤ t.size ∧ i = .int .i64 k ∧ wr = w.alloc (.cells #[.int .i64 (W : Int), .int .i64 (H : Int), .int .i64 i2, .int .i64 i3, .int .i64 i4, .int .i64 i5, .int .i64 i6, .int .i64 i7, .int .i64 i8, .string t, .slice a l.length cap, .slice b m.length capb] 26) ∧ Hid (∀ q (h : q < t.size), q < k → inB (t[q].toNat : Int) 32 126 = true)) (fun i _ => t.size - (intOf i).toNat)
        case atStart => exact ⟨0, by omega, rfl, rfl, fun q _ h => absurd h (Nat.not_lt_zero _)⟩
        case round =>
         obtain ⟨k, hk, rfl, rfl, HF⟩ := hrel
         by_cases hlt : k < t.size
         ·have hlt' : (k : Int) < (t.size : Int) := by omega
          have hb : (t[k].toNat : Int) ≤ 255 := by have := t[k].toNat_lt; omega
          cases h1 : inB (t[k].toNat : Int) 32 126
          ·have HV : Hid (okB (W : Int) (H : Int) i2 i3 i4 i5 i6 i7 i8 t.data.toList l m = false) := by show _ = _; unfold okB titleB; rw [text_bad hlt h1]; simp
           clear HF
           go_wp2_with (go_at_call 40; refine (sin _ _ _ _).mono ?_; rintro e w2 ⟨rfl, rfl⟩; rw [h1])
           go_ret
           exact ⟨ret_bool (unhide HV).symm, unhide HB0⟩
          ·have HF2 : Hid (∀ q (h : q < t.size), q < k + 1 → inB (t[q].toNat : Int) 32 126 = true) := fun q h hq => by
            by_cases e : q = k
            ·subst e; exact h1
            ·exact unhide HF q h (by omega)
           clear HF
           go_wp2_with (go_at_call 40; refine (sin _ _ _ _).mono ?_; rintro e w2 ⟨rfl, rfl⟩; rw [h1])
           go_roundw
           case rel => exact ⟨k + 1, by omega, by go_num, by first | rfl | trivial, HF2⟩
           case measure => simp [intOf]; omega
         ·have HT2 : Hid (titleB t.data.toList = true) := by
           show _ = _; unfold titleB; rw [text_take_all fun q hq => unhide HF q hq (by omega)]; simp; omega
          clear HF
          go_wp2_with fail
          go_loopw [4] (fun i wr => ∃ k : Nat, k ≤ l.length ∧ i = .int .i64 k ∧ Hid (Below (w.heap.size + 1) (w.alloc (.cells #[.int .i64 (W : Int), .int .i64 (H : Int), .int .i64 i2, .int .i64 i3, .int .i64 i4, .int .i64 i5, .int .i64 i6, .int .i64 i7, .int .i64 i8, .string t, .slice a l.length cap, .slice b m.length capb] 26)) wr) ∧ Hid (∀ q (h : q < l.length), q < k → cellB l[q] = true)) (fun i _ => l.length - (intOf i).toNat)
          case atStart => exact ⟨0, by omega, rfl, Below.refl _ _, fun q _ h => absurd h (Nat.not_lt_zero _)⟩
          case round =>
           obtain ⟨k2, hk2, rfl, HB, HF⟩ := hrel
           have K2 : ∀ o, wr.cell? ⟨w.heap.size, o, none⟩ = (#[.int .i64 (W : Int), .int .i64 (H : Int), .int .i64 i2, .int .i64 i3, .int .i64 i4, .int .i64 i5, .int .i64 i6, .int .i64 i7, .int .i64 i8, .string t, .slice a l.length cap, .slice b m.length capb] : Array Value)[o]? := fun o => ((unhide HB).cell (p := ⟨w.heap.size, o, none⟩) (Nat.lt_succ_self _)).trans (K o)
           by_cases hlt2 : k2 < l.length
           ·obtain ⟨b1, off, ha, hblt, hc⟩ := (unhide HR).at (by rw [cP_len]; omega)
            subst ha
            obtain ⟨x0, x1⟩ := row_two hc k2 hlt2
            obtain ⟨x, ex⟩ : ∃ x, x = l[k2].1 := ⟨_, rfl⟩
            obtain ⟨y, ey⟩ : ∃ y, y = l[k2].2 := ⟨_, rfl⟩
            have HXY : Hid (cellB l[k2] = (runeB x && inB y 0 127)) := by show _ = _; rw [ex, ey]; rfl
            rw [← ex] at x0
            rw [← ey] at x1
            have HBW := hide ((unhide HB0).trans ((unhide HB).mono (Nat.le_succ _)))
            have hx0 : wr.cell? ⟨b1, off + k2 * 2, none⟩ = some (.int .i64 x) := ((unhide HBW).cell (p := ⟨b1, off + k2 * 2, none⟩) hblt).trans x0
            have hx1 : wr.cell? ⟨b1, off + k2 * 2 + 1, none⟩ = some (.int .i64 y) := ((unhide HBW).cell (p := ⟨b1, off + k2 * 2 + 1, none⟩) hblt).trans x1
            have hlt' : (k2 : Int) < (l.length : Int) := by omega
            clear hc x0 x1 ex ey hlt
            have HZW : Hid (w.heap.size + 1 ≤ wr.heap.size) := by have := (unhide HB).size; simp at this; exact this
            cases h1 : (runeB x && inB y 0 127)
            ·have HV : Hid (okB (W : Int) (H : Int) i2 i3 i4 i5 i6 i7 i8 t.data.toList l m = false) := by show _ = _; unfold okB cellsB; rw [all_bad hlt2 (by rw [unhide HXY, h1])]; simp
             clear HF
             go_wp2_with (go_at_call 41; refine (scell x y _).mono ?_; rintro e w2 ⟨rfl, hb2⟩; rw [h1]; have HB2 := hide ((unhide HBW).trans (hb2.mono (unhide HBW).size)); clear hb2)
             go_ret
             exact ⟨ret_bool (unhide HV).symm, unhide HB2⟩
            ·have HF2 : Hid (∀ q (h : q < l.length), q < k2 + 1 → cellB l[q] = true) := fun q h hq => by
              by_cases e : q = k2
              ·subst e; rw [unhide HXY, h1]
              ·exact unhide HF q h (by omega)
             clear HF
             go_wp2_with (go_at_call 41; refine (scell x y _).mono ?_; rintro e w2 ⟨rfl, hb2⟩; rw [h1]; have HB2 := hide ((unhide HB).trans (hb2.mono (unhide HZW))); clear hb2)
             go_roundw
             case rel => exact ⟨k2 + 1, by omega, by go_num, HB2, HF2⟩
             case measure => simp [intOf]; omega
           ·have HC2 : Hid (cellsB (W : Int) (H : Int) l = true) := by show _ = _; unfold cellsB; rw [all_take fun q hq => unhide HF q hq (by omega), unhide D10]; rfl
            have HBW := hide ((unhide HB0).trans ((unhide HB).mono (Nat.le_succ _)))
            clear HF
            go_wp2_with fail
            go_loopw [5] (fun i wr2 => ∃ k : Nat, k ≤ m.length ∧ i = .int .i64 k ∧ wr2 = wr ∧ Hid (∀ q (h : q < m.length), q < k → decide (m[q].size ≤ 96) = true)) (fun i _ => m.length - (intOf i).toNat)
            case atStart => exact ⟨0, by omega, rfl, rfl, fun q _ h => absurd h (Nat.not_lt_zero _)⟩
            case round =>
             obtain ⟨k3, hk3, rfl, e3, HF⟩ := hrel
             subst e3
             by_cases hlt3 : k3 < m.length
             ·obtain ⟨b1, off, ha, hblt, hc⟩ := (unhide HS).at (by rw [cS_len]; omega)
              subst ha
              have hc1 := ((unhide HBW).cell (p := ⟨b1, off + k3, none⟩) hblt).trans (hc k3 _ (cS_at m k3 hlt3))
              have hlt' : (k3 : Int) < (m.length : Int) := by omega
              have hszk := unhide HZ k3 hlt3
              by_cases h1 : m[k3].size ≤ 96
              ·have HF2 : Hid (∀ q (h : q < m.length), q < k3 + 1 → decide (m[q].size ≤ 96) = true) := fun q h hq => by
                by_cases e : q = k3
                ·subst e; exact decide_eq_true h1
                ·exact unhide HF q h (by omega)
               have h1' : ¬ (96 : Int) < (m[k3].size : Int) := by omega
               clear HF hc
               go_wp2_with fail
               go_roundw
               case rel => exact ⟨k3 + 1, by omega, by go_num, by first | rfl | trivial, HF2⟩
               case measure => simp [intOf]; omega
              ·have HV : Hid (okB (W : Int) (H : Int) i2 i3 i4 i5 i6 i7 i8 t.data.toList l m = false) := by show _ = _; unfold okB histB; rw [all_bad hlt3 (decide_eq_false h1)]; simp
               have h1' : (96 : Int) < (m[k3].size : Int) := by omega
               clear HF hc
               go_wp2_with fail
               go_ret
               exact ⟨ret_bool (unhide HV).symm, unhide HBW⟩
             ·have HV : Hid (okB (W : Int) (H : Int) i2 i3 i4 i5 i6 i7 i8 t.data.toList l m = true) := by
               show _ = _; unfold okB placeB areaB histB; rw [g1, g2, g3, g4, g5, g6, g7, g8, unhide HT2, unhide HC2, all_take fun q hq => unhide HF q hq (by omega), decide_eq_true g11]; rfl
              clear HF
              go_wp2_with fail
              go_ret
              exact ⟨ret_bool (unhide HV).symm, unhide HBW⟩
theorem sok (i0 i1 i2 i3 i4 i5 i6 i7 i8 : Int) (t : ByteArray) (a : Option Addr) (cap : Nat) (l : List (Int × Int)) (b : Option Addr) (capb : Nat) (m : List ByteArray) (ht : t.size ≤ 1048576) (hl : l.length ≤ 1048576) (hm : m.length ≤ 1048576) (hz : ∀ k (h : k < m.length), m[k].size ≤ 1048576) (w : World) (hr : RowV w a (cP l)) (hs : RowV w b (cS m)) :
  Calls Tryd.prog 26 #[.agg #[.int .i64 i0, .int .i64 i1, .int .i64 i2, .int .i64 i3, .int .i64 i4, .int .i64 i5, .int .i64 i6, .int .i64 i7, .int .i64 i8, .string t, .slice a l.length cap, .slice b m.length capb]] w fun e w' => e = .returned (.bool (okB i0 i1 i2 i3 i4 i5 i6 i7 i8 t.data.toList l m)) ∧ Below w.heap.size w w' := by
 cases h1 : sizeB i0 i1
 ·exact sok0 i0 i1 i2 i3 i4 i5 i6 i7 i8 h1 t a cap l b capb m w
 ·have hsz : 2 ≤ i0 ∧ i0 ≤ 24 ∧ 2 ≤ i1 ∧ i1 ≤ 10 := of_decide_eq_true h1
  obtain ⟨W, rfl⟩ : ∃ W : Nat, i0 = (W : Int) := ⟨i0.toNat, by omega⟩
  obtain ⟨H, rfl⟩ : ∃ H : Nat, i1 = (H : Int) := ⟨i1.toNat, by omega⟩
  exact sok1 W H i2 i3 i4 i5 i6 i7 i8 h1 t a cap l b capb m ht hl hm hz w hr hs
end Go.Proofs.YtpcdjpfffanlbaaDoor
