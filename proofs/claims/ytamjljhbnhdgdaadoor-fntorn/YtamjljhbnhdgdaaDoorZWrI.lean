/- Records written: what the program answers. -/
import Derived.Test.YtamjljhbnhdgdaaDoorZG2
import Derived.Test.YtamjljhbnhdgdaaDoorZG9
import Derived.Test.YtamjljhbnhdgdaaDoorZG7
import Derived.Test.YtamjljhbnhdgdaaDoorZStoI
import Derived.Test.YtamjljhbnhdgdaaDoorZFrbI
import Derived.Test.YtamjljhbnhdgdaaDoorZG24
import Derived.Deep.Cut
namespace Go.Proofs.YtamjljhbnhdgdaaDoor
open Go.ChangeShapes Go.WideShapes Go.ChangeAt Go.RowKit
set_option linter.unusedVariables false
theorem below_asGrown' {w w' : World} (h : Below w.heap.size w w') (row : Option Nat) : w.grownBy w' row := ⟨h.os, h.tape, h.output, h.size, fun k hk _ => h.block k hk⟩
set_option maxHeartbeats 2000000 in
set_option maxRecDepth 100000 in
theorem iwrite_bad (B : Nat) (d : ByteArray) (s : Int) (a : Option Addr) (cap n : Nat) (l : List ByteArray) (HN : Hid (l.length = n)) (hn : n ≤ 4096) (HZ : Hid (∀ k (h : k < l.length), l[k].size ≤ 1048576)) (D : Nat) (HD : Hid (d.size = D)) (hd : D ≤ 60000) {x0 x1 x2 x3 x4 : Addr} (hrok : rokB l = false) (w : World) (hB : BF B #[.string d, .int .i64 s] w) (hE : StE w x0 x1 x2 x3 x4) (hr : RowV w a (cS l)) :
  Calls Tryd.prog 18 #[.pointer (some ⟨B, 0, none⟩), .slice a n cap] w fun e w' => e = .returned (.iface 145 (.pointer (some x3))) ∧ w' = w := by
 have HE := hide hE
 have HB := hide hB
 have HR := hide hr
 have HCL := hide (cS_len l)
 have ld : (d.size : Int) = (D : Int) := by rw [unhide HD]
 have kB := hB.S
 have HBB := hide hB.lt
 obtain ⟨i8, hi, hz0, hz1, hz2⟩ := info_parts Tryd.infB5
 clear hE hB hr
 go_enter Tryd.func18, Tryd.ntmps18
 go_wp2_with fail
 go_loopw [5, 20] (fun z i wr => ∃ (k sz : Nat), k ≤ n ∧ i = .int .i64 k ∧ z = .int .i64 (sz : Int) ∧ Hid (sz = D + (wrL (l.take k)).length) ∧ sz ≤ 60000 + 1007 * k ∧ Hid (∀ q (h : q < l.length), q < k → inB (l[q].size : Int) 1 1000 = true) ∧ w = wr) (fun _ i _ => n - (intOf i).toNat)
 case atStart => exact ⟨0, D, by omega, rfl, rfl, by show D = D + (wrL (l.take 0)).length; simp [wrL], by omega, fun q _ h => absurd h (Nat.not_lt_zero _), rfl⟩
 case round =>
  obtain ⟨k, sz, hk, rfl, rfl, HSZ, hsz, HF, hwr⟩ := hrel
  subst hwr
  by_cases hlt : k < n
  ·have hlk : k < l.length := by rw [unhide HN]; exact hlt
   obtain ⟨b, off, ha, hblt, hc⟩ := (unhide HR).at (by rw [unhide HCL, unhide HN]; omega)
   subst ha
   obtain ⟨t, et⟩ : ∃ t, t = l[k] := ⟨_, rfl⟩
   have x0' := hc k _ (cS_at l k hlk)
   rw [← et] at x0'
   obtain ⟨T, hT⟩ : ∃ T : Nat, T = t.size := ⟨_, rfl⟩
   have lt : (t.size : Int) = (T : Int) := by rw [hT]
   have hTm : T ≤ 1048576 := by rw [hT, et]; exact unhide HZ k hlk
   have HST : Hid ((wrL (l.take (k + 1))).length = (wrL (l.take k)).length + (7 + T)) := by show _ = _; rw [wrL_step l k hlk, ← et, hT]
   have HTE : Hid ((l[k].size : Int) = (T : Int)) := by show _ = _; rw [← et, hT]
   have i1 : (k : Int) < (n : Int) := by omega
   have i0 : (0 : Int) ≤ (k : Int) := by omega
   obtain ⟨R, hR⟩ : ∃ R, R = inB (T : Int) 1 1000 := ⟨_, rfl⟩
   have HRR := hide hR
   clear hc et hT hR
   go_wp2_with fail
   refine (iwi (T : Int) 1 1000 R HRR _).mono ?_
   rintro e w1 ⟨rfl, rfl⟩
   cases R with
   | false =>
    have g3 := (unhide HE).g3
    go_wp2_with fail
    go_ret
    exact ⟨rfl, rfl⟩
   | true =>
    have hb := in_bounds (unhide HRR).symm
    have HF2 : Hid (∀ q (h : q < l.length), q < k + 1 → inB (l[q].size : Int) 1 1000 = true) := fun q h hq => by
     by_cases e : q = k
     ·subst e; rw [unhide HTE, ← unhide HRR]
     ·exact unhide HF q h (by omega)
    clear HRR HF
    go_wp2_with fail
    go_roundw
    case rel => exact ⟨k + 1, sz + (7 + T), by omega, by go_num, by go_num, by show sz + (7 + T) = D + (wrL (l.take (k + 1))).length; rw [unhide HST]; have := unhide HSZ; omega, by omega, HF2, trivial⟩
    case measure => simp [intOf]; omega
  ·exfalso
   have h := (rok_iff l).2 fun q h => unhide HF q h (by have := unhide HN; omega)
   rw [h] at hrok; cases hrok
set_option maxHeartbeats 2000000 in
set_option maxRecDepth 100000 in
theorem iwrite_full (B : Nat) (d : ByteArray) (s : Int) (a : Option Addr) (cap n : Nat) (l : List ByteArray) (HN : Hid (l.length = n)) (hn : n ≤ 4096) (HZ : Hid (∀ k (h : k < l.length), l[k].size ≤ 1048576)) (D : Nat) (HD : Hid (d.size = D)) (hd : D ≤ 60000) {x0 x1 x2 x3 x4 : Addr} (hrok : rokB l = true) (hfull : Hid (60000 < D + (wrL l).length)) (w : World) (hB : BF B #[.string d, .int .i64 s] w) (hE : StE w x0 x1 x2 x3 x4) (hr : RowV w a (cS l)) :
  Calls Tryd.prog 18 #[.pointer (some ⟨B, 0, none⟩), .slice a n cap] w fun e w' => e = .returned (.iface 145 (.pointer (some x4))) ∧ w' = w := by
 have HE := hide hE
 have HB := hide hB
 have HR := hide hr
 have HCL := hide (cS_len l)
 have ld : (d.size : Int) = (D : Int) := by rw [unhide HD]
 have kB := hB.S
 have HBB := hide hB.lt
 obtain ⟨i8, hi, hz0, hz1, hz2⟩ := info_parts Tryd.infB5
 clear hE hB hr
 go_enter Tryd.func18, Tryd.ntmps18
 go_wp2_with fail
 go_loopw [5, 20] (fun z i wr => ∃ (k sz : Nat), k ≤ n ∧ i = .int .i64 k ∧ z = .int .i64 (sz : Int) ∧ Hid (sz = D + (wrL (l.take k)).length) ∧ sz ≤ 60000 + 1007 * k ∧ Hid (∀ q (h : q < l.length), q < k → inB (l[q].size : Int) 1 1000 = true) ∧ w = wr) (fun _ i _ => n - (intOf i).toNat)
 case atStart => exact ⟨0, D, by omega, rfl, rfl, by show D = D + (wrL (l.take 0)).length; simp [wrL], by omega, fun q _ h => absurd h (Nat.not_lt_zero _), rfl⟩
 case round =>
  obtain ⟨k, sz, hk, rfl, rfl, HSZ, hsz, HF, hwr⟩ := hrel
  subst hwr
  by_cases hlt : k < n
  ·have hlk : k < l.length := by rw [unhide HN]; exact hlt
   obtain ⟨b, off, ha, hblt, hc⟩ := (unhide HR).at (by rw [unhide HCL, unhide HN]; omega)
   subst ha
   obtain ⟨t, et⟩ : ∃ t, t = l[k] := ⟨_, rfl⟩
   have x0' := hc k _ (cS_at l k hlk)
   rw [← et] at x0'
   obtain ⟨T, hT⟩ : ∃ T : Nat, T = t.size := ⟨_, rfl⟩
   have lt : (t.size : Int) = (T : Int) := by rw [hT]
   have hTm : T ≤ 1048576 := by rw [hT, et]; exact unhide HZ k hlk
   have HST : Hid ((wrL (l.take (k + 1))).length = (wrL (l.take k)).length + (7 + T)) := by show _ = _; rw [wrL_step l k hlk, ← et, hT]
   have HTE : Hid ((l[k].size : Int) = (T : Int)) := by show _ = _; rw [← et, hT]
   have i1 : (k : Int) < (n : Int) := by omega
   have i0 : (0 : Int) ≤ (k : Int) := by omega
   obtain ⟨R, hR⟩ : ∃ R, R = inB (T : Int) 1 1000 := ⟨_, rfl⟩
   have HRR := hide hR
   clear hc et hT hR
   go_wp2_with fail
   refine (iwi (T : Int) 1 1000 R HRR _).mono ?_
   rintro e w1 ⟨rfl, rfl⟩
   obtain rfl : R = true := by rw [unhide HRR, ← unhide HTE]; exact (rok_iff l).1 hrok k hlk
   have hb := in_bounds (unhide HRR).symm
   have HF2 : Hid (∀ q (h : q < l.length), q < k + 1 → inB (l[q].size : Int) 1 1000 = true) := fun q h hq => by
    by_cases e : q = k
    ·subst e; rw [unhide HTE, ← unhide HRR]
    ·exact unhide HF q h (by omega)
   clear HRR HF
   go_wp2_with fail
   go_roundw
   case rel => exact ⟨k + 1, sz + (7 + T), by omega, by go_num, by go_num, by show sz + (7 + T) = D + (wrL (l.take (k + 1))).length; rw [unhide HST]; have := unhide HSZ; omega, by omega, HF2, trivial⟩
   case measure => simp [intOf]; omega
  ·have hsz2 : (60000 : Int) < (sz : Int) := by have := unhide HSZ; have := unhide hfull; rw [wrL_all l k (by rw [unhide HN]; omega)] at *; omega
   have i1 : ¬ (k : Int) < (n : Int) := by omega
   have g4 := (unhide HE).g4
   go_wp2_with fail
   go_ret
   exact ⟨rfl, rfl⟩
set_option maxHeartbeats 2000000 in
set_option maxRecDepth 100000 in
theorem iwrite_ok (B : Nat) (d : ByteArray) (s : Int) (a : Option Addr) (cap n : Nat) (l : List ByteArray) (HN : Hid (l.length = n)) (hn : n ≤ 4096) (HZ : Hid (∀ k (h : k < l.length), l[k].size ≤ 1048576)) (D : Nat) (HD : Hid (d.size = D)) (hd : D ≤ 60000) {x0 x1 x2 x3 x4 : Addr} (hrok : rokB l = true) (hfit : Hid (D + (wrL l).length ≤ 60000))  (w : World) (hB : BF B #[.string d, .int .i64 s] w) (hE : StE w x0 x1 x2 x3 x4) (hr : RowV w a (cS l)) :
  Calls Tryd.prog 18 #[.pointer (some ⟨B, 0, none⟩), .slice a n cap] w fun e w' => e = .returned .nilIface ∧ w.grownBy w' (some B) ∧ BF B #[.string (wrD d l), .int .i64 s] w' := by
 have HE := hide hE
 have HB := hide hB
 have HR := hide hr
 have HCL := hide (cS_len l)
 have ld : (d.size : Int) = (D : Int) := by rw [unhide HD]
 have kB := hB.S
 have HBB := hide hB.lt
 obtain ⟨i8, hi, hz0, hz1, hz2⟩ := info_parts Tryd.infB5
 clear hE hB hr
 go_enter Tryd.func18, Tryd.ntmps18
 go_wp2_with fail
 go_loopw [5, 20] (fun z i wr => ∃ (k sz : Nat), k ≤ n ∧ i = .int .i64 k ∧ z = .int .i64 (sz : Int) ∧ Hid (sz = D + (wrL (l.take k)).length) ∧ sz ≤ 60000 + 1007 * k ∧ Hid (∀ q (h : q < l.length), q < k → inB (l[q].size : Int) 1 1000 = true) ∧ w = wr) (fun _ i _ => n - (intOf i).toNat)
 case atStart => exact ⟨0, D, by omega, rfl, rfl, by show D = D + (wrL (l.take 0)).length; simp [wrL], by omega, fun q _ h => absurd h (Nat.not_lt_zero _), rfl⟩
 case round =>
  obtain ⟨k, sz, hk, rfl, rfl, HSZ, hsz, HF, hwr⟩ := hrel
  subst hwr
  by_cases hlt : k < n
  ·have hlk : k < l.length := by rw [unhide HN]; exact hlt
   obtain ⟨b, off, ha, hblt, hc⟩ := (unhide HR).at (by rw [unhide HCL, unhide HN]; omega)
   subst ha
   obtain ⟨t, et⟩ : ∃ t, t = l[k] := ⟨_, rfl⟩
   have x0' := hc k _ (cS_at l k hlk)
   rw [← et] at x0'
   obtain ⟨T, hT⟩ : ∃ T : Nat, T = t.size := ⟨_, rfl⟩
   have lt : (t.size : Int) = (T : Int) := by rw [hT]
   have hTm : T ≤ 1048576 := by rw [hT, et]; exact unhide HZ k hlk
   have HST : Hid ((wrL (l.take (k + 1))).length = (wrL (l.take k)).length + (7 + T)) := by show _ = _; rw [wrL_step l k hlk, ← et, hT]
   have HTE : Hid ((l[k].size : Int) = (T : Int)) := by show _ = _; rw [← et, hT]
   have i1 : (k : Int) < (n : Int) := by omega
   have i0 : (0 : Int) ≤ (k : Int) := by omega
   obtain ⟨R, hR⟩ : ∃ R, R = inB (T : Int) 1 1000 := ⟨_, rfl⟩
   have HRR := hide hR
   clear hc et hT hR
   go_wp2_with fail
   refine (iwi (T : Int) 1 1000 R HRR _).mono ?_
   rintro e w1 ⟨rfl, rfl⟩
   obtain rfl : R = true := by rw [unhide HRR, ← unhide HTE]; exact (rok_iff l).1 hrok k hlk
   have hb := in_bounds (unhide HRR).symm
   have HF2 : Hid (∀ q (h : q < l.length), q < k + 1 → inB (l[q].size : Int) 1 1000 = true) := fun q h hq => by
    by_cases e : q = k
    ·subst e; rw [unhide HTE, ← unhide HRR]
    ·exact unhide HF q h (by omega)
   clear HRR HF
   go_wp2_with fail
   go_roundw
   case rel => exact ⟨k + 1, sz + (7 + T), by omega, by go_num, by go_num, by show sz + (7 + T) = D + (wrL (l.take (k + 1))).length; rw [unhide HST]; have := unhide HSZ; omega, by omega, HF2, trivial⟩
   case measure => simp [intOf]; omega
  ·have hsz2 : ¬ (60000 : Int) < (sz : Int) := by have := unhide HSZ; have := unhide hfit; rw [wrL_all l k (by rw [unhide HN]; omega)] at *; omega
   have i1 : ¬ (k : Int) < (n : Int) := by omega
   have q1 := fun w' : World => Go.Lib.run_convert_string_bytes w' 9 22 5 d Tryd.underlying9 Tryd.underlying22 Tryd.underlying5
   have HW := hide (bytes_belowT w d)
   have HO := hide (conv_own_bytes w d (by rw [unhide HD]; omega))
   have HB1 := hide ((unhide HB).below (unhide HW))
   clear HSZ HF hsz
   go_upto_region 12 with fail
   rw [unhide HD] at HO ⊢
   clear q1 kB
   obtain ⟨w1, hw1⟩ : ∃ w1, w1 = Go.Lib.bytesWorld w 5 d := ⟨_, rfl⟩
   rw [← hw1] at HW HO HB1 ⊢
   have hzz : w.heap.size ≤ w1.heap.size := (unhide HW).size
   obtain ⟨V, hV⟩ : ∃ V, V = (.slice (some ⟨w.heap.size, 0, none⟩) D (grownCap w D 0 5) : Value) := ⟨_, rfl⟩
   rw [← hV] at HO ⊢
   clear hw1 hV
   go_wp2_with fail
   go_loopw [8, 45] (fun v i wr => ∃ (k : Nat) (M : List UInt8), k ≤ n ∧ i = .int .i64 k ∧ Hid (M = d.data.toList ++ wrL (l.take k)) ∧ Hid (OwnM wr w.heap.size 5 v M) ∧ Hid (BF B #[.string d, .int .i64 s] wr) ∧ Hid (Below w.heap.size w wr)) (fun _ i _ => n - (intOf i).toNat)
   case atStart => exact ⟨0, d.data.toList, by omega, rfl, by show _ = _; simp [wrL], HO, HB1, HW⟩
   case round =>
    clear HO HB1 HW hzz
    obtain ⟨j, M, hj, rfl, HM, HO, HB1, HW⟩ := hrel
    by_cases hlt2 : j < n
    ·have hlk : j < l.length := by rw [unhide HN]; exact hlt2
     obtain ⟨b, off, ha, hblt, hc⟩ := (unhide HR).at (by rw [unhide HCL, unhide HN]; omega)
     subst ha
     obtain ⟨t, et⟩ : ∃ t, t = l[j] := ⟨_, rfl⟩
     have x0' := hc j _ (cS_at l j hlk)
     rw [← et] at x0'
     have x1' : wr.cell? ⟨b, off + j, none⟩ = some (.string t) := ((unhide HW).cell (p := ⟨b, off + j, none⟩) hblt).trans x0'
     have hb := in_bounds ((rok_iff l).1 hrok j hlk)
     rw [← et] at hb
     have HTB := hide hb
     have HMN : Hid (M ++ frmB t.data.toList = d.data.toList ++ wrL (l.take (j + 1))) := by show _ = _; rw [wrL_snoc l j hlk, ← et, ← List.append_assoc, ← unhide HM]
     have HML : Hid (M.length + (frmB t.data.toList).length ≤ 60000) := by
      have e1 := congrArg List.length (unhide HMN)
      rw [List.length_append, List.length_append, sizeT, unhide HD] at e1
      show _ ≤ _
      have e2 : (wrL (l.take (j + 1))).length ≤ (wrL l).length := by
       have := List.take_append_drop (j + 1) l
       have h2 : wrL l = wrL (l.take (j + 1)) ++ wrL (l.drop (j + 1)) := by unfold wrL; rw [← List.flatMap_append, this]
       rw [h2, List.length_append]; omega
      have := unhide hfit
      omega
     have i1' : (j : Int) < (n : Int) := by omega
     have i0' : (0 : Int) ≤ (j : Int) := by omega
     clear hc et x0' hb HM
     go_wp2_with fail
     refine (iframe t t.size rfl (unhide HTB).1 (Nat.le_trans (unhide HTB).2 (by decide)) _).mono ?_
     rintro e w2 ⟨v2, rfl, o2, hb2⟩
     obtain ⟨g2, c2, rfl, -, -, -, hnw⟩ := own_some o2 (by rw [frmB_len]; omega)
     have HO2 := hide ((unhide HO).below hb2)
     have HB2 := hide ((unhide HB1).below hb2)
     have HW2 := hide ((unhide HW).trans (hb2.mono (unhide HW).size))
     have HNW := hide hnw
     obtain ⟨FL, hFL⟩ : ∃ FL, FL = frmB t.data.toList := ⟨_, rfl⟩
     rw [← hFL] at HNW HMN HML ⊢
     have HBN : Hid (u8.ownBlock ≠ some B) := fun h => by have h1 := ((unhide HO).lt _ h).1; have := unhide HBB; omega
     clear hb2 o2 hnw HO HB1 HW x1' hFL
     go_wp2_with (at_builtin; refine wpList_appendM _ rfl (.tmp 54) (.tmp 55) 22 rfl w.heap.size 5 i8 Tryd.underlying22 hi hz0 hz1 hz2 u8 M FL rfl (unhide HO2) ⟨g2, 0, none⟩ c2 rfl (unhide HNW) (by have := unhide HML; omega) (unhide HW2).size ?_; intro v3 w3 ho3 hg3; have HO3 := hide ho3; have HB3 := hide ((unhide HB2).grown hg3 (unhide HBN)); have HW3 := hide ((unhide HW2).grown hg3 (unhide HW2).size (fun k hk => ((unhide HO2).lt k hk).1)); clear ho3 hg3 HO2 HB2 HW2 HNW HBN)
     go_roundw
     case rel => exact ⟨j + 1, M ++ FL, by omega, by go_num, HMN, HO3, HB3, HW3⟩
     case measure => simp [intOf]; omega
    ·have i1' : ¬ (j : Int) < (n : Int) := by omega
     have hM : M = d.data.toList ++ wrL l := by rw [unhide HM, wrL_all l j (by rw [unhide HN]; omega)]
     obtain ⟨g2, c2, hv2, -, -⟩ := (unhide HO).cells
     subst hv2
     have cv := conv_row8 (P := Tryd.prog) (cap := c2) (src := 22) (dst := 9) (e := 5) Tryd.underlying22 Tryd.underlying5 Tryd.underlying9 (unhide HO).row
     obtain ⟨W2, hW2⟩ : ∃ W2 : ByteArray, W2 = ⟨M.toArray⟩ := ⟨_, rfl⟩
     rw [← hW2] at cv
     have HWD : Hid (W2 = wrD d l) := by show _ = _; rw [hW2, hM]; rfl
     have kB1 := (unhide HB1).S
     have kF1 := (unhide HB1).F
     have HB9 := hide ((unhide HB1).set 0 (by simp) (.string W2))
     have HG9 := hide (World.grownBy.trans' (below_asGrown' (unhide HW) (some B)) (stored_grown (g := B) (j := 0) (u := .string W2)))
     clear hM hW2
     go_wp2_with fail
     go_ret
     rw [← unhide HWD]
     exact ⟨rfl, unhide HG9, unhide HB9⟩
end Go.Proofs.YtamjljhbnhdgdaaDoor
