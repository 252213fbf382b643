/- ScreenOK: what the program answers at every screen. -/
import Derived.Test.YtpcdjpfffanlbaaDoorZOkI
namespace Go.Proofs.YtpcdjpfffanlbaaDoor
open Go.ChangeShapes Go.WideShapes Go.ChangeAt Go.RowKit
set_option linter.unusedVariables false
set_option maxHeartbeats 400000 in
set_option maxRecDepth 100000 in
theorem iok0 (i0 i1 i2 i3 i4 i5 i6 i7 i8 : Int) (h1 : sizeB i0 i1 = false) (t : ByteArray) (a : Option Addr) (cap : Nat) (l : List (Int × Int)) (b : Option Addr) (capb : Nat) (m : List ByteArray) (w : World) :
  Calls Tryd.prog 15 #[.agg #[.int .i64 i0, .int .i64 i1, .int .i64 i2, .int .i64 i3, .int .i64 i4, .int .i64 i5, .int .i64 i6, .int .i64 i7, .int .i64 i8, .string t, .slice a l.length cap, .slice b m.length capb]] w fun e w' => e = .returned (.bool (okB i0 i1 i2 i3 i4 i5 i6 i7 i8 t.data.toList l m)) ∧ Below w.heap.size w w' := by
 have HB0 := hide ((Below.refl w.heap.size w).alloc (Nat.le_refl _) (.cells #[.int .i64 i0, .int .i64 i1, .int .i64 i2, .int .i64 i3, .int .i64 i4, .int .i64 i5, .int .i64 i6, .int .i64 i7, .int .i64 i8, .string t, .slice a l.length cap, .slice b m.length capb] 26))
 have HV : Hid (okB i0 i1 i2 i3 i4 i5 i6 i7 i8 t.data.toList l m = false) := by show _ = _; unfold okB; rw [h1]; rfl
 go_enter Tryd.func15, Tryd.ntmps15
 go_wp2_with (go_at_call 31; refine (isize _ _ _).mono ?_; rintro e w2 ⟨rfl, rfl⟩; rw [h1])
 go_ret
 exact ⟨ret_bool (unhide HV).symm, unhide HB0⟩
set_option maxHeartbeats 4000000 in
set_option maxRecDepth 100000 in
theorem iok1 (W H : Nat) (i2 i3 i4 i5 i6 i7 i8 : Int) (h1 : sizeB (W : Int) (H : Int) = true) (t : ByteArray) (a : Option Addr) (cap : Nat) (l : List (Int × Int)) (b : Option Addr) (capb : Nat) (m : List ByteArray) (ht : t.size ≤ 1048576) (hl : l.length ≤ 1048576) (hm : m.length ≤ 1048576) (hz : ∀ k (h : k < m.length), m[k].size ≤ 1048576) (w : World) (hr : RowV w a (cP l)) (hs : RowV w b (cS m)) :
  Calls Tryd.prog 15 #[.agg #[.int .i64 (W : Int), .int .i64 (H : Int), .int .i64 i2, .int .i64 i3, .int .i64 i4, .int .i64 i5, .int .i64 i6, .int .i64 i7, .int .i64 i8, .string t, .slice a l.length cap, .slice b m.length capb]] w fun e w' => e = .returned (.bool (okB (W : Int) (H : Int) i2 i3 i4 i5 i6 i7 i8 t.data.toList l m)) ∧ Below w.heap.size w w' := by
 have HB0 := hide ((Below.refl w.heap.size w).alloc (Nat.le_refl _) (.cells #[.int .i64 (W : Int), .int .i64 (H : Int), .int .i64 i2, .int .i64 i3, .int .i64 i4, .int .i64 i5, .int .i64 i6, .int .i64 i7, .int .i64 i8, .string t, .slice a l.length cap, .slice b m.length capb] 26))
 have K : ∀ o, (w.alloc (.cells #[.int .i64 (W : Int), .int .i64 (H : Int), .int .i64 i2, .int .i64 i3, .int .i64 i4, .int .i64 i5, .int .i64 i6, .int .i64 i7, .int .i64 i8, .string t, .slice a l.length cap, .slice b m.length capb] 26)).cell? ⟨w.heap.size, o, none⟩ = (#[.int .i64 (W : Int), .int .i64 (H : Int), .int .i64 i2, .int .i64 i3, .int .i64 i4, .int .i64 i5, .int .i64 i6, .int .i64 i7, .int .i64 i8, .string t, .slice a l.length cap, .slice b m.length capb] : Array Value)[o]? := fun o => World.cell?_alloc_mark w _ _ _ o
 have hsz : (2 : Int) ≤ W ∧ (W : Int) ≤ 24 ∧ (2 : Int) ≤ H ∧ (H : Int) ≤ 10 := of_decide_eq_true h1
 have hW : W ≤ 24 := by omega
 have hH : H ≤ 10 := by omega
 have HT := hide ht
 have HL := hide hl
 have HM := hide hm
 have HZ := hide hz
 have HR := hide hr
 have HS := hide hs
 clear ht hl hm hz hr hs hsz
 cases h2 : placeB (W : Int) (H : Int) i2 i3
 ·skip
  have HV : Hid (okB (W : Int) (H : Int) i2 i3 i4 i5 i6 i7 i8 t.data.toList l m = false) := by show _ = _; unfold okB; rw [h1, h2]; rfl
  go_enter Tryd.func15, Tryd.ntmps15
  go_wp2_with (first | (go_at_call 31; refine (isize _ _ _).mono ?_; rintro e w2 ⟨rfl, rfl⟩; rw [h1]) | (go_at_call 32; refine (iplace w.heap.size (W : Int) (H : Int) _ _ _ (K 0) (K 1)).mono ?_; rintro e w2 ⟨rfl, rfl⟩; first | rw [h2] | rw [h3]))
  go_ret
  exact ⟨ret_bool (unhide HV).symm, unhide HB0⟩
 ·skip
  cases h3 : placeB (W : Int) (H : Int) i7 i8
  ·skip
   have HV : Hid (okB (W : Int) (H : Int) i2 i3 i4 i5 i6 i7 i8 t.data.toList l m = false) := by show _ = _; unfold okB; rw [h1, h2, h3]; rfl
   go_enter Tryd.func15, Tryd.ntmps15
   go_wp2_with (first | (go_at_call 31; refine (isize _ _ _).mono ?_; rintro e w2 ⟨rfl, rfl⟩; rw [h1]) | (go_at_call 32; refine (iplace w.heap.size (W : Int) (H : Int) _ _ _ (K 0) (K 1)).mono ?_; rintro e w2 ⟨rfl, rfl⟩; first | rw [h2] | rw [h3]))
   go_ret
   exact ⟨ret_bool (unhide HV).symm, unhide HB0⟩
  ·skip
   cases h4 : areaB (H : Int) i5 i6
   ·skip
    have HV : Hid (okB (W : Int) (H : Int) i2 i3 i4 i5 i6 i7 i8 t.data.toList l m = false) := by show _ = _; unfold okB; rw [h1, h2, h3, h4]; rfl
    go_enter Tryd.func15, Tryd.ntmps15
    go_wp2_with (first | (go_at_call 31; refine (isize _ _ _).mono ?_; rintro e w2 ⟨rfl, rfl⟩; rw [h1]) | (go_at_call 32; refine (iplace w.heap.size (W : Int) (H : Int) _ _ _ (K 0) (K 1)).mono ?_; rintro e w2 ⟨rfl, rfl⟩; first | rw [h2] | rw [h3]) | (go_at_call 33; refine (iarea w.heap.size (H : Int) _ _ _ (K 1) (K 5) (K 6)).mono ?_; rintro e w2 ⟨rfl, hb2⟩; rw [h4]; have K2 : ∀ o, w2.cell? ⟨w.heap.size, o, none⟩ = (#[.int .i64 (W : Int), .int .i64 (H : Int), .int .i64 i2, .int .i64 i3, .int .i64 i4, .int .i64 i5, .int .i64 i6, .int .i64 i7, .int .i64 i8, .string t, .slice a l.length cap, .slice b m.length capb] : Array Value)[o]? := (fun o => (hb2.cell (p := ⟨w.heap.size, o, none⟩) (by simp)).trans (K o)); have HB2 := hide ((unhide HB0).trans (hb2.mono (unhide HB0).size)); have hz2 : w.heap.size < w2.heap.size := (by have := hb2.size; simp at this; omega); clear hb2))
    go_ret
    exact ⟨ret_bool (unhide HV).symm, unhide HB2⟩
   ·skip
    cases h5 : inB i4 0 127
    ·skip
     have HV : Hid (okB (W : Int) (H : Int) i2 i3 i4 i5 i6 i7 i8 t.data.toList l m = false) := by show _ = _; unfold okB; rw [h1, h2, h3, h4, h5]; rfl
     go_enter Tryd.func15, Tryd.ntmps15
     go_wp2_with (first | (go_at_call 31; refine (isize _ _ _).mono ?_; rintro e w2 ⟨rfl, rfl⟩; rw [h1]) | (go_at_call 32; refine (iplace w.heap.size (W : Int) (H : Int) _ _ _ (K 0) (K 1)).mono ?_; rintro e w2 ⟨rfl, rfl⟩; first | rw [h2] | rw [h3]) | (go_at_call 33; refine (iarea w.heap.size (H : Int) _ _ _ (K 1) (K 5) (K 6)).mono ?_; rintro e w2 ⟨rfl, hb2⟩; rw [h4]; have K2 : ∀ o, w2.cell? ⟨w.heap.size, o, none⟩ = (#[.int .i64 (W : Int), .int .i64 (H : Int), .int .i64 i2, .int .i64 i3, .int .i64 i4, .int .i64 i5, .int .i64 i6, .int .i64 i7, .int .i64 i8, .string t, .slice a l.length cap, .slice b m.length capb] : Array Value)[o]? := (fun o => (hb2.cell (p := ⟨w.heap.size, o, none⟩) (by simp)).trans (K o)); have HB2 := hide ((unhide HB0).trans (hb2.mono (unhide HB0).size)); have hz2 : w.heap.size < w2.heap.size := (by have := hb2.size; simp at this; omega); clear hb2) | (go_at_call 34; refine (ilook _ _).mono ?_; rintro e w3 ⟨rfl, rfl⟩; rw [h5]))
     go_ret
     exact ⟨ret_bool (unhide HV).symm, unhide HB2⟩
    ·skip
     cases h6 : titleB t.data.toList
     ·skip
      have HV : Hid (okB (W : Int) (H : Int) i2 i3 i4 i5 i6 i7 i8 t.data.toList l m = false) := by show _ = _; unfold okB; rw [h1, h2, h3, h4, h5, h6]; rfl
      go_enter Tryd.func15, Tryd.ntmps15
      go_wp2_with (first | (go_at_call 31; refine (isize _ _ _).mono ?_; rintro e w2 ⟨rfl, rfl⟩; rw [h1]) | (go_at_call 32; refine (iplace w.heap.size (W : Int) (H : Int) _ _ _ (K 0) (K 1)).mono ?_; rintro e w2 ⟨rfl, rfl⟩; first | rw [h2] | rw [h3]) | (go_at_call 33; refine (iarea w.heap.size (H : Int) _ _ _ (K 1) (K 5) (K 6)).mono ?_; rintro e w2 ⟨rfl, hb2⟩; rw [h4]; have K2 : ∀ o, w2.cell? ⟨w.heap.size, o, none⟩ = (#[.int .i64 (W : Int), .int .i64 (H : Int), .int .i64 i2, .int .i64 i3, .int .i64 i4, .int .i64 i5, .int .i64 i6, .int .i64 i7, .int .i64 i8, .string t, .slice a l.length cap, .slice b m.length capb] : Array Value)[o]? := (fun o => (hb2.cell (p := ⟨w.heap.size, o, none⟩) (by simp)).trans (K o)); have HB2 := hide ((unhide HB0).trans (hb2.mono (unhide HB0).size)); have hz2 : w.heap.size < w2.heap.size := (by have := hb2.size; simp at this; omega); clear hb2) | (go_at_call 34; refine (ilook _ _).mono ?_; rintro e w3 ⟨rfl, rfl⟩; rw [h5]) | (go_at_call 35; refine (ititle _ (unhide HT) _).mono ?_; rintro e w3 ⟨rfl, rfl⟩; rw [h6]))
      go_ret
      exact ⟨ret_bool (unhide HV).symm, unhide HB2⟩
     ·skip
      cases h7 : cellsB (W : Int) (H : Int) l
      ·skip
       have HV : Hid (okB (W : Int) (H : Int) i2 i3 i4 i5 i6 i7 i8 t.data.toList l m = false) := by show _ = _; unfold okB; rw [h1, h2, h3, h4, h5, h6, h7]; rfl
       go_enter Tryd.func15, Tryd.ntmps15
       go_wp2_with (first | (go_at_call 31; refine (isize _ _ _).mono ?_; rintro e w2 ⟨rfl, rfl⟩; rw [h1]) | (go_at_call 32; refine (iplace w.heap.size (W : Int) (H : Int) _ _ _ (K 0) (K 1)).mono ?_; rintro e w2 ⟨rfl, rfl⟩; first | rw [h2] | rw [h3]) | (go_at_call 33; refine (iarea w.heap.size (H : Int) _ _ _ (K 1) (K 5) (K 6)).mono ?_; rintro e w2 ⟨rfl, hb2⟩; rw [h4]; have K2 : ∀ o, w2.cell? ⟨w.heap.size, o, none⟩ = (#[.int .i64 (W : Int), .int .i64 (H : Int), .int .i64 i2, .int .i64 i3, .int .i64 i4, .int .i64 i5, .int .i64 i6, .int .i64 i7, .int .i64 i8, .string t, .slice a l.length cap, .slice b m.length capb] : Array Value)[o]? := (fun o => (hb2.cell (p := ⟨w.heap.size, o, none⟩) (by simp)).trans (K o)); have HB2 := hide ((unhide HB0).trans (hb2.mono (unhide HB0).size)); have hz2 : w.heap.size < w2.heap.size := (by have := hb2.size; simp at this; omega); clear hb2) | (go_at_call 34; refine (ilook _ _).mono ?_; rintro e w3 ⟨rfl, rfl⟩; rw [h5]) | (go_at_call 35; refine (ititle _ (unhide HT) _).mono ?_; rintro e w3 ⟨rfl, rfl⟩; rw [h6]) | (go_at_call 36; refine (icells w.heap.size W H a cap l (unhide HL) hW hH _ hz2 (K2 0) (K2 1) (K2 10) ((unhide HR).below (unhide HB2))).mono ?_; rintro e w4 ⟨rfl, hb4⟩; rw [h7]; have K4 : ∀ o, w4.cell? ⟨w.heap.size, o, none⟩ = (#[.int .i64 (W : Int), .int .i64 (H : Int), .int .i64 i2, .int .i64 i3, .int .i64 i4, .int .i64 i5, .int .i64 i6, .int .i64 i7, .int .i64 i8, .string t, .slice a l.length cap, .slice b m.length capb] : Array Value)[o]? := (fun o => (hb4.cell (p := ⟨w.heap.size, o, none⟩) hz2).trans (K2 o)); have HB4 := hide ((unhide HB2).trans (hb4.mono (unhide HB2).size)); clear hb4))
       go_ret
       exact ⟨ret_bool (unhide HV).symm, unhide HB4⟩
      ·skip
       cases h8 : histB m
       ·skip
        have HV : Hid (okB (W : Int) (H : Int) i2 i3 i4 i5 i6 i7 i8 t.data.toList l m = false) := by show _ = _; unfold okB; rw [h1, h2, h3, h4, h5, h6, h7, h8]; rfl
        go_enter Tryd.func15, Tryd.ntmps15
        go_wp2_with (first | (go_at_call 31; refine (isize _ _ _).mono ?_; rintro e w2 ⟨rfl, rfl⟩; rw [h1]) | (go_at_call 32; refine (iplace w.heap.size (W : Int) (H : Int) _ _ _ (K 0) (K 1)).mono ?_; rintro e w2 ⟨rfl, rfl⟩; first | rw [h2] | rw [h3]) | (go_at_call 33; refine (iarea w.heap.size (H : Int) _ _ _ (K 1) (K 5) (K 6)).mono ?_; rintro e w2 ⟨rfl, hb2⟩; rw [h4]; have K2 : ∀ o, w2.cell? ⟨w.heap.size, o, none⟩ = (#[.int .i64 (W : Int), .int .i64 (H : Int), .int .i64 i2, .int .i64 i3, .int .i64 i4, .int .i64 i5, .int .i64 i6, .int .i64 i7, .int .i64 i8, .string t, .slice a l.length cap, .slice b m.length capb] : Array Value)[o]? := (fun o => (hb2.cell (p := ⟨w.heap.size, o, none⟩) (by simp)).trans (K o)); have HB2 := hide ((unhide HB0).trans (hb2.mono (unhide HB0).size)); have hz2 : w.heap.size < w2.heap.size := (by have := hb2.size; simp at this; omega); clear hb2) | (go_at_call 34; refine (ilook _ _).mono ?_; rintro e w3 ⟨rfl, rfl⟩; rw [h5]) | (go_at_call 35; refine (ititle _ (unhide HT) _).mono ?_; rintro e w3 ⟨rfl, rfl⟩; rw [h6]) | (go_at_call 36; refine (icells w.heap.size W H a cap l (unhide HL) hW hH _ hz2 (K2 0) (K2 1) (K2 10) ((unhide HR).below (unhide HB2))).mono ?_; rintro e w4 ⟨rfl, hb4⟩; rw [h7]; have K4 : ∀ o, w4.cell? ⟨w.heap.size, o, none⟩ = (#[.int .i64 (W : Int), .int .i64 (H : Int), .int .i64 i2, .int .i64 i3, .int .i64 i4, .int .i64 i5, .int .i64 i6, .int .i64 i7, .int .i64 i8, .string t, .slice a l.length cap, .slice b m.length capb] : Array Value)[o]? := (fun o => (hb4.cell (p := ⟨w.heap.size, o, none⟩) hz2).trans (K2 o)); have HB4 := hide ((unhide HB2).trans (hb4.mono (unhide HB2).size)); clear hb4) | (go_at_call 37; refine (ihist w.heap.size b capb m (unhide HM) (unhide HZ) _ (K4 11) ((unhide HS).below (unhide HB4))).mono ?_; rintro e w5 ⟨rfl, rfl⟩; rw [h8]))
        go_ret
        exact ⟨ret_bool (unhide HV).symm, unhide HB4⟩
       ·skip
        have HV : Hid (okB (W : Int) (H : Int) i2 i3 i4 i5 i6 i7 i8 t.data.toList l m = true) := by show _ = _; unfold okB; rw [h1, h2, h3, h4, h5, h6, h7, h8]; rfl
        go_enter Tryd.func15, Tryd.ntmps15
        go_wp2_with (first | (go_at_call 31; refine (isize _ _ _).mono ?_; rintro e w2 ⟨rfl, rfl⟩; rw [h1]) | (go_at_call 32; refine (iplace w.heap.size (W : Int) (H : Int) _ _ _ (K 0) (K 1)).mono ?_; rintro e w2 ⟨rfl, rfl⟩; first | rw [h2] | rw [h3]) | (go_at_call 33; refine (iarea w.heap.size (H : Int) _ _ _ (K 1) (K 5) (K 6)).mono ?_; rintro e w2 ⟨rfl, hb2⟩; rw [h4]; have K2 : ∀ o, w2.cell? ⟨w.heap.size, o, none⟩ = (#[.int .i64 (W : Int), .int .i64 (H : Int), .int .i64 i2, .int .i64 i3, .int .i64 i4, .int .i64 i5, .int .i64 i6, .int .i64 i7, .int .i64 i8, .string t, .slice a l.length cap, .slice b m.length capb] : Array Value)[o]? := (fun o => (hb2.cell (p := ⟨w.heap.size, o, none⟩) (by simp)).trans (K o)); have HB2 := hide ((unhide HB0).trans (hb2.mono (unhide HB0).size)); have hz2 : w.heap.size < w2.heap.size := (by have := hb2.size; simp at this; omega); clear hb2) | (go_at_call 34; refine (ilook _ _).mono ?_; rintro e w3 ⟨rfl, rfl⟩; rw [h5]) | (go_at_call 35; refine (ititle _ (unhide HT) _).mono ?_; rintro e w3 ⟨rfl, rfl⟩; rw [h6]) | (go_at_call 36; refine (icells w.heap.size W H a cap l (unhide HL) hW hH _ hz2 (K2 0) (K2 1) (K2 10) ((unhide HR).below (unhide HB2))).mono ?_; rintro e w4 ⟨rfl, hb4⟩; rw [h7]; have K4 : ∀ o, w4.cell? ⟨w.heap.size, o, none⟩ = (#[.int .i64 (W : Int), .int .i64 (H : Int), .int .i64 i2, .int .i64 i3, .int .i64 i4, .int .i64 i5, .int .i64 i6, .int .i64 i7, .int .i64 i8, .string t, .slice a l.length cap, .slice b m.length capb] : Array Value)[o]? := (fun o => (hb4.cell (p := ⟨w.heap.size, o, none⟩) hz2).trans (K2 o)); have HB4 := hide ((unhide HB2).trans (hb4.mono (unhide HB2).size)); clear hb4) | (go_at_call 37; refine (ihist w.heap.size b capb m (unhide HM) (unhide HZ) _ (K4 11) ((unhide HS).below (unhide HB4))).mono ?_; rintro e w5 ⟨rfl, rfl⟩; rw [h8]))
        go_ret
        exact ⟨ret_bool (unhide HV).symm, unhide HB4⟩
theorem iok (i0 i1 i2 i3 i4 i5 i6 i7 i8 : Int) (t : ByteArray) (a : Option Addr) (cap : Nat) (l : List (Int × Int)) (b : Option Addr) (capb : Nat) (m : List ByteArray) (ht : t.size ≤ 1048576) (hl : l.length ≤ 1048576) (hm : m.length ≤ 1048576) (hz : ∀ k (h : k < m.length), m[k].size ≤ 1048576) (w : World) (hr : RowV w a (cP l)) (hs : RowV w b (cS m)) :
  Calls Tryd.prog 15 #[.agg #[.int .i64 i0, .int .i64 i1, .int .i64 i2, .int .i64 i3, .int .i64 i4, .int .i64 i5, .int .i64 i6, .int .i64 i7, .int .i64 i8, .string t, .slice a l.length cap, .slice b m.length capb]] w fun e w' => e = .returned (.bool (okB i0 i1 i2 i3 i4 i5 i6 i7 i8 t.data.toList l m)) ∧ Below w.heap.size w w' := by
 cases h1 : sizeB i0 i1
 ·exact iok0 i0 i1 i2 i3 i4 i5 i6 i7 i8 h1 t a cap l b capb m w
 ·have hsz : 2 ≤ i0 ∧ i0 ≤ 24 ∧ 2 ≤ i1 ∧ i1 ≤ 10 := of_decide_eq_true h1
  obtain ⟨W, rfl⟩ : ∃ W : Nat, i0 = (W : Int) := ⟨i0.toNat, by omega⟩
  obtain ⟨H, rfl⟩ : ∃ H : Nat, i1 = (H : Int) := ⟨i1.toNat, by omega⟩
  exact iok1 W H i2 i3 i4 i5 i6 i7 i8 h1 t a cap l b capb m ht hl hm hz w hr hs
end Go.Proofs.YtpcdjpfffanlbaaDoor
