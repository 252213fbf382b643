/- RowText: what the specification answers. -/
import Derived.Test.YtjdkafcplnghlaaOkS
import Derived.Test.YtjdkafcplnghlaaTxtI
import Derived.Test.YtjdkafcplnghlaaUtfS
namespace Go.Proofs.Ytjdkafcplnghlaa
open Go.ChangeShapes Go.WideShapes Go.ChangeAt Go.RowKit
set_option linter.unusedVariables false
set_option maxHeartbeats 2000000 in
set_option maxRecDepth 100000 in
theorem srow (W H Y f b off n cap : Nat) (i2 i3 i4 i5 i6 i7 i8 : Int) (t : ByteArray) (vh : Value) (hvh : vh.oneCell' = true) (l r : List (Int × Int)) (el : l.length = n) (er : r = (l.drop f).take W) (hf : f = Y * W) (hW : 0 < W ∧ W ≤ 24) (hn : f + W ≤ n) (hc : n ≤ cap) (hn2 : n ≤ 1048576) (hcell : ∀ q (h : q < l.length), cellB l[q] = true) (w : World)
    (hb : b < w.heap.size) (hr : ∀ i u, (cP l)[i]? = some u → w.cell? ⟨b, off + i, none⟩ = some u) :
    Calls Try.prog 13 #[.agg #[.int .i64 (W : Int), .int .i64 (H : Int), .int .i64 i2, .int .i64 i3, .int .i64 i4, .int .i64 i5, .int .i64 i6, .int .i64 i7, .int .i64 i8, .string t, .slice (some ⟨b, off, none⟩) n cap, vh], .int .i64 (Y : Int)] w fun e w' => e = .returned (.string (rowT r W)) ∧ Below w.heap.size w w' := by
  have HB0 := hide ((Below.refl w.heap.size w).alloc (Nat.le_refl _) (.cells #[.int .i64 (W : Int), .int .i64 (H : Int), .int .i64 i2, .int .i64 i3, .int .i64 i4, .int .i64 i5, .int .i64 i6, .int .i64 i7, .int .i64 i8, .string t, .slice (some ⟨b, off, none⟩) n cap, vh] 31))
  have rl : r.length = W := by rw [er, List.length_take, List.length_drop]; omega
  have HX : Hid (∀ q (h : q < r.length), ∃ x : Nat, r[q].1 = (x : Int) ∧ x ≤ 1114111 ∧ runeB (x : Int) = true ∧ w.cell? ⟨b, off + (f + q) * 2, none⟩ = some (.int .i64 (x : Int))) := fun q hq => by
    have hq1 : f + q < l.length := by omega
    have e : r[q] = l[f + q] := by subst er; rw [List.getElem_take, List.getElem_drop]
    obtain ⟨x0, x1⟩ := row_two hr (f + q) hq1
    have hcb := hcell (f + q) hq1
    unfold cellB at hcb
    rw [Bool.and_eq_true] at hcb
    have h1 : 32 ≤ l[f + q].1 ∧ l[f + q].1 ≤ 1114111 ∧ l[f + q].1 ≠ 127 ∧ ¬ (55296 ≤ l[f + q].1 ∧ l[f + q].1 ≤ 57343) := of_decide_eq_true hcb.1
    have h3 : l[f + q].1 = (l[f + q].1.toNat : Int) := by omega
    refine ⟨l[f + q].1.toNat, by rw [e]; exact h3, by omega, by rw [← h3]; exact hcb.1, ?_⟩
    rw [x0, ← h3]
  have HRL := hide rl
  have p1 : (Y : Int) * (W : Int) = (f : Int) := by rw [hf]; push_cast; rfl
  have hY : Y ≤ 1048576 := by
    have : Y * 1 ≤ Y * W := Nat.mul_le_mul_left Y hW.1
    omega
  clear hr hcell hf el er rl
  go_enter Try.func13, Try.ntmps13
  go_wp2_with fail
  go_loopw [5, 6, 7] (fun o e i wr => ∃ k : Nat, k ≤ W ∧ i = .int .i64 k ∧ o = .string (runesBytes (firsts r k)) ∧ e = .int .i64 ((rowT r k).size : Int) ∧ Hid (Below (w.heap.size + 1) (w.alloc (.cells #[.int .i64 (W : Int), .int .i64 (H : Int), .int .i64 i2, .int .i64 i3, .int .i64 i4, .int .i64 i5, .int .i64 i6, .int .i64 i7, .int .i64 i8, .string t, .slice (some ⟨b, off, none⟩) n cap, vh] 31)) wr)) (fun _ _ i _ => W - (intOf i).toNat)
  case atStart => exact ⟨0, by omega, rfl, rfl, rfl, Below.refl _ _⟩
  case round =>
    obtain ⟨k, hk, rfl, rfl, rfl, HB⟩ := hrel
    have K2 : ∀ o, wr.cell? ⟨w.heap.size, o, none⟩ = (#[.int .i64 (W : Int), .int .i64 (H : Int), .int .i64 i2, .int .i64 i3, .int .i64 i4, .int .i64 i5, .int .i64 i6, .int .i64 i7, .int .i64 i8, .string t, .slice (some ⟨b, off, none⟩) n cap, vh] : Array Value)[o]? := fun o => ((unhide HB).cell (p := ⟨w.heap.size, o, none⟩) (Nat.lt_succ_self _)).trans (World.cell?_alloc_mark w _ _ _ o)
    have HBW := hide ((unhide HB0).trans ((unhide HB).mono (Nat.le_succ _)))
    have hzz : w.heap.size + 1 ≤ wr.heap.size := by have := (unhide HB).size; simp at this; exact this
    by_cases hlt : k < W
    · have hq : k < r.length := by rw [unhide HRL]; exact hlt
      obtain ⟨x, ex, hx, hrx, y0⟩ := unhide HX k hq
      have hy0 : wr.cell? ⟨b, off + (f + k) * 2, none⟩ = some (.int .i64 (x : Int)) := ((unhide HBW).cell (p := ⟨b, off + (f + k) * 2, none⟩) hb).trans y0
      have hlt' : (k : Int) < (W : Int) := by omega
      have hfk : (f : Int) + (k : Int) < (n : Int) := by omega
      have hfk2 : ((f : Int) + (k : Int)).toNat = f + k := by omega
      obtain ⟨X, hX⟩ : ∃ X, X = runesBytes (firsts r k) := ⟨_, rfl⟩
      have hXl : X.size ≤ 96 := by rw [hX]; have := runes_le r k; omega
      have hel : (Utf8.encode (x : Int)).size ≤ 4 := encode_size_le _
      have HN : Hid (runesBytes (firsts r (k + 1)) = X ++ Utf8.encode (x : Int)) := by show _ = _; rw [firsts_snoc r k hq, runes_snoc, ex, hX]
      rw [← hX]
      have HRX := hide hrx
      clear hrx hX y0
      by_cases h32 : x = 32
      · have HE : Hid (rowT r (k + 1) = rowT r k) := by show _ = _; unfold rowT; rw [trim_blank hq (by rw [ex, h32]; rfl)]
        have hne : ((x : Int) != 32) = false := by rw [bne_eq_false_iff_eq]; omega
        clear ex h32
        go_wp2_with (go_at_call 22; refine (sutf (x : Int) (unhide HRX) _).mono ?_; rintro e w2 ⟨rfl, hb2⟩; have K3 : ∀ o, w2.cell? ⟨w.heap.size, o, none⟩ = (#[.int .i64 (W : Int), .int .i64 (H : Int), .int .i64 i2, .int .i64 i3, .int .i64 i4, .int .i64 i5, .int .i64 i6, .int .i64 i7, .int .i64 i8, .string t, .slice (some ⟨b, off, none⟩) n cap, vh] : Array Value)[o]? := (fun o => (hb2.cell (p := ⟨w.heap.size, o, none⟩) hzz).trans (K2 o)); have hy1 : w2.cell? ⟨b, off + (f + k) * 2, none⟩ = some (.int .i64 (x : Int)) := (hb2.cell (p := ⟨b, off + (f + k) * 2, none⟩) (Nat.lt_of_lt_of_le hb (unhide HBW).size)).trans hy0; have HB2 := hide ((unhide HB).trans (hb2.mono hzz)); clear hb2)
        go_roundw
        case rel => exact ⟨k + 1, by omega, by go_num, by rw [unhide HN], by rw [unhide HE], HB2⟩
        case measure => simp [intOf]; omega
      · have HE : Hid (rowT r (k + 1) = X ++ Utf8.encode (x : Int)) := by show _ = _; rw [← unhide HN]; unfold rowT; rw [trim_not hq (by rw [ex]; omega)]
        have hne : ((x : Int) != 32) = true := by rw [bne_iff_ne]; omega
        clear ex h32
        go_wp2_with (go_at_call 22; refine (sutf (x : Int) (unhide HRX) _).mono ?_; rintro e w2 ⟨rfl, hb2⟩; have K3 : ∀ o, w2.cell? ⟨w.heap.size, o, none⟩ = (#[.int .i64 (W : Int), .int .i64 (H : Int), .int .i64 i2, .int .i64 i3, .int .i64 i4, .int .i64 i5, .int .i64 i6, .int .i64 i7, .int .i64 i8, .string t, .slice (some ⟨b, off, none⟩) n cap, vh] : Array Value)[o]? := (fun o => (hb2.cell (p := ⟨w.heap.size, o, none⟩) hzz).trans (K2 o)); have hy1 : w2.cell? ⟨b, off + (f + k) * 2, none⟩ = some (.int .i64 (x : Int)) := (hb2.cell (p := ⟨b, off + (f + k) * 2, none⟩) (Nat.lt_of_lt_of_le hb (unhide HBW).size)).trans hy0; have HB2 := hide ((unhide HB).trans (hb2.mono hzz)); clear hb2)
        go_roundw
        case rel => exact ⟨k + 1, by omega, by go_num, by rw [unhide HN], congrArg (Value.int .i64) (by have h1 := congrArg ByteArray.size (unhide HE); have h2 : (X ++ Utf8.encode (x : Int)).size = X.size + (Utf8.encode (x : Int)).size := ByteArray.size_append; omega), HB2⟩
        case measure => simp [intOf]; omega
    · have ek : k = W := by omega
      subst ek
      have hle := rowT_le r k (by rw [unhide HRL]; exact Nat.le_refl _)
      have HV := hide (rowT_pre r k (by rw [unhide HRL]; exact Nat.le_refl _))
      have hXl := runes_le r k
      obtain ⟨X, hX⟩ : ∃ X, X = runesBytes (firsts r k) := ⟨_, rfl⟩
      rw [← hX] at hle hXl HV ⊢
      obtain ⟨z, hz⟩ : ∃ z, z = (rowT r k).size := ⟨_, rfl⟩
      rw [← hz] at hle HV ⊢
      have hz0 : (0 : Int) ≤ (z : Int) := by omega
      have hz1 : (z : Int) ≤ (X.size : Int) := by omega
      clear hX hz hlt
      go_wp2_with fail
      go_ret
      exact ⟨ret_string (unhide HV), unhide HBW⟩
set_option maxHeartbeats 2000000 in
set_option maxRecDepth 100000 in
theorem srt (i0 i1 i2 i3 i4 i5 i6 i7 i8 : Int) (t : ByteArray) (a : Option Addr) (cap : Nat) (l : List (Int × Int)) (b : Option Addr) (capb : Nat) (m : List ByteArray) (ht : t.size ≤ 1048576) (hl : l.length ≤ 1048576) (hm : m.length ≤ 1048576) (hz : ∀ k (h : k < m.length), m[k].size ≤ 1048576) (y : Int) (hcap : l.length ≤ cap) (w : World) (hr : RowV w a (cP l)) (hs : RowV w b (cS m)) :
    Calls Try.prog 5 #[.agg #[.int .i64 i0, .int .i64 i1, .int .i64 i2, .int .i64 i3, .int .i64 i4, .int .i64 i5, .int .i64 i6, .int .i64 i7, .int .i64 i8, .string t, .slice a l.length cap, .slice b m.length capb], .int .i64 y] w fun e w' => e = .returned (.tuple #[.string (rtV (okB i0 i1 i2 i3 i4 i5 i6 i7 i8 t.data.toList l m) i0 i1 l y), .int .i64 (rcC (okB i0 i1 i2 i3 i4 i5 i6 i7 i8 t.data.toList l m) i1 y)]) ∧ Below w.heap.size w w' := by
  have HB0 := hide ((Below.refl w.heap.size w).alloc (Nat.le_refl _) (.cells #[.int .i64 i0, .int .i64 i1, .int .i64 i2, .int .i64 i3, .int .i64 i4, .int .i64 i5, .int .i64 i6, .int .i64 i7, .int .i64 i8, .string t, .slice a l.length cap, .slice b m.length capb] 31))
  have HT := hide ht
  have HL := hide hl
  have HM := hide hm
  have HZ := hide hz
  have HR := hide hr
  have HS := hide hs
  clear ht hl hm hz hr hs
  cases h : okB i0 i1 i2 i3 i4 i5 i6 i7 i8 t.data.toList l m
  · have hc : rcC false i1 y = 1 := rfl
    have HV : Hid (rtV false i0 i1 l y = ⟨#[]⟩) := rfl
    rw [hc, unhide HV]
    go_enter Try.func5, Try.ntmps5
    go_wp2_with (go_at_call 11; refine (sok i0 i1 i2 i3 i4 i5 i6 i7 i8 t a cap l b capb m (unhide HT) (unhide HL) (unhide HM) (unhide HZ) _ ((unhide HR).below (unhide HB0)) ((unhide HS).below (unhide HB0))).mono ?_; rintro e w2 ⟨rfl, hb⟩; rw [h]; have HB := hide ((unhide HB0).trans (hb.mono (unhide HB0).size)); have K2 : ∀ o, w2.cell? ⟨w.heap.size, o, none⟩ = (#[.int .i64 i0, .int .i64 i1, .int .i64 i2, .int .i64 i3, .int .i64 i4, .int .i64 i5, .int .i64 i6, .int .i64 i7, .int .i64 i8, .string t, .slice a l.length cap, .slice b m.length capb] : Array Value)[o]? := (fun o => (hb.cell (p := ⟨w.heap.size, o, none⟩) (by simp)).trans (World.cell?_alloc_mark w _ _ _ o)); clear hb)
    go_ret2
    exact ⟨rfl, unhide HB⟩
  · obtain ⟨W, H, e0, e1, w1, w2, h3, h4, hlen, hcell⟩ := ok_parts h
    have hb1 : 2 ≤ i1 := by omega
    have hb2 : i1 ≤ 10 := by omega
    cases hy : inB y 0 (i1 - 1)
    · have hc1 : rcC true i1 y = 4 := by unfold rcC; rw [hy]; rfl
      have HV : Hid (rtV true i0 i1 l y = ⟨#[]⟩) := by show _ = _; unfold rtV; rw [hy]; rfl
      rw [hc1, unhide HV]
      clear e0 e1 w1 w2 h3 h4 hlen hcell hc1
      go_enter Try.func5, Try.ntmps5
      go_wp2_with (first | (go_at_call 11; refine (sok i0 i1 i2 i3 i4 i5 i6 i7 i8 t a cap l b capb m (unhide HT) (unhide HL) (unhide HM) (unhide HZ) _ ((unhide HR).below (unhide HB0)) ((unhide HS).below (unhide HB0))).mono ?_; rintro e w2 ⟨rfl, hb⟩; rw [h]; have HB := hide ((unhide HB0).trans (hb.mono (unhide HB0).size)); have K2 : ∀ o, w2.cell? ⟨w.heap.size, o, none⟩ = (#[.int .i64 i0, .int .i64 i1, .int .i64 i2, .int .i64 i3, .int .i64 i4, .int .i64 i5, .int .i64 i6, .int .i64 i7, .int .i64 i8, .string t, .slice a l.length cap, .slice b m.length capb] : Array Value)[o]? := (fun o => (hb.cell (p := ⟨w.heap.size, o, none⟩) (by simp)).trans (World.cell?_alloc_mark w _ _ _ o)); clear hb) | (go_at_call 12; refine (sin _ _ _ _).mono ?_; rintro e w3 ⟨rfl, rfl⟩; rw [hy]))
      go_ret2
      exact ⟨rfl, unhide HB⟩
    · have hc1 : rcC true i1 y = 0 := by unfold rcC; rw [hy]; rfl
      have hy2 : 0 ≤ y ∧ y ≤ i1 - 1 := of_decide_eq_true hy
      obtain ⟨Y, eY⟩ : ∃ Y : Nat, y = (Y : Int) := ⟨y.toNat, by omega⟩
      have hYH : Y * W + W ≤ W * H := by
        have : (Y + 1) * W ≤ H * W := Nat.mul_le_mul_right W (by omega)
        rw [Nat.add_mul, Nat.one_mul, Nat.mul_comm H W] at this; exact this
      have hpos : 0 < (cP l).length := by rw [cP_len, hlen]; have : 0 < W * H := Nat.mul_pos (by omega) (by omega); omega
      obtain ⟨b1, off, ha, hblt, hcr⟩ := (unhide HR).at hpos
      have HV : Hid (rtV true i0 i1 l y = rowT ((l.drop (Y * W)).take W) W) := by show _ = _; unfold rtV; rw [hy, eY, e0]; rfl
      rw [hc1, unhide HV]
      have HRC : Hid (∀ w2 : World, Below w.heap.size w w2 → Calls Try.prog 13 #[.agg #[.int .i64 i0, .int .i64 i1, .int .i64 i2, .int .i64 i3, .int .i64 i4, .int .i64 i5, .int .i64 i6, .int .i64 i7, .int .i64 i8, .string t, .slice a l.length cap, .slice b m.length capb], .int .i64 y] w2 fun e w' => e = .returned (.string (rowT ((l.drop (Y * W)).take W) W)) ∧ Below w2.heap.size w2 w') := fun w2 hb2 => by
        rw [eY, ha, e0, e1]
        exact srow W H Y (Y * W) b1 off l.length cap i2 i3 i4 i5 i6 i7 i8 t (.slice b m.length capb) rfl l _ rfl rfl rfl ⟨by omega, by omega⟩ (by omega) hcap (unhide HL) hcell w2 (Nat.lt_of_lt_of_le hblt hb2.size) (fun i u hu => (hb2.cell (p := ⟨b1, off + i, none⟩) hblt).trans (hcr i u hu))
      clear hc1 e0 e1 hy2 eY hpos hcr ha hlen hcell hYH w1 w2 h3 h4
      go_enter Try.func5, Try.ntmps5
      go_wp2_with (first | (go_at_call 11; refine (sok i0 i1 i2 i3 i4 i5 i6 i7 i8 t a cap l b capb m (unhide HT) (unhide HL) (unhide HM) (unhide HZ) _ ((unhide HR).below (unhide HB0)) ((unhide HS).below (unhide HB0))).mono ?_; rintro e w2 ⟨rfl, hb⟩; rw [h]; have HB := hide ((unhide HB0).trans (hb.mono (unhide HB0).size)); have K2 : ∀ o, w2.cell? ⟨w.heap.size, o, none⟩ = (#[.int .i64 i0, .int .i64 i1, .int .i64 i2, .int .i64 i3, .int .i64 i4, .int .i64 i5, .int .i64 i6, .int .i64 i7, .int .i64 i8, .string t, .slice a l.length cap, .slice b m.length capb] : Array Value)[o]? := (fun o => (hb.cell (p := ⟨w.heap.size, o, none⟩) (by simp)).trans (World.cell?_alloc_mark w _ _ _ o)); clear hb) | (go_at_call 12; refine (sin _ _ _ _).mono ?_; rintro e w3 ⟨rfl, rfl⟩; rw [hy]) | (go_at_call 13; refine (unhide HRC _ (unhide HB)).mono ?_; rintro e w3 ⟨rfl, hb3⟩; have HB3 := hide ((unhide HB).trans (hb3.mono (unhide HB).size)); clear hb3))
      go_ret2
      exact ⟨rfl, unhide HB3⟩
end Go.Proofs.Ytjdkafcplnghlaa
