/- RowText: what the program answers. -/
import Derived.Test.YtjdkafcplnghlaaTxtM
import Derived.Test.YtjdkafcplnghlaaCtI
namespace Go.Proofs.Ytjdkafcplnghlaa
open Go.ChangeShapes Go.WideShapes Go.ChangeAt Go.RowKit
set_option linter.unusedVariables false
set_option maxHeartbeats 2000000 in
set_option maxRecDepth 100000 in
theorem irowtext (B W y f b off n cap : Nat) (l r : List (Int × Int)) (el : l.length = n) (er : r = (l.drop f).take W) (hf : f = y * W) (hW : 0 < W ∧ W ≤ 24) (hn : f + W ≤ n) (hc : n ≤ cap) (hn2 : n ≤ 1048576) (hcell : ∀ q (h : q < l.length), cellB l[q] = true) (w : World) (hB : B < w.heap.size) (c0 : w.cell? ⟨B, 0, none⟩ = some (.int .i64 (W : Int))) (c10 : w.cell? ⟨B, 10, none⟩ = some (.slice (some ⟨b, off, none⟩) n cap))
    (hb : b < w.heap.size) (hr : ∀ i u, (cP l)[i]? = some u → w.cell? ⟨b, off + i, none⟩ = some u) :
    Calls Try.prog 17 #[.pointer (some ⟨B, 0, none⟩), .int .i64 (y : Int)] w fun e w' => e = .returned (.string (rowT r W)) ∧ Below w.heap.size w w' := by
  have HT := hide (irow B W y f (f + W) b off n cap hf rfl hW hn hc hn2 w c0 c10)
  have rl : r.length = W := by rw [er, List.length_take, List.length_drop]; omega
  have HCE : Hid (∀ q (h : q < r.length), cellB r[q] = true) := fun q hq => by
    have e : r[q] = l[f + q]'(by omega) := by subst er; rw [List.getElem_take, List.getElem_drop]
    rw [e]; exact hcell (f + q) (by omega)
  have HRR : Hid (∀ i u, (cP r)[i]? = some u → w.cell? ⟨b, off + f * 2 + i, none⟩ = some u) := fun i u hu => by
    have hi : i < r.length * 2 := by have := (List.getElem?_eq_some_iff.1 hu).1; rwa [cP_len] at this
    rw [show off + f * 2 + i = off + (f * 2 + i) from by omega]
    refine hr _ _ ?_
    obtain ⟨z0, z1⟩ := cP_at r (i / 2) (by omega)
    obtain ⟨l0, l1⟩ := cP_at l (f + i / 2) (by omega)
    have e : r[i / 2]'(by omega) = l[f + i / 2]'(by omega) := by subst er; rw [List.getElem_take, List.getElem_drop]
    rcases Nat.mod_two_eq_zero_or_one i with h | h
    · rw [show i / 2 * 2 = i from by omega, hu, e] at z0
      rw [show f * 2 + i = (f + i / 2) * 2 from by omega, l0, z0]
    · rw [show i / 2 * 2 + 1 = i from by omega, hu, e] at z1
      rw [show f * 2 + i = (f + i / 2) * 2 + 1 from by omega, l1, z1]
  have HRL := hide rl
  clear hr hcell hf el er c0 c10 rl
  go_enter Try.func17, Try.ntmps17
  go_wp2_with (first | (go_at_call 26; refine (unhide HT).mono ?_; rintro e w2 ⟨rfl, hb2⟩; have HB2 := hide hb2; clear hb2) | (go_at_call 25; refine (icelltext b (off + f * 2) W W r (unhide HRL) hW (Nat.le_refl _) (unhide HCE) _ (Nat.lt_of_lt_of_le hb (unhide HB2).size) (fun i u hu => ((unhide HB2).cell (p := ⟨b, off + f * 2 + i, none⟩) hb).trans (unhide HRR i u hu))).mono ?_; rintro e w3 ⟨rfl, hb3⟩; have HB3 := hide ((unhide HB2).trans (hb3.mono (unhide HB2).size)); clear hb3))
  go_ret
  exact ⟨rfl, unhide HB3⟩
/-- What RowText answers. -/
def rtV (ok : Bool) (W H : Int) (l : List (Int × Int)) (y : Int) : ByteArray := if ok then (if inB y 0 (H - 1) then rowT ((l.drop (y.toNat * W.toNat)).take W.toNat) W.toNat else ⟨#[]⟩) else ⟨#[]⟩
set_option maxHeartbeats 2000000 in
set_option maxRecDepth 100000 in
theorem irt (i0 i1 i2 i3 i4 i5 i6 i7 i8 : Int) (t : ByteArray) (a : Option Addr) (cap : Nat) (l : List (Int × Int)) (b : Option Addr) (capb : Nat) (m : List ByteArray) (ht : t.size ≤ 1048576) (hl : l.length ≤ 1048576) (hm : m.length ≤ 1048576) (hz : ∀ k (h : k < m.length), m[k].size ≤ 1048576) (y : Int) (hcap : l.length ≤ cap) (w : World) (hr : RowV w a (cP l)) (hs : RowV w b (cS m)) :
    Calls Try.prog 7 #[.agg #[.int .i64 i0, .int .i64 i1, .int .i64 i2, .int .i64 i3, .int .i64 i4, .int .i64 i5, .int .i64 i6, .int .i64 i7, .int .i64 i8, .string t, .slice a l.length cap, .slice b m.length capb], .int .i64 y] w fun e w' => e = .returned (.tuple #[.string (rtV (okB i0 i1 i2 i3 i4 i5 i6 i7 i8 t.data.toList l m) i0 i1 l y), .int .i64 (rcC (okB i0 i1 i2 i3 i4 i5 i6 i7 i8 t.data.toList l m) i1 y)]) ∧ Below w.heap.size w w' := by
  have HB0 := hide ((Below.refl w.heap.size w).alloc (Nat.le_refl _) (.cells #[.int .i64 i0, .int .i64 i1, .int .i64 i2, .int .i64 i3, .int .i64 i4, .int .i64 i5, .int .i64 i6, .int .i64 i7, .int .i64 i8, .string t, .slice a l.length cap, .slice b m.length capb] 31))
  have K : ∀ o, (w.alloc (.cells #[.int .i64 i0, .int .i64 i1, .int .i64 i2, .int .i64 i3, .int .i64 i4, .int .i64 i5, .int .i64 i6, .int .i64 i7, .int .i64 i8, .string t, .slice a l.length cap, .slice b m.length capb] 31)).cell? ⟨w.heap.size, o, none⟩ = (#[.int .i64 i0, .int .i64 i1, .int .i64 i2, .int .i64 i3, .int .i64 i4, .int .i64 i5, .int .i64 i6, .int .i64 i7, .int .i64 i8, .string t, .slice a l.length cap, .slice b m.length capb] : Array Value)[o]? := fun o => World.cell?_alloc_mark w _ _ _ o
  have HT := hide ht
  have HL := hide hl
  have HM := hide hm
  have HZ := hide hz
  have HR := hide hr
  have HS := hide hs
  clear ht hl hm hz hr hs
  cases h : okB i0 i1 i2 i3 i4 i5 i6 i7 i8 t.data.toList l m
  · have hc : rcC false i1 y = 1 := rfl
    have HV : Hid (rtV false i0 i1 l y = ⟨#[]⟩) := rfl
    rw [hc, unhide HV]
    have hc : rcC (okB i0 i1 i2 i3 i4 i5 i6 i7 i8 t.data.toList l m) i1 y = 1 := by rw [h]; rfl
    clear h
    go_enter Try.func7, Try.ntmps7
    go_wp2_with (go_at_call 16; refine (irowfault w.heap.size i0 i1 i2 i3 i4 i5 i6 i7 i8 y t a cap l b capb m (unhide HT) (unhide HL) (unhide HM) (unhide HZ) _ (by simp) K ((unhide HR).below (unhide HB0)) ((unhide HS).below (unhide HB0))).mono ?_; rintro e w2 ⟨rfl, hb⟩; rw [hc]; have HB := hide ((unhide HB0).trans (hb.mono (unhide HB0).size)); clear hb)
    go_ret2
    exact ⟨rfl, unhide HB⟩
  · cases hy : inB y 0 (i1 - 1)
    · have hc1 : rcC true i1 y = 4 := by unfold rcC; rw [hy]; rfl
      have HV : Hid (rtV true i0 i1 l y = ⟨#[]⟩) := by show _ = _; unfold rtV; rw [hy]; rfl
      rw [hc1, unhide HV]
      have hc : rcC (okB i0 i1 i2 i3 i4 i5 i6 i7 i8 t.data.toList l m) i1 y = 4 := by rw [h]; exact hc1
      clear h hy hc1
      go_enter Try.func7, Try.ntmps7
      go_wp2_with (go_at_call 16; refine (irowfault w.heap.size i0 i1 i2 i3 i4 i5 i6 i7 i8 y t a cap l b capb m (unhide HT) (unhide HL) (unhide HM) (unhide HZ) _ (by simp) K ((unhide HR).below (unhide HB0)) ((unhide HS).below (unhide HB0))).mono ?_; rintro e w2 ⟨rfl, hb⟩; rw [hc]; have HB := hide ((unhide HB0).trans (hb.mono (unhide HB0).size)); clear hb)
      go_ret2
      exact ⟨rfl, unhide HB⟩
    · have hc1 : rcC true i1 y = 0 := by unfold rcC; rw [hy]; rfl
      have hc : rcC (okB i0 i1 i2 i3 i4 i5 i6 i7 i8 t.data.toList l m) i1 y = 0 := by rw [h]; exact hc1
      obtain ⟨W, H, e0, e1, w1, w2, h3, h4, hlen, hcell⟩ := ok_parts h
      have hy2 : 0 ≤ y ∧ y ≤ i1 - 1 := of_decide_eq_true hy
      obtain ⟨Y, eY⟩ : ∃ Y : Nat, y = (Y : Int) := ⟨y.toNat, by omega⟩
      have hYH : Y * W + W ≤ W * H := by
        have : (Y + 1) * W ≤ H * W := Nat.mul_le_mul_right W (by omega)
        rw [Nat.add_mul, Nat.one_mul, Nat.mul_comm H W] at this; exact this
      have hpos : 0 < (cP l).length := by rw [cP_len, hlen]; have : 0 < W * H := Nat.mul_pos (by omega) (by omega); omega
      obtain ⟨b1, off, ha, hblt, hcr⟩ := (unhide HR).at hpos
      have HV : Hid (rtV true i0 i1 l y = rowT ((l.drop (Y * W)).take W) W) := by show _ = _; unfold rtV; rw [hy, eY, e0]; rfl
      rw [hc1, unhide HV]
      have HRC : Hid (∀ w2 : World, w.heap.size < w2.heap.size → (∀ o, w2.cell? ⟨w.heap.size, o, none⟩ = (#[.int .i64 i0, .int .i64 i1, .int .i64 i2, .int .i64 i3, .int .i64 i4, .int .i64 i5, .int .i64 i6, .int .i64 i7, .int .i64 i8, .string t, .slice a l.length cap, .slice b m.length capb] : Array Value)[o]?) → Below w.heap.size w w2 → Calls Try.prog 17 #[.pointer (some ⟨w.heap.size, 0, none⟩), .int .i64 y] w2 fun e w' => e = .returned (.string (rowT ((l.drop (Y * W)).take W) W)) ∧ Below w2.heap.size w2 w') := fun w2 hz2 K2 hb2 => by
        rw [eY]
        exact irowtext w.heap.size W Y (Y * W) b1 off l.length cap l _ rfl rfl rfl ⟨by omega, by omega⟩ (by omega) hcap (unhide HL) hcell w2 hz2 (by rw [K2 0, e0]; rfl) (by rw [K2 10, ha]; rfl) (Nat.lt_of_lt_of_le hblt hb2.size) (fun i u hu => (hb2.cell (p := ⟨b1, off + i, none⟩) hblt).trans (hcr i u hu))
      clear h hy hc1 e0 e1 hy2 eY hpos hcr ha hlen hcell hYH w1 w2 h3 h4
      go_enter Try.func7, Try.ntmps7
      go_wp2_with (first | (go_at_call 16; refine (irowfault w.heap.size i0 i1 i2 i3 i4 i5 i6 i7 i8 y t a cap l b capb m (unhide HT) (unhide HL) (unhide HM) (unhide HZ) _ (by simp) K ((unhide HR).below (unhide HB0)) ((unhide HS).below (unhide HB0))).mono ?_; rintro e w2 ⟨rfl, hb⟩; rw [hc]; have HB := hide ((unhide HB0).trans (hb.mono (unhide HB0).size)); have K2 : ∀ o, w2.cell? ⟨w.heap.size, o, none⟩ = (#[.int .i64 i0, .int .i64 i1, .int .i64 i2, .int .i64 i3, .int .i64 i4, .int .i64 i5, .int .i64 i6, .int .i64 i7, .int .i64 i8, .string t, .slice a l.length cap, .slice b m.length capb] : Array Value)[o]? := (fun o => (hb.cell (p := ⟨w.heap.size, o, none⟩) (by simp)).trans (K o)); have hz2 : w.heap.size < w2.heap.size := (by have := hb.size; simp at this; omega); clear hb) | (go_at_call 17; refine (unhide HRC _ hz2 K2 (unhide HB)).mono ?_; rintro e w3 ⟨rfl, hb3⟩; have HB3 := hide ((unhide HB).trans (hb3.mono (unhide HB).size)); clear hb3))
      go_ret2
      exact ⟨rfl, unhide HB3⟩
end Go.Proofs.Ytjdkafcplnghlaa
