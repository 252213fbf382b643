/- RowText: what the program answers. -/
import Derived.Test.YtgmddmcehblklabTxtM
namespace Go.Proofs.Ytgmddmcehblklab
open Go.ChangeShapes Go.WideShapes Go.ChangeAt Go.RowKit
set_option linter.unusedVariables false
theorem Try.infR21 : (Try.prog.info? 21).map (fun i => (i.zero, i.size, i.bytes)) = some (some (.int .i32 0), 1, 4) := by kernel_rfl
theorem conv_runes {w : World} {base : Nat} {v : Value} {l : List Int} (h : w.ownsRow base 21 1 v l.length (cR l)) : (convert 80 9 v).run Try.prog w = .ok (.string (runesBytes l)) w := by
  rcases h.2 with ⟨rfl, h0⟩ | ⟨g, cap, cur, rfl, _, hg, _, _, _, ht⟩
  · obtain rfl : l = [] := List.length_eq_zero_iff.1 h0
    exact run_convert_runes_nil w _ _ _ 0 0 Try.underlying80 Try.underlying21 Try.underlying9
  · have := run_convert_runes (P := Try.prog) w 80 9 21 ⟨g, 0, none⟩ l.length cap l (Nat.le_refl _) Try.underlying80 Try.underlying21 Try.underlying9 (fun j hj => World.ownsRow.cells h rfl j _ (by simp [cR, hj]))
    rw [List.take_length] at this
    exact this
theorem wrap32' (n : Int) (h0 : 0 ≤ n) (h1 : n ≤ 1114111) : IntKind.i32.wrap n = n := by
  simp only [IntKind.wrap, IntKind.signed, IntKind.bits]
  simp
  omega
set_option maxHeartbeats 2000000 in
set_option maxRecDepth 100000 in
theorem irowtext (B W y f b off n cap : Nat) (l r : List (Int × Int)) (el : l.length = n) (er : r = (l.drop f).take W) (hf : f = y * W) (hW : 0 < W ∧ W ≤ 24) (hn : f + W ≤ n) (hc : n ≤ cap) (hn2 : n ≤ 1048576) (hcell : ∀ q (h : q < l.length), cellB l[q] = true) (w : World) (hB : B < w.heap.size) (c0 : w.cell? ⟨B, 0, none⟩ = some (.int .i64 (W : Int))) (c10 : w.cell? ⟨B, 10, none⟩ = some (.slice (some ⟨b, off, none⟩) n cap))
    (hb : b < w.heap.size) (hr : ∀ i u, (cP l)[i]? = some u → w.cell? ⟨b, off + i, none⟩ = some u) :
    Calls Try.prog 43 #[.pointer (some ⟨B, 0, none⟩), .int .i64 (y : Int)] w fun e w' => e = .returned (.string (rowT r W)) ∧ Below w.heap.size w w' := by
  obtain ⟨i0, hi, hz0, hz1, hz2⟩ := info_parts Try.infR21
  have HT := hide (irow B W y f (f + W) b off n cap hf rfl hW hn hc hn2 w c0 c10)
  have rl : r.length = W := by rw [er, List.length_take, List.length_drop]; omega
  have HX : Hid (∀ q (h : q < r.length), ∃ x z : Nat, r[q].1 = (x : Int) ∧ x ≤ 1114111 ∧ w.cell? ⟨b, off + f * 2 + q * 2, none⟩ = some (.int .i64 (x : Int)) ∧ w.cell? ⟨b, off + f * 2 + q * 2 + 1, none⟩ = some (.int .i64 (z : Int))) := fun q hq => by
    have hq1 : f + q < l.length := by omega
    have e : r[q] = l[f + q] := by subst er; rw [List.getElem_take, List.getElem_drop]
    obtain ⟨x0, x1⟩ := row_two hr (f + q) hq1
    have hcb := hcell (f + q) hq1
    unfold cellB at hcb
    rw [Bool.and_eq_true] at hcb
    have h1 : 32 ≤ l[f + q].1 ∧ l[f + q].1 ≤ 1114111 ∧ l[f + q].1 ≠ 127 ∧ ¬ (55296 ≤ l[f + q].1 ∧ l[f + q].1 ≤ 57343) := of_decide_eq_true hcb.1
    have h2 : 0 ≤ l[f + q].2 ∧ l[f + q].2 ≤ 127 := of_decide_eq_true hcb.2
    refine ⟨l[f + q].1.toNat, l[f + q].2.toNat, by rw [e]; omega, by omega, ?_, ?_⟩
    · rw [show off + f * 2 + q * 2 = off + (f + q) * 2 from by omega, x0]; congr 2; omega
    · rw [show off + f * 2 + q * 2 + 1 = off + (f + q) * 2 + 1 from by omega, x1]; congr 2; omega
  have HRL := hide rl
  clear hr hcell hf el er c0 c10 rl
  go_enter Try.func43, Try.ntmps43
  go_wp2_with (go_at_call 33; refine (unhide HT).mono ?_; rintro e w2 ⟨rfl, hb2⟩; have HB2 := hide hb2; clear hb2)
  go_loopw [5] (fun v wr => ∃ k : Nat, k ≤ W ∧ v = .slice (some ⟨b, off + f * 2, none⟩) k W ∧ Hid (trim r k = trim r W) ∧ wr = w2) (fun v _ => (match v with | .slice _ k _ => k | _ => 0))
  case atStart => exact ⟨W, Nat.le_refl _, rfl, rfl, rfl⟩
  case round =>
    obtain ⟨k, hk, rfl, HTR, rfl⟩ := hrel
    by_cases h0 : k = 0
    · subst h0
      have HTK : Hid (0 = trim r W) := by show _ = _; rw [← unhide HTR]; rfl
      clear HTR
      go_wp2_with fail
      go_loopw [6, 32] (fun v i wr => ∃ j : Nat, j ≤ 0 ∧ i = .int .i64 j ∧ Hid (wr.ownsRow w.heap.size 21 1 v j (cR (firsts r j))) ∧ Hid (Below w.heap.size w wr)) (fun _ i _ => 0 - (intOf i).toNat)
      case atStart => exact ⟨0, Nat.zero_le _, rfl, World.ownsRow_nil _ _ _ _, HB2⟩
      case round =>
        obtain ⟨j, hj, rfl, HO, HB⟩ := hrel
        have ej : j = 0 := by omega
        subst ej
        have hcv := conv_runes (l := firsts r 0) (by rw [firsts_len r 0 (by rw [unhide HRL]; omega)]; exact unhide HO)
        have HV : Hid (rowT r W = runesBytes (firsts r 0)) := by show _ = _; unfold rowT; rw [← unhide HTK]
        go_wp2_with fail
        go_ret
        exact ⟨ret_string (unhide HV).symm, unhide HB⟩
    · obtain ⟨j, rfl⟩ : ∃ j, k = j + 1 := ⟨k - 1, by omega⟩
      have hjr : j < r.length := by rw [unhide HRL]; omega
      obtain ⟨x, z, ex, hx, y0, y1⟩ := unhide HX j hjr
      have hy0 : wr.cell? ⟨b, off + f * 2 + j * 2, none⟩ = some (.int .i64 (x : Int)) := ((unhide HB2).cell (p := ⟨b, off + f * 2 + j * 2, none⟩) hb).trans y0
      have hk1 : ((j + 1 : Nat) : Int) - 1 = (j : Int) := by omega
      have hk2 : (0 : Int) < ((j + 1 : Nat) : Int) := by omega
      by_cases hx32 : x = 32
      · have HTR2 : Hid (trim r j = trim r W) := by show _ = _; rw [← unhide HTR, trim_blank hjr (by rw [ex, hx32]; rfl)]
        subst hx32
        clear y0 y1 ex HTR
        go_wp2_with fail
        go_roundw
        case rel => exact ⟨j, by omega, by first | rfl | simp, HTR2, by first | rfl | trivial⟩
        case measure => simp
      · have HTK : Hid (j + 1 = trim r W) := by show _ = _; rw [← unhide HTR, trim_not hjr (by rw [ex]; omega)]
        have hne : ((x : Int) == 32) = false := by rw [beq_eq_false_iff_ne]; omega
        clear y0 y1 ex HTR hx32
        go_wp2_with fail
        go_loopw [6, 32] (fun v i wr => ∃ q : Nat, q ≤ (j + 1) ∧ i = .int .i64 q ∧ Hid (wr.ownsRow w.heap.size 21 1 v q (cR (firsts r q))) ∧ Hid (Below w.heap.size w wr)) (fun _ i _ => (j + 1) - (intOf i).toNat)
        case atStart => exact ⟨0, Nat.zero_le _, rfl, World.ownsRow_nil _ _ _ _, HB2⟩
        case round =>
          obtain ⟨q, hj, rfl, HO, HB⟩ := hrel
          by_cases hlt : q < (j + 1)
          · have hqr : q < r.length := by rw [unhide HRL]; omega
            obtain ⟨x, z, ex, hx, y0, y1⟩ := unhide HX q hqr
            have hy0 : wr.cell? ⟨b, off + f * 2 + q * 2, none⟩ = some (.int .i64 (x : Int)) := ((unhide HB).cell (p := ⟨b, off + f * 2 + q * 2, none⟩) hb).trans y0
            have hy1 : wr.cell? ⟨b, off + f * 2 + q * 2 + 1, none⟩ = some (.int .i64 (z : Int)) := ((unhide HB).cell (p := ⟨b, off + f * 2 + q * 2 + 1, none⟩) hb).trans y1
            have HN : Hid (cR (firsts r (q + 1)) = cR (firsts r q) ++ [.int .i32 (x : Int)]) := by show _ = _; rw [firsts_snoc r q hqr, ex]; unfold cR; rw [List.map_append]; rfl
            have hw32 := wrap32' (x : Int) (by omega) (by omega)
            have hlt' : (q : Int) < (j : Int) + 1 := by omega
            have hown := unhide HO
            have hz := (unhide HB).size
            have HBC := hide ((unhide HB).alloc hz (.cells #[.int .i64 (x : Int), .int .i64 (z : Int)] 70))
            clear y0 y1 ex hqr
            go_wp2_with (at_builtin; refine wpList_append_lies _ rfl (.tmp 36) (.tmp 40) 80 rfl w.heap.size 21 i0 (.int .i32 0) 1 4 Try.underlying80 hi hz0 hz1 hz2 rfl (by decide) _ _ _ rfl ((hown.alloc (.cells #[.int .i64 (x : Int), .int .i64 (z : Int)] 70)).alloc (.cells #[.int .i32 (x : Int)] 21)) ⟨wr.heap.size + 1, 0, none⟩ 1 1 [.int .i32 (x : Int)] rfl rfl (by have h := news_new (wr.alloc (.cells #[.int .i64 (x : Int), .int .i64 (z : Int)] 70)) [.int .i32 (x : Int)] 21; rw [World.size_alloc] at h; exact h) (by intro u hu; simp at hu; subst hu; rfl) (by decide) (by unfold maxLen; omega) (by omega) (by simp; omega) _ rfl ?_; intro g2 c2 w3 hown2 hgrow2 hat2 hlt2; have HB3 := hide (below_app (unhide HBC) (by simp; omega) (hown.alloc _) (Nat.le_refl _) hgrow2); have HO3 := hide hown2; clear hown2 hgrow2 hat2 hlt2)
            go_roundw
            case rel => exact ⟨q + 1, by omega, by go_num, by show World.ownsRow _ _ _ _ _ _ _; rw [unhide HN]; exact unhide HO3, HB3⟩
            case measure => simp [intOf]; omega
          · have ej : q = j + 1 := by omega
            subst ej
            have hcv := conv_runes (l := firsts r (j + 1)) (by rw [firsts_len r (j + 1) (by rw [unhide HRL]; omega)]; exact unhide HO)
            have HV : Hid (rowT r W = runesBytes (firsts r (j + 1))) := by show _ = _; unfold rowT; rw [← unhide HTK]
            go_wp2_with fail
            go_ret
            exact ⟨ret_string (unhide HV).symm, unhide HB⟩
/-- What RowText answers. -/
def rtV (ok : Bool) (W H : Int) (l : List (Int × Int)) (y : Int) : ByteArray := if ok then (if inB y 0 (H - 1) then rowT ((l.drop (y.toNat * W.toNat)).take W.toNat) W.toNat else ⟨#[]⟩) else ⟨#[]⟩
set_option maxHeartbeats 2000000 in
set_option maxRecDepth 100000 in
theorem irt (i0 i1 i2 i3 i4 i5 i6 i7 i8 : Int) (t : ByteArray) (a : Option Addr) (cap : Nat) (l : List (Int × Int)) (b : Option Addr) (capb : Nat) (m : List ByteArray) (ht : t.size ≤ 1048576) (hl : l.length ≤ 1048576) (hm : m.length ≤ 1048576) (hz : ∀ k (h : k < m.length), m[k].size ≤ 1048576) (y : Int) (hcap : l.length ≤ cap) (w : World) (hr : RowV w a (cP l)) (hs : RowV w b (cS m)) :
    Calls Try.prog 15 #[.agg #[.int .i64 i0, .int .i64 i1, .int .i64 i2, .int .i64 i3, .int .i64 i4, .int .i64 i5, .int .i64 i6, .int .i64 i7, .int .i64 i8, .string t, .slice a l.length cap, .slice b m.length capb], .int .i64 y] w fun e w' => e = .returned (.tuple #[.string (rtV (okB i0 i1 i2 i3 i4 i5 i6 i7 i8 t.data.toList l m) i0 i1 l y), .int .i64 (rcC (okB i0 i1 i2 i3 i4 i5 i6 i7 i8 t.data.toList l m) i1 y)]) ∧ Below w.heap.size w w' := by
  have HB0 := hide ((Below.refl w.heap.size w).alloc (Nat.le_refl _) (.cells #[.int .i64 i0, .int .i64 i1, .int .i64 i2, .int .i64 i3, .int .i64 i4, .int .i64 i5, .int .i64 i6, .int .i64 i7, .int .i64 i8, .string t, .slice a l.length cap, .slice b m.length capb] 29))
  have K : ∀ o, (w.alloc (.cells #[.int .i64 i0, .int .i64 i1, .int .i64 i2, .int .i64 i3, .int .i64 i4, .int .i64 i5, .int .i64 i6, .int .i64 i7, .int .i64 i8, .string t, .slice a l.length cap, .slice b m.length capb] 29)).cell? ⟨w.heap.size, o, none⟩ = (#[.int .i64 i0, .int .i64 i1, .int .i64 i2, .int .i64 i3, .int .i64 i4, .int .i64 i5, .int .i64 i6, .int .i64 i7, .int .i64 i8, .string t, .slice a l.length cap, .slice b m.length capb] : Array Value)[o]? := fun o => World.cell?_alloc_mark w _ _ _ o
  have HT := hide ht
  have HL := hide hl
  have HM := hide hm
  have HZ := hide hz
  have HR := hide hr
  have HS := hide hs
  clear ht hl hm hz hr hs
  cases h : okB i0 i1 i2 i3 i4 i5 i6 i7 i8 t.data.toList l m
  · have hc : rcC false i1 y = 1 := rfl
    have HV : Hid (rtV false i0 i1 l y = ⟨#[]⟩) := rfl
    rw [hc, unhide HV]
    have hc : rcC (okB i0 i1 i2 i3 i4 i5 i6 i7 i8 t.data.toList l m) i1 y = 1 := by rw [h]; rfl
    clear h
    go_enter Try.func15, Try.ntmps15
    go_wp2_with (go_at_call 42; refine (irowfault w.heap.size i0 i1 i2 i3 i4 i5 i6 i7 i8 y t a cap l b capb m (unhide HT) (unhide HL) (unhide HM) (unhide HZ) _ (by simp) K ((unhide HR).below (unhide HB0)) ((unhide HS).below (unhide HB0))).mono ?_; rintro e w2 ⟨rfl, hb⟩; rw [hc]; have HB := hide ((unhide HB0).trans (hb.mono (unhide HB0).size)); clear hb)
    go_ret2
    exact ⟨rfl, unhide HB⟩
  · cases hy : inB y 0 (i1 - 1)
    · have hc1 : rcC true i1 y = 4 := by unfold rcC; rw [hy]; rfl
      have HV : Hid (rtV true i0 i1 l y = ⟨#[]⟩) := by show _ = _; unfold rtV; rw [hy]; rfl
      rw [hc1, unhide HV]
      have hc : rcC (okB i0 i1 i2 i3 i4 i5 i6 i7 i8 t.data.toList l m) i1 y = 4 := by rw [h]; exact hc1
      clear h hy hc1
      go_enter Try.func15, Try.ntmps15
      go_wp2_with (go_at_call 42; refine (irowfault w.heap.size i0 i1 i2 i3 i4 i5 i6 i7 i8 y t a cap l b capb m (unhide HT) (unhide HL) (unhide HM) (unhide HZ) _ (by simp) K ((unhide HR).below (unhide HB0)) ((unhide HS).below (unhide HB0))).mono ?_; rintro e w2 ⟨rfl, hb⟩; rw [hc]; have HB := hide ((unhide HB0).trans (hb.mono (unhide HB0).size)); clear hb)
      go_ret2
      exact ⟨rfl, unhide HB⟩
    · have hc1 : rcC true i1 y = 0 := by unfold rcC; rw [hy]; rfl
      have hc : rcC (okB i0 i1 i2 i3 i4 i5 i6 i7 i8 t.data.toList l m) i1 y = 0 := by rw [h]; exact hc1
      obtain ⟨W, H, e0, e1, w1, w2, h3, h4, hlen, hcell⟩ := ok_parts h
      have hy2 : 0 ≤ y ∧ y ≤ i1 - 1 := of_decide_eq_true hy
      obtain ⟨Y, eY⟩ : ∃ Y : Nat, y = (Y : Int) := ⟨y.toNat, by omega⟩
      have hYH : Y * W + W ≤ W * H := by
        have : (Y + 1) * W ≤ H * W := Nat.mul_le_mul_right W (by omega)
        rw [Nat.add_mul, Nat.one_mul, Nat.mul_comm H W] at this; exact this
      have hpos : 0 < (cP l).length := by rw [cP_len, hlen]; have : 0 < W * H := Nat.mul_pos (by omega) (by omega); omega
      obtain ⟨b1, off, ha, hblt, hcr⟩ := (unhide HR).at hpos
      have HV : Hid (rtV true i0 i1 l y = rowT ((l.drop (Y * W)).take W) W) := by show _ = _; unfold rtV; rw [hy, eY, e0]; rfl
      rw [hc1, unhide HV]
      have HRC : Hid (∀ w2 : World, w.heap.size < w2.heap.size → (∀ o, w2.cell? ⟨w.heap.size, o, none⟩ = (#[.int .i64 i0, .int .i64 i1, .int .i64 i2, .int .i64 i3, .int .i64 i4, .int .i64 i5, .int .i64 i6, .int .i64 i7, .int .i64 i8, .string t, .slice a l.length cap, .slice b m.length capb] : Array Value)[o]?) → Below w.heap.size w w2 → Calls Try.prog 43 #[.pointer (some ⟨w.heap.size, 0, none⟩), .int .i64 y] w2 fun e w' => e = .returned (.string (rowT ((l.drop (Y * W)).take W) W)) ∧ Below w2.heap.size w2 w') := fun w2 hz2 K2 hb2 => by
        rw [eY]
        exact irowtext w.heap.size W Y (Y * W) b1 off l.length cap l _ rfl rfl rfl ⟨by omega, by omega⟩ (by omega) hcap (unhide HL) hcell w2 hz2 (by rw [K2 0, e0]; rfl) (by rw [K2 10, ha]; rfl) (Nat.lt_of_lt_of_le hblt hb2.size) (fun i u hu => (hb2.cell (p := ⟨b1, off + i, none⟩) hblt).trans (hcr i u hu))
      clear h hy hc1 e0 e1 hy2 eY hpos hcr ha hlen hcell hYH w1 w2 h3 h4
      go_enter Try.func15, Try.ntmps15
      go_wp2_with (first | (go_at_call 42; refine (irowfault w.heap.size i0 i1 i2 i3 i4 i5 i6 i7 i8 y t a cap l b capb m (unhide HT) (unhide HL) (unhide HM) (unhide HZ) _ (by simp) K ((unhide HR).below (unhide HB0)) ((unhide HS).below (unhide HB0))).mono ?_; rintro e w2 ⟨rfl, hb⟩; rw [hc]; have HB := hide ((unhide HB0).trans (hb.mono (unhide HB0).size)); have K2 : ∀ o, w2.cell? ⟨w.heap.size, o, none⟩ = (#[.int .i64 i0, .int .i64 i1, .int .i64 i2, .int .i64 i3, .int .i64 i4, .int .i64 i5, .int .i64 i6, .int .i64 i7, .int .i64 i8, .string t, .slice a l.length cap, .slice b m.length capb] : Array Value)[o]? := (fun o => (hb.cell (p := ⟨w.heap.size, o, none⟩) (by simp)).trans (K o)); have hz2 : w.heap.size < w2.heap.size := (by have := hb.size; simp at this; omega); clear hb) | (go_at_call 43; refine (unhide HRC _ hz2 K2 (unhide HB)).mono ?_; rintro e w3 ⟨rfl, hb3⟩; have HB3 := hide ((unhide HB).trans (hb3.mono (unhide HB).size)); clear hb3))
      go_ret2
      exact ⟨rfl, unhide HB3⟩
end Go.Proofs.Ytgmddmcehblklab
