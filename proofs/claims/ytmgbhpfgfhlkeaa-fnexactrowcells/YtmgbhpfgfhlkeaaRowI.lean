/- RowCells: what the program answers. -/
import Derived.Test.YtmgbhpfgfhlkeaaRowP
import Derived.Test.YtmgbhpfgfhlkeaaAppG
namespace Go.Proofs.Ytmgbhpfgfhlkeaa
open Go.ChangeShapes Go.WideShapes Go.ChangeAt Go.RowKit
set_option linter.unusedVariables false
/-- The bytes of cells: rune (three), look (one). -/
def rowB (l : List (Int × Int)) : List UInt8 := l.flatMap fun c => be c.1.toNat 3 ++ be c.2.toNat 1
theorem rowB_snoc (l : List (Int × Int)) (c : Int × Int) : rowB (l ++ [c]) = (rowB l ++ be c.1.toNat 3) ++ be c.2.toNat 1 := by simp [rowB]
theorem rowB_len (l : List (Int × Int)) : (rowB l).length = l.length * 4 := by
  induction l with
  | nil => rfl
  | cons c l ih => simp only [rowB, List.flatMap_cons, List.length_append, be_len] at ih ⊢; rw [ih, List.length_cons]; omega
set_option maxHeartbeats 2000000 in
set_option maxRecDepth 100000 in
theorem irowcells (B W y f b off n cap : Nat) (l : List (Int × Int)) (el : l.length = n) (hf : f = y * W) (hW : 0 < W ∧ W ≤ 24) (hn : f + W ≤ n) (hc : n ≤ cap) (hn2 : n ≤ 1048576) (hcell : ∀ q (h : q < l.length), cellB l[q] = true) (w : World) (hB : B < w.heap.size) (c0 : w.cell? ⟨B, 0, none⟩ = some (.int .i64 (W : Int))) (c10 : w.cell? ⟨B, 10, none⟩ = some (.slice (some ⟨b, off, none⟩) n cap))
    (hb : b < w.heap.size) (hr : ∀ i u, (cP l)[i]? = some u → w.cell? ⟨b, off + i, none⟩ = some u) :
    Calls Try.prog 17 #[.pointer (some ⟨B, 0, none⟩), .int .i64 (y : Int)] w fun e w' => e = .returned (.string ⟨(rowB ((l.drop f).take W)).toArray⟩) ∧ Below w.heap.size w w' := by
  obtain ⟨i0, hi, hz0, hz1, hz2⟩ := info_parts Try.infN5
  have HT : Hid (∀ w2 : World, w2.cell? ⟨B, 0, none⟩ = some (.int .i64 (W : Int)) → w2.cell? ⟨B, 10, none⟩ = some (.slice (some ⟨b, off, none⟩) n cap) → Calls Try.prog 25 #[.pointer (some ⟨B, 0, none⟩), .int .i64 (y : Int)] w2 fun e w' => e = .returned (.slice (some ⟨b, off + f * 2, none⟩) W W) ∧ Below w2.heap.size w2 w') := fun w2 a1 a2 => irow B W y f (f + W) b off n cap hf rfl hW hn hc hn2 w2 a1 a2
  have HR := hide hr
  have HC := hide hcell
  have HL := hide el
  obtain ⟨p, hp⟩ : ∃ p, p = W * 4 := ⟨_, rfl⟩
  have p1 : (W : Int) * 4 = (p : Int) := by rw [hp]; push_cast; rfl
  have p2 : p ≤ 96 := by omega
  clear hr hcell hf hp
  go_enter Try.func17, Try.ntmps17
  go_wp2_with (first | (at_make; refine wpList_make_own _ rfl _ _ 50 rfl w.heap.size 5 i0 (.int .u8 0) 1 Try.underlying50 hi hz0 hz1 .i64 .i64 _ p rfl rfl rfl (by rw [hz2]; omega) (by unfold maxLen; omega) (Nat.le_refl _) ?_; intro w1 hown hgrow; have hb1 := (Below.refl w.heap.size w).grown hgrow (Nat.le_refl _) (fun k hk => by cases hk); have d0 := (hb1.cell (p := ⟨B, 0, none⟩) hB).trans c0; have d10 := (hb1.cell (p := ⟨B, 10, none⟩) hB).trans c10; have HB1 := hide hb1; have HO1 := hide hown; clear hb1 hgrow hown) | (go_at_call 25; refine (unhide HT _ d0 d10).mono ?_; rintro e w2 ⟨rfl, hb2⟩; have HB2 := hide ((unhide HB1).trans (hb2.mono (unhide HB1).size)); have HO2 := hide ((heldZ_of (unhide HO1)).below hb2 (Nat.le_refl _)).own; clear hb2))
  clear d0 d10 c0 c10 HT
  go_loopw [5, 18] (fun v i wr => ∃ k : Nat, k ≤ W ∧ i = .int .i64 k ∧ Hid (wr.ownsRow w.heap.size 5 1 v (rowB ((l.drop f).take k)).length (B8 (rowB ((l.drop f).take k)))) ∧ Hid (Below w.heap.size w wr)) (fun _ i _ => W - (intOf i).toNat)
  case atStart => exact ⟨0, by omega, rfl, by simpa [rowB, B8] using HO2, HB2⟩
  case round =>
    clear HO1 HB1 HO2 HB2
    obtain ⟨k, hk, rfl, HO, HB⟩ := hrel
    by_cases hlt : k < W
    · have hq : f + k < l.length := by rw [unhide HL]; omega
      obtain ⟨x0, x1⟩ := row_two (unhide HR) (f + k) hq
      have hcb := unhide HC (f + k) hq
      obtain ⟨x, z, ex, ez, hx, hz9⟩ : ∃ x z : Nat, l[f + k].1 = (x : Int) ∧ l[f + k].2 = (z : Int) ∧ x ≤ 1114111 ∧ z ≤ 127 := by
        unfold cellB at hcb
        rw [Bool.and_eq_true] at hcb
        have h1 : 32 ≤ l[f + k].1 ∧ l[f + k].1 ≤ 1114111 ∧ l[f + k].1 ≠ 127 ∧ ¬ (55296 ≤ l[f + k].1 ∧ l[f + k].1 ≤ 57343) := of_decide_eq_true hcb.1
        have h2 : 0 ≤ l[f + k].2 ∧ l[f + k].2 ≤ 127 := of_decide_eq_true hcb.2
        exact ⟨l[f + k].1.toNat, l[f + k].2.toNat, by omega, by omega, by omega, by omega⟩
      obtain ⟨R, hR⟩ : ∃ R, R = rowB ((l.drop f).take k) := ⟨_, rfl⟩
      have HN : Hid (rowB ((l.drop f).take (k + 1)) = (R ++ be x 3) ++ be z 1) := by
        show _ = _
        rw [List.take_succ_eq_append_getElem (by rw [List.length_drop]; omega), rowB_snoc, List.getElem_drop, hR, ex, ez, Int.toNat_natCast, Int.toNat_natCast]
      have hRl : R.length ≤ 96 := by rw [hR, rowB_len, List.length_take]; omega
      rw [ex] at x0
      rw [ez] at x1
      have hy0 : wr.cell? ⟨b, off + f * 2 + k * 2, none⟩ = some (.int .i64 (x : Int)) := by
        rw [show off + f * 2 + k * 2 = off + (f + k) * 2 from by omega]; exact ((unhide HB).cell (p := ⟨b, off + (f + k) * 2, none⟩) hb).trans x0
      have hy1 : wr.cell? ⟨b, off + f * 2 + k * 2 + 1, none⟩ = some (.int .i64 (z : Int)) := by
        rw [show off + f * 2 + k * 2 + 1 = off + (f + k) * 2 + 1 from by omega]; exact ((unhide HB).cell (p := ⟨b, off + (f + k) * 2 + 1, none⟩) hb).trans x1
      rw [← hR] at HO
      have hlt' : (k : Int) < (W : Int) := by omega
      have hzz := (unhide HB).size
      have hown := unhide HO
      have hne : ∀ j, u5.ownBlock = some j → j < wr.heap.size := fun j hj => (hown.lt j hj).2
      have HBW := hide ((unhide HB).alloc hzz (.cells #[.int .i64 (x : Int), .int .i64 (z : Int)] 49))
      clear x0 x1 hcb ex ez hR hq
      go_wp2_with fail
      go_region_held3 (fun w' => w'.cell? ⟨wr.heap.size, 0, none⟩ = some (.int .i64 (x : Int)) ∧ w'.cell? ⟨wr.heap.size, 1, none⟩ = some (.int .i64 (z : Int))) (first | exact K3 | exact K2 | go_keep) (first | (have hq := HO2; go_at_call 26; refine (iappendG w.heap.size _ (R ++ be x 3) z 1 (by omega) (by decide) (by rw [List.length_append, be_len]; omega) _ (unhide HO2) hz2').mono ?_; rintro e w3 ⟨v3, rfl, ho3, hb3, hg3, hk3⟩; have K3 : w3.cell? ⟨wr.heap.size, 0, none⟩ = some (.int .i64 (x : Int)) ∧ w3.cell? ⟨wr.heap.size, 1, none⟩ = some (.int .i64 (z : Int)) := ⟨(World.cell?_of_block (hg3.block wr.heap.size hz3' hn2')).trans K2.1, (World.cell?_of_block (hg3.block wr.heap.size hz3' hn2')).trans K2.2⟩; have HO3 := hide ho3; have HB3 := hide ((unhide HB2).trans hb3); clear ho3 hb3 hg3 hk3) | (go_at_call 26; refine (iappendG w.heap.size _ R x 3 (by omega) (by decide) (by omega) _ ((hown.alloc (.cells #[.int .i64 (x : Int), .int .i64 (z : Int)] 49)).drew) (by simp; omega)).mono ?_; rintro e w2 ⟨v2, rfl, ho2, hb2, hg2, hk2⟩; have hz3' : wr.heap.size < w2.heap.size := (by have := hg2.size; simp at this; omega); have K2 : w2.cell? ⟨wr.heap.size, 0, none⟩ = some (.int .i64 (x : Int)) ∧ w2.cell? ⟨wr.heap.size, 1, none⟩ = some (.int .i64 (z : Int)) := ⟨(World.cell?_of_block ((undrew hg2).block wr.heap.size (by simp) (fun e => absurd (hne _ e.symm) (Nat.lt_irrefl _)))).trans (World.cell?_alloc_mark wr _ _ _ 0), (World.cell?_of_block ((undrew hg2).block wr.heap.size (by simp) (fun e => absurd (hne _ e.symm) (Nat.lt_irrefl _)))).trans (World.cell?_alloc_mark wr _ _ _ 1)⟩; have hn2' : some wr.heap.size ≠ v2.ownBlock := (fun e => by rcases hk2 _ e.symm with h | h; exact absurd (hne _ h) (Nat.lt_irrefl _); exact absurd h (by simp)); have HO2 := hide ho2; have HB2 := hide ((unhide HBW).trans (below_undrew hb2)); have hz2' : w.heap.size ≤ w2.heap.size := (by omega); clear ho2 hb2 hg2 hk2))
      go_wp2_with fail
      go_roundw
      case rel => exact ⟨k + 1, by omega, by go_num, by show World.ownsRow _ _ _ _ _ _ _; rw [unhide HN]; exact unhide HO3, HB3⟩
      case measure => simp [intOf]; omega
    · have ek : k = W := by omega
      subst ek
      have hcv := conv_own (P := Try.prog) Try.underlying50 Try.underlying5 Try.underlying9 (unhide HO)
      go_wp2_with fail
      go_ret
      exact ⟨rfl, unhide HB⟩
/-- What RowCells answers. -/
def rcV (ok : Bool) (W H : Int) (l : List (Int × Int)) (y : Int) : ByteArray := if ok then (if inB y 0 (H - 1) then ⟨(rowB ((l.drop (y.toNat * W.toNat)).take W.toNat)).toArray⟩ else ⟨#[]⟩) else ⟨#[]⟩
def rcC (ok : Bool) (H y : Int) : Int := if ok then (if inB y 0 (H - 1) then 0 else 4) else 1
set_option maxHeartbeats 2000000 in
set_option maxRecDepth 100000 in
theorem irowfault (B : Nat) (i0 i1 i2 i3 i4 i5 i6 i7 i8 y : Int) (t : ByteArray) (a : Option Addr) (cap : Nat) (l : List (Int × Int)) (b : Option Addr) (capb : Nat) (m : List ByteArray) (ht : t.size ≤ 1048576) (hl : l.length ≤ 1048576) (hm : m.length ≤ 1048576) (hz : ∀ k (h : k < m.length), m[k].size ≤ 1048576) (w : World) (hB : B < w.heap.size) (K : ∀ o, w.cell? ⟨B, o, none⟩ = (#[.int .i64 i0, .int .i64 i1, .int .i64 i2, .int .i64 i3, .int .i64 i4, .int .i64 i5, .int .i64 i6, .int .i64 i7, .int .i64 i8, .string t, .slice a l.length cap, .slice b m.length capb] : Array Value)[o]?) (hr : RowV w a (cP l)) (hs : RowV w b (cS m)) :
    Calls Try.prog 16 #[.pointer (some ⟨B, 0, none⟩), .int .i64 y] w fun e w' => e = .returned (.int .i64 (rcC (okB i0 i1 i2 i3 i4 i5 i6 i7 i8 t.data.toList l m) i1 y)) ∧ Below w.heap.size w w' := by
  have T := hide (iok i0 i1 i2 i3 i4 i5 i6 i7 i8 t a cap l b capb m ht hl hm hz w hr hs)
  clear ht hl hm hz hr hs
  cases h : okB i0 i1 i2 i3 i4 i5 i6 i7 i8 t.data.toList l m
  · rw [h] at T
    have HV : Hid (rcC false i1 y = 1) := rfl
    clear h
    go_enter Try.func16, Try.ntmps16
    go_wp2_with (go_at_call 24; refine (unhide T).mono ?_; rintro e w2 ⟨rfl, hb⟩; have HB := hide hb; clear hb)
    go_ret
    exact ⟨ret_int (unhide HV).symm, unhide HB⟩
  · rw [h] at T
    have hb1 : 2 ≤ i1 ∧ i1 ≤ 10 := by obtain ⟨W, H, _, e1, _, _, h3, h4, _⟩ := ok_parts h; omega
    clear h
    by_cases h0 : 0 ≤ y
    · by_cases h1 : y < i1
      · have HV : Hid (rcC true i1 y = 0) := by show _ = _; unfold rcC; rw [in_yes (by omega)]; rfl
        go_enter Try.func16, Try.ntmps16
        go_wp2_with (go_at_call 24; refine (unhide T).mono ?_; rintro e w2 ⟨rfl, hb⟩; have K2 : ∀ o, w2.cell? ⟨B, o, none⟩ = (#[.int .i64 i0, .int .i64 i1, .int .i64 i2, .int .i64 i3, .int .i64 i4, .int .i64 i5, .int .i64 i6, .int .i64 i7, .int .i64 i8, .string t, .slice a l.length cap, .slice b m.length capb] : Array Value)[o]? := (fun o => (hb.cell (p := ⟨B, o, none⟩) hB).trans (K o)); have HB := hide hb; clear hb)
        go_ret
        exact ⟨ret_int (unhide HV).symm, unhide HB⟩
      · have HV : Hid (rcC true i1 y = 4) := by show _ = _; unfold rcC; rw [in_no (by omega)]; rfl
        go_enter Try.func16, Try.ntmps16
        go_wp2_with (go_at_call 24; refine (unhide T).mono ?_; rintro e w2 ⟨rfl, hb⟩; have K2 : ∀ o, w2.cell? ⟨B, o, none⟩ = (#[.int .i64 i0, .int .i64 i1, .int .i64 i2, .int .i64 i3, .int .i64 i4, .int .i64 i5, .int .i64 i6, .int .i64 i7, .int .i64 i8, .string t, .slice a l.length cap, .slice b m.length capb] : Array Value)[o]? := (fun o => (hb.cell (p := ⟨B, o, none⟩) hB).trans (K o)); have HB := hide hb; clear hb)
        go_ret
        exact ⟨ret_int (unhide HV).symm, unhide HB⟩
    · have HV : Hid (rcC true i1 y = 4) := by show _ = _; unfold rcC; rw [in_no (by omega)]; rfl
      go_enter Try.func16, Try.ntmps16
      go_wp2_with (go_at_call 24; refine (unhide T).mono ?_; rintro e w2 ⟨rfl, hb⟩; have HB := hide hb; clear hb)
      go_ret
      exact ⟨ret_int (unhide HV).symm, unhide HB⟩
set_option maxHeartbeats 2000000 in
set_option maxRecDepth 100000 in
theorem irc (i0 i1 i2 i3 i4 i5 i6 i7 i8 : Int) (t : ByteArray) (a : Option Addr) (cap : Nat) (l : List (Int × Int)) (b : Option Addr) (capb : Nat) (m : List ByteArray) (ht : t.size ≤ 1048576) (hl : l.length ≤ 1048576) (hm : m.length ≤ 1048576) (hz : ∀ k (h : k < m.length), m[k].size ≤ 1048576) (y : Int) (hcap : l.length ≤ cap) (w : World) (hr : RowV w a (cP l)) (hs : RowV w b (cS m)) :
    Calls Try.prog 7 #[.agg #[.int .i64 i0, .int .i64 i1, .int .i64 i2, .int .i64 i3, .int .i64 i4, .int .i64 i5, .int .i64 i6, .int .i64 i7, .int .i64 i8, .string t, .slice a l.length cap, .slice b m.length capb], .int .i64 y] w fun e w' => e = .returned (.tuple #[.string (rcV (okB i0 i1 i2 i3 i4 i5 i6 i7 i8 t.data.toList l m) i0 i1 l y), .int .i64 (rcC (okB i0 i1 i2 i3 i4 i5 i6 i7 i8 t.data.toList l m) i1 y)]) ∧ Below w.heap.size w w' := by
  have HB0 := hide ((Below.refl w.heap.size w).alloc (Nat.le_refl _) (.cells #[.int .i64 i0, .int .i64 i1, .int .i64 i2, .int .i64 i3, .int .i64 i4, .int .i64 i5, .int .i64 i6, .int .i64 i7, .int .i64 i8, .string t, .slice a l.length cap, .slice b m.length capb] 31))
  have K : ∀ o, (w.alloc (.cells #[.int .i64 i0, .int .i64 i1, .int .i64 i2, .int .i64 i3, .int .i64 i4, .int .i64 i5, .int .i64 i6, .int .i64 i7, .int .i64 i8, .string t, .slice a l.length cap, .slice b m.length capb] 31)).cell? ⟨w.heap.size, o, none⟩ = (#[.int .i64 i0, .int .i64 i1, .int .i64 i2, .int .i64 i3, .int .i64 i4, .int .i64 i5, .int .i64 i6, .int .i64 i7, .int .i64 i8, .string t, .slice a l.length cap, .slice b m.length capb] : Array Value)[o]? := fun o => World.cell?_alloc_mark w _ _ _ o
  have HT := hide ht
  have HL := hide hl
  have HM := hide hm
  have HZ := hide hz
  have HR := hide hr
  have HS := hide hs
  clear ht hl hm hz hr hs
  cases h : okB i0 i1 i2 i3 i4 i5 i6 i7 i8 t.data.toList l m
  · have hc : rcC false i1 y = 1 := rfl
    have HV : Hid (rcV false i0 i1 l y = ⟨#[]⟩) := rfl
    rw [hc, unhide HV]
    have hc : rcC (okB i0 i1 i2 i3 i4 i5 i6 i7 i8 t.data.toList l m) i1 y = 1 := by rw [h]; rfl
    clear h
    go_enter Try.func7, Try.ntmps7
    go_wp2_with (go_at_call 16; refine (irowfault w.heap.size i0 i1 i2 i3 i4 i5 i6 i7 i8 y t a cap l b capb m (unhide HT) (unhide HL) (unhide HM) (unhide HZ) _ (by simp) K ((unhide HR).below (unhide HB0)) ((unhide HS).below (unhide HB0))).mono ?_; rintro e w2 ⟨rfl, hb⟩; rw [hc]; have HB := hide ((unhide HB0).trans (hb.mono (unhide HB0).size)); clear hb)
    go_ret2
    exact ⟨rfl, unhide HB⟩
  · cases hy : inB y 0 (i1 - 1)
    · have hc1 : rcC true i1 y = 4 := by unfold rcC; rw [hy]; rfl
      have HV : Hid (rcV true i0 i1 l y = ⟨#[]⟩) := by show _ = _; unfold rcV; rw [hy]; rfl
      rw [hc1, unhide HV]
      have hc : rcC (okB i0 i1 i2 i3 i4 i5 i6 i7 i8 t.data.toList l m) i1 y = 4 := by rw [h]; exact hc1
      clear h hy hc1
      go_enter Try.func7, Try.ntmps7
      go_wp2_with (go_at_call 16; refine (irowfault w.heap.size i0 i1 i2 i3 i4 i5 i6 i7 i8 y t a cap l b capb m (unhide HT) (unhide HL) (unhide HM) (unhide HZ) _ (by simp) K ((unhide HR).below (unhide HB0)) ((unhide HS).below (unhide HB0))).mono ?_; rintro e w2 ⟨rfl, hb⟩; rw [hc]; have HB := hide ((unhide HB0).trans (hb.mono (unhide HB0).size)); clear hb)
      go_ret2
      exact ⟨rfl, unhide HB⟩
    · have hc1 : rcC true i1 y = 0 := by unfold rcC; rw [hy]; rfl
      have hc : rcC (okB i0 i1 i2 i3 i4 i5 i6 i7 i8 t.data.toList l m) i1 y = 0 := by rw [h]; exact hc1
      obtain ⟨W, H, e0, e1, w1, w2, h3, h4, hlen, hcell⟩ := ok_parts h
      have hy2 : 0 ≤ y ∧ y ≤ i1 - 1 := of_decide_eq_true hy
      obtain ⟨Y, eY⟩ : ∃ Y : Nat, y = (Y : Int) := ⟨y.toNat, by omega⟩
      have hYH : Y * W + W ≤ W * H := by
        have : (Y + 1) * W ≤ H * W := Nat.mul_le_mul_right W (by omega)
        rw [Nat.add_mul, Nat.one_mul, Nat.mul_comm H W] at this; exact this
      have hpos : 0 < (cP l).length := by rw [cP_len, hlen]; have : 0 < W * H := Nat.mul_pos (by omega) (by omega); omega
      obtain ⟨b1, off, ha, hblt, hcr⟩ := (unhide HR).at hpos
      have HV : Hid (rcV true i0 i1 l y = ⟨(rowB ((l.drop (Y * W)).take W)).toArray⟩) := by show _ = _; unfold rcV; rw [hy, eY, e0]; rfl
      rw [hc1, unhide HV]
      have HRC : Hid (∀ w2 : World, w.heap.size < w2.heap.size → (∀ o, w2.cell? ⟨w.heap.size, o, none⟩ = (#[.int .i64 i0, .int .i64 i1, .int .i64 i2, .int .i64 i3, .int .i64 i4, .int .i64 i5, .int .i64 i6, .int .i64 i7, .int .i64 i8, .string t, .slice a l.length cap, .slice b m.length capb] : Array Value)[o]?) → Below w.heap.size w w2 → Calls Try.prog 17 #[.pointer (some ⟨w.heap.size, 0, none⟩), .int .i64 y] w2 fun e w' => e = .returned (.string ⟨(rowB ((l.drop (Y * W)).take W)).toArray⟩) ∧ Below w2.heap.size w2 w') := fun w2 hz2 K2 hb2 => by
        rw [eY]
        exact irowcells w.heap.size W Y (Y * W) b1 off l.length cap l rfl rfl ⟨by omega, by omega⟩ (by omega) hcap (unhide HL) hcell w2 hz2 (by rw [K2 0, e0]; rfl) (by rw [K2 10, ha]; rfl) (Nat.lt_of_lt_of_le hblt hb2.size) (fun i u hu => (hb2.cell (p := ⟨b1, off + i, none⟩) hblt).trans (hcr i u hu))
      clear h hy hc1 e0 e1 hy2 eY hpos hcr ha hlen hcell hYH w1 w2 h3 h4
      go_enter Try.func7, Try.ntmps7
      go_wp2_with (first | (go_at_call 16; refine (irowfault w.heap.size i0 i1 i2 i3 i4 i5 i6 i7 i8 y t a cap l b capb m (unhide HT) (unhide HL) (unhide HM) (unhide HZ) _ (by simp) K ((unhide HR).below (unhide HB0)) ((unhide HS).below (unhide HB0))).mono ?_; rintro e w2 ⟨rfl, hb⟩; rw [hc]; have HB := hide ((unhide HB0).trans (hb.mono (unhide HB0).size)); have K2 : ∀ o, w2.cell? ⟨w.heap.size, o, none⟩ = (#[.int .i64 i0, .int .i64 i1, .int .i64 i2, .int .i64 i3, .int .i64 i4, .int .i64 i5, .int .i64 i6, .int .i64 i7, .int .i64 i8, .string t, .slice a l.length cap, .slice b m.length capb] : Array Value)[o]? := (fun o => (hb.cell (p := ⟨w.heap.size, o, none⟩) (by simp)).trans (K o)); have hz2 : w.heap.size < w2.heap.size := (by have := hb.size; simp at this; omega); clear hb) | (go_at_call 17; refine (unhide HRC _ hz2 K2 (unhide HB)).mono ?_; rintro e w3 ⟨rfl, hb3⟩; have HB3 := hide ((unhide HB).trans (hb3.mono (unhide HB).size)); clear hb3))
      go_ret2
      exact ⟨rfl, unhide HB3⟩
end Go.Proofs.Ytmgbhpfgfhlkeaa
