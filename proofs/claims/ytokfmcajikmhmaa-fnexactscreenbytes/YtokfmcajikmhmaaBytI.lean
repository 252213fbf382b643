/- ScreenBytes: what the program answers. -/
import Derived.Test.YtokfmcajikmhmaaBytM
import Derived.Test.YtokfmcajikmhmaaNumbersI
import Derived.Test.YtokfmcajikmhmaaFieldsI
namespace Go.Proofs.Ytokfmcajikmhmaa
open Go.ChangeShapes Go.WideShapes Go.ChangeAt Go.RowKit
set_option linter.unusedVariables false
set_option maxHeartbeats 4000000 in
set_option maxRecDepth 100000 in
theorem isb (i0 i1 i2 i3 i4 i5 i6 i7 i8 : Int) (t : ByteArray) (a : Option Addr) (cap : Nat) (l : List (Int × Int)) (b : Option Addr) (capb : Nat) (m : List ByteArray) (ht : t.size ≤ 1048576) (hl : l.length ≤ 1048576) (hm : m.length ≤ 1048576) (hz : ∀ k (h : k < m.length), m[k].size ≤ 1048576) (hcap : l.length ≤ cap) (w : World) (hr : RowV w a (cP l)) (hs : RowV w b (cS m)) :
    Calls Try.prog 7 #[.agg #[.int .i64 i0, .int .i64 i1, .int .i64 i2, .int .i64 i3, .int .i64 i4, .int .i64 i5, .int .i64 i6, .int .i64 i7, .int .i64 i8, .string t, .slice a l.length cap, .slice b m.length capb]] w fun e w' => ∃ v', e = .returned (.tuple #[v', .int .i64 (sbC (okB i0 i1 i2 i3 i4 i5 i6 i7 i8 t.data.toList l m))]) ∧ w'.ownsRow w.heap.size 5 1 v' (sbV (okB i0 i1 i2 i3 i4 i5 i6 i7 i8 t.data.toList l m) i0 i1 i2 i3 i4 i5 i6 i7 i8 t l m).length (B8 (sbV (okB i0 i1 i2 i3 i4 i5 i6 i7 i8 t.data.toList l m) i0 i1 i2 i3 i4 i5 i6 i7 i8 t l m)) ∧ Below w.heap.size w w' := by
  have HB0 := hide ((Below.refl w.heap.size w).alloc (Nat.le_refl _) (.cells #[.int .i64 i0, .int .i64 i1, .int .i64 i2, .int .i64 i3, .int .i64 i4, .int .i64 i5, .int .i64 i6, .int .i64 i7, .int .i64 i8, .string t, .slice a l.length cap, .slice b m.length capb] 32))
  have HT := hide ht
  have HL := hide hl
  have HM := hide hm
  have HZ := hide hz
  have HR := hide hr
  have HS := hide hs
  clear ht hl hm hz hr hs
  have HOKC : Hid (∀ w2 : World, Below w.heap.size w w2 → Calls Try.prog 19 #[.agg #[.int .i64 i0, .int .i64 i1, .int .i64 i2, .int .i64 i3, .int .i64 i4, .int .i64 i5, .int .i64 i6, .int .i64 i7, .int .i64 i8, .string t, .slice a l.length cap, .slice b m.length capb]] w2 fun e w' => e = .returned (.bool (okB i0 i1 i2 i3 i4 i5 i6 i7 i8 t.data.toList l m)) ∧ Below w2.heap.size w2 w') := fun w2 hb => iok i0 i1 i2 i3 i4 i5 i6 i7 i8 t a cap l b capb m (unhide HT) (unhide HL) (unhide HM) (unhide HZ) w2 ((unhide HR).below hb) ((unhide HS).below hb)
  cases h : okB i0 i1 i2 i3 i4 i5 i6 i7 i8 t.data.toList l m
  · rw [show sbC false = 1 from rfl, show sbV false i0 i1 i2 i3 i4 i5 i6 i7 i8 t l m = [] from rfl]
    rw [h] at HOKC
    clear h
    go_enter Try.func7, Try.ntmps7
    go_wp2_with (go_at_call 19; refine (unhide HOKC _ (unhide HB0)).mono ?_; rintro e w2 ⟨rfl, hb⟩; have HB := hide ((unhide HB0).trans (hb.mono (unhide HB0).size)); clear hb)
    go_ret2
    exact ⟨_, rfl, World.ownsRow_nil _ _ _ _, unhide HB⟩
  · obtain ⟨W, H, e0, e1, w1, w2, h3, h4, hlen, hcell⟩ := ok_parts h
    obtain ⟨hfit, ht40, hm6, hms⟩ := ok_more h
    rw [h] at HOKC
    clear h
    subst e0 e1
    have ht2 : t.size ≤ 40 := by rw [← text_len]; exact ht40
    obtain ⟨ns, ens⟩ : ∃ ns, ns = [(W : Int), (H : Int), i2, i3, i4, i5, i6, i7, i8] := ⟨_, rfl⟩
    have nsl : ns.length = 9 := by rw [ens]; rfl
    have HNC : Hid (nbL ns = numsL ns ∧ nbC ns = 0) := nb_ok (by omega) (by rw [ens]; exact hfit)
    have HHC : Hid (fbL m = be m.length 1 ++ fieldsL m ∧ fbC m = 0) := fb_ok (by omega) (short_of hms (by decide)) (fsum_of hms hm6 (by decide))
    have hsz := sbF_sizes ns t m W l H (by omega) ht2 hm6 hms w2
    have HFC : Hid (fbL (sbF ns t m W l H) = be (3 + H) 1 ++ fieldsL (sbF ns t m W l H) ∧ fbC (sbF ns t m W l H) = 0) := by
      have h := fb_ok (l := sbF ns t m W l H) (by rw [sbF_len]; omega) (short_of hsz (by decide)) (fsum_of (n := 13) hsz (by rw [sbF_len]; omega) (by decide))
      rw [sbF_len] at h; exact h
    have HFS : Hid (∀ k (h : k < (sbF ns t m W l H).length), (sbF ns t m W l H)[k].size ≤ 1048576) := fun k h => Nat.le_trans (hsz _ (List.getElem_mem h)) (by decide)
    have HV : Hid (sbV true (W : Int) (H : Int) i2 i3 i4 i5 i6 i7 i8 t l m = sbL ns t m W l H) := by show _ = _; unfold sbV; rw [if_pos rfl, Int.toNat_natCast, Int.toNat_natCast, ens]
    rw [show sbC true = 0 from rfl, unhide HV]
    have hpos : 0 < (cP l).length := by rw [cP_len, hlen]; have : 0 < W * H := Nat.mul_pos (by omega) (by omega); omega
    obtain ⟨b1, off, ha, hblt, hcr⟩ := (unhide HR).at hpos
    have HRC : Hid (∀ (w2 : World) (Y : Nat), Y < H → w.heap.size < w2.heap.size → (∀ o, w2.cell? ⟨w.heap.size, o, none⟩ = (#[.int .i64 (W : Int), .int .i64 (H : Int), .int .i64 i2, .int .i64 i3, .int .i64 i4, .int .i64 i5, .int .i64 i6, .int .i64 i7, .int .i64 i8, .string t, .slice a l.length cap, .slice b m.length capb] : Array Value)[o]?) → Below w.heap.size w w2 → Calls Try.prog 22 #[.pointer (some ⟨w.heap.size, 0, none⟩), .int .i64 (Y : Int)] w2 fun e w' => e = .returned (.string ⟨(rowB ((l.drop (Y * W)).take W)).toArray⟩) ∧ Below w2.heap.size w2 w') := fun w2 Y hY hz2 K2 hb2 => by
      have hYH : Y * W + W ≤ W * H := by
        have : (Y + 1) * W ≤ H * W := Nat.mul_le_mul_right W (by omega)
        rw [Nat.add_mul, Nat.one_mul, Nat.mul_comm H W] at this; exact this
      exact irowcells w.heap.size W Y (Y * W) b1 off l.length cap l rfl rfl ⟨by omega, by omega⟩ (by omega) hcap (unhide HL) hcell w2 hz2 (by rw [K2 0]; rfl) (by rw [K2 10, ha]; rfl) (Nat.lt_of_lt_of_le hblt hb2.size) (fun i u hu => (hb2.cell (p := ⟨b1, off + i, none⟩) hblt).trans (hcr i u hu))
    have ens2 : cI ns = [.int .i64 (W : Int), .int .i64 (H : Int), .int .i64 i2, .int .i64 i3, .int .i64 i4, .int .i64 i5, .int .i64 i6, .int .i64 i7, .int .i64 i8] := by rw [ens]; rfl
    have HENS := hide ens2
    have HNSL := hide nsl
    have HMZ : Hid (∀ k (h : k < m.length), m[k].size ≤ 1048576) := HZ
    clear ens ens2 nsl hfit ht40 hms hsz hpos hcr ha hlen hcell
    go_enter Try.func7, Try.ntmps7
    go_wp2_with (first
      | (go_at_call 19; refine (unhide HOKC _ (unhide HB0)).mono ?_; rintro e w2 ⟨rfl, hb⟩; have K2 : ∀ o, w2.cell? ⟨w.heap.size, o, none⟩ = (#[.int .i64 (W : Int), .int .i64 (H : Int), .int .i64 i2, .int .i64 i3, .int .i64 i4, .int .i64 i5, .int .i64 i6, .int .i64 i7, .int .i64 i8, .string t, .slice a l.length cap, .slice b m.length capb] : Array Value)[o]? := (fun o => (hb.cell (p := ⟨w.heap.size, o, none⟩) (by simp)).trans (World.cell?_alloc_mark w _ _ _ o)); have z2 : w.heap.size < w2.heap.size := (by have := hb.size; simp at this; omega); have HB := hide ((unhide HB0).trans (hb.mono (unhide HB0).size)); clear hb)
      | (go_at_call 20; have T := inumbers (some ⟨w2.heap.size, 0, none⟩) 9 ns (by rw [unhide HNSL]; decide) (w2.alloc (.cells (cI ns).toArray 3)) (.inr ⟨w2.heap.size, 0, rfl, by simp, fun i u hu => by rw [Nat.zero_add]; have h := news_new w2 (cI ns) 3 i u hu; rw [show (⟨w2.heap.size, 0, none⟩ : Addr).add i = ⟨w2.heap.size, 0 + i, none⟩ from by unfold Addr.add; split <;> simp_all, Nat.zero_add] at h; exact h⟩); rw [(unhide HNC).1, (unhide HNC).2, unhide HNSL, unhide HENS] at T; refine T.mono ?_; clear T; rintro e w3 ⟨v3, rfl, ho3, hb3⟩; obtain ⟨a3, c3, rfl, -⟩ := own_rowV ho3; have K3 : ∀ o, w3.cell? ⟨w.heap.size, o, none⟩ = (#[.int .i64 (W : Int), .int .i64 (H : Int), .int .i64 i2, .int .i64 i3, .int .i64 i4, .int .i64 i5, .int .i64 i6, .int .i64 i7, .int .i64 i8, .string t, .slice a l.length cap, .slice b m.length capb] : Array Value)[o]? := (fun o => (hb3.cell (p := ⟨w.heap.size, o, none⟩) (by simp; omega)).trans ((World.cell?_alloc_past _ _ _ z2).trans (K2 o))); have z3 : w.heap.size < w3.heap.size := (by have := hb3.size; simp at this; omega); have HB3 := hide (((unhide HB).alloc (by omega) (.cells #[.int .i64 (W : Int), .int .i64 (H : Int), .int .i64 i2, .int .i64 i3, .int .i64 i4, .int .i64 i5, .int .i64 i6, .int .i64 i7, .int .i64 i8] 3)).trans (hb3.mono (by simp; omega))); have HO3 := hide ho3; clear hb3 ho3))
    have T := ifields b capb m (unhide HM) (unhide HZ) w3 ((unhide HS).below (unhide HB3))
    rw [(unhide HHC).1, (unhide HHC).2] at T
    obtain ⟨F4, hF4⟩ : ∃ F, F = be m.length 1 ++ fieldsL m := ⟨_, rfl⟩
    rw [← hF4] at T
    refine T.mono ?_
    clear T
    rintro e w4 ⟨v4, rfl, ho4, hb4⟩
    obtain ⟨a4, c4, rfl, -⟩ := own_rowV ho4
    have K4 : ∀ o, w4.cell? ⟨w.heap.size, o, none⟩ = (#[.int .i64 (W : Int), .int .i64 (H : Int), .int .i64 i2, .int .i64 i3, .int .i64 i4, .int .i64 i5, .int .i64 i6, .int .i64 i7, .int .i64 i8, .string t, .slice a l.length cap, .slice b m.length capb] : Array Value)[o]? := fun o => (hb4.cell (p := ⟨w.heap.size, o, none⟩) z3).trans (K3 o)
    have z4 : w.heap.size < w4.heap.size := Nat.lt_of_lt_of_le z3 hb4.size
    have HB4 := hide ((unhide HB3).trans (hb4.mono (unhide HB3).size))
    have hcv1 := conv_own (P := Try.prog) Try.underlying27 Try.underlying5 Try.underlying9 ((held_of (unhide HO3)).below hb4 (Nat.le_refl _)).own
    have hcv2 := conv_own (P := Try.prog) Try.underlying27 Try.underlying5 Try.underlying9 ho4
    obtain ⟨N1, hN1⟩ : ∃ N, N = (⟨(numsL ns).toArray⟩ : ByteArray) := ⟨_, rfl⟩
    obtain ⟨N2, hN2⟩ : ∃ N, N = (⟨F4.toArray⟩ : ByteArray) := ⟨_, rfl⟩
    rw [← hN1] at hcv1
    rw [← hN2] at hcv2
    have H3 : Hid (head3 ns t m = [N1, t, N2]) := by show _ = _; unfold head3; rw [hN1, hN2, hF4]
    clear ho4 hb4 HO3 K2 K3 z2 z3 HB HB3 hN1 hN2 hF4
    obtain ⟨i0', hi, hz0, hz1, hz2⟩ := info_parts Try.infL9
    go_wp2_with fail
    clear hcv1 hcv2
    go_loopw [7, 56] (fun v i wr => ∃ k : Nat, k ≤ H ∧ i = .int .i64 k ∧ Hid (wr.ownsRow (w.heap.size + 1) 9 1 v (3 + k) (cS (sbF ns t m W l k))) ∧ Hid (∀ o, wr.cell? ⟨w.heap.size, o, none⟩ = (#[.int .i64 (W : Int), .int .i64 (H : Int), .int .i64 i2, .int .i64 i3, .int .i64 i4, .int .i64 i5, .int .i64 i6, .int .i64 i7, .int .i64 i8, .string t, .slice a l.length cap, .slice b m.length capb] : Array Value)[o]?) ∧ Hid (Below w.heap.size w wr) ∧ w.heap.size < wr.heap.size) (fun _ i _ => H - (intOf i).toNat)
    case atStart =>
      refine ⟨0, by omega, rfl, ?_, fun o => (World.cell?_alloc_past _ _ _ z4).trans (K4 o), (unhide HB4).alloc (unhide HB4).size _, by simp; omega⟩
      show World.ownsRow _ _ _ _ _ _ _
      have e : sbF ns t m W l 0 = [N1, t, N2] := by unfold sbF; rw [unhide H3]; rfl
      rw [e]
      exact World.ownsRow_lit (e := 9) (base := w.heap.size + 1) (size := 1) w4 #[.string N1, .string t, .string N2] 3 (by omega) (by unfold maxLen; omega) rfl
    case round =>
      clear K4 HB4 z4
      obtain ⟨k, hk, rfl, HO, HK, HB, hzw⟩ := hrel
      have K5 := unhide HK
      by_cases hlt : k < H
      · have hlt' : (k : Int) < (H : Int) := by omega
        have HN : Hid (cS (sbF ns t m W l (k + 1)) = cS (sbF ns t m W l k) ++ [.string ⟨(rowB ((l.drop (k * W)).take W)).toArray⟩]) := by show _ = _; rw [sbF_snoc, cS_app]; rfl
        obtain ⟨X, hX⟩ : ∃ X, X = (⟨(rowB ((l.drop (k * W)).take W)).toArray⟩ : ByteArray) := ⟨_, rfl⟩
        have T := hide (unhide HRC wr k hlt hzw (unhide HK) (unhide HB))
        rw [← hX] at HN T
        clear hX
        go_wp2_with (first
          | (go_at_call 22; refine (unhide T).mono ?_; rintro e w6 ⟨rfl, hb6⟩; have hown := ((held_of (unhide HO)).below hb6 (Nat.le_refl _)).own; have HK6 : Hid (∀ o, w6.cell? ⟨w.heap.size, o, none⟩ = (#[.int .i64 (W : Int), .int .i64 (H : Int), .int .i64 i2, .int .i64 i3, .int .i64 i4, .int .i64 i5, .int .i64 i6, .int .i64 i7, .int .i64 i8, .string t, .slice a l.length cap, .slice b m.length capb] : Array Value)[o]?) := (fun o => (hb6.cell (p := ⟨w.heap.size, o, none⟩) hzw).trans (unhide HK o)); have HB6 := hide ((unhide HB).trans (hb6.mono (unhide HB).size)); have hz6 : w.heap.size < w6.heap.size := Nat.lt_of_lt_of_le hzw hb6.size; clear hb6)
          | (at_builtin; refine wpList_append_lies _ rfl (.tmp 59) (.tmp 62) 23 rfl (w.heap.size + 1) 9 i0' (.string ⟨#[]⟩) 1 16 Try.underlying23 hi hz0 hz1 hz2 rfl (by decide) _ _ _ rfl (hown.alloc (.cells #[.string X] 9)) ⟨w6.heap.size, 0, none⟩ 1 1 [.string X] rfl rfl (by exact news_new w6 [.string X] 9) (by intro u hu; simp at hu; subst hu; rfl) (by decide) (by unfold maxLen; omega) (by omega) (by simp; omega) _ rfl ?_; intro g7 c7 w7 hown7 hgrow7 hat7 hlt7; have HO7 := hide hown7; have HB7 := hide (((unhide HB6).alloc (by omega) (.cells #[.string X] 9)).grown hgrow7 (by simp; omega) (fun j hj => by have := (hown.lt j hj).1; omega)); have HK7 : Hid (∀ o, w7.cell? ⟨w.heap.size, o, none⟩ = (#[.int .i64 (W : Int), .int .i64 (H : Int), .int .i64 i2, .int .i64 i3, .int .i64 i4, .int .i64 i5, .int .i64 i6, .int .i64 i7, .int .i64 i8, .string t, .slice a l.length cap, .slice b m.length capb] : Array Value)[o]?) := (fun o => (World.cell?_of_block (hgrow7.block w.heap.size (by simp; omega) (fun e => by have := (hown.lt _ e.symm).1; omega))).trans ((World.cell?_alloc_past _ _ _ hz6).trans (unhide HK6 o))); have hz7 : w.heap.size < w7.heap.size := (by have := hgrow7.size; simp at this; omega); clear hown7 hgrow7 hat7 hlt7))
        go_roundw
        case rel => exact ⟨k + 1, by omega, by go_num, by show World.ownsRow _ _ _ _ _ _ _; rw [unhide HN]; exact unhide HO7, HK7, HB7, hz7⟩
        case measure => simp [intOf]; omega
      · have ek : k = H := by omega
        subst ek
        have hown := unhide HO
        obtain ⟨a8, c8, rfl, hr8⟩ := own_rowV hown
        have T := ifields a8 c8 (sbF ns t m W l k) (by rw [sbF_len]; omega) (unhide HFS) wr hr8
        rw [(unhide HFC).1, (unhide HFC).2, sbF_len] at T
        obtain ⟨F8, hF8⟩ : ∃ F, F = be (3 + k) 1 ++ fieldsL (sbF ns t m W l k) := ⟨_, rfl⟩
        rw [← hF8] at T
        have HF8 : Hid (sbL ns t m W l k = F8) := by show _ = _; unfold sbL; exact hF8.symm
        have HT8 := hide T
        clear T hown hr8 hlt hF8
        go_wp2_with (go_at_call 21; refine (unhide HT8).mono ?_; rintro e w9 ⟨v9, rfl, ho9, hb9⟩; obtain ⟨a9, c9, rfl, -⟩ := own_rowV ho9; have HO9 := hide ho9; have HB9 := hide ((unhide HB).trans (hb9.mono (unhide HB).size)); clear ho9 hb9)
        go_ret2
        refine ⟨_, rfl, ?_, unhide HB9⟩
        rw [unhide HF8]
        exact Go.Joins.ownsRow_le (unhide HO9) (by omega)
end Go.Proofs.Ytokfmcajikmhmaa
