/- Texts put together: SrcB SrcN ReadFS. -/
import Derived.Test.YtamjljhbnhdgdaaDoorZSrcM
import Derived.Test.YtamjljhbnhdgdaaDoorZG7
import Derived.Test.YtamjljhbnhdgdaaDoorZG5
import Derived.Test.YtamjljhbnhdgdaaDoorZG2
/- The specification's source: numbers and rows of bytes that are drawn. -/
namespace Go.Proofs.YtamjljhbnhdgdaaDoor
open Go.ChangeShapes Go.WideShapes Go.ChangeAt Go.RowKit
theorem Row8.grown {w w' : World} {a : Option Addr} {l : List UInt8} {g : Nat} (h : Row8 w a l) (hg : w.grownBy w' (some g)) (hne : ApartOf a l g) : Row8 w' a l := by
 rcases hne with h0 | hne
 ·exact .inl h0
 rcases h with h | ⟨b, off, e, hlt, hc⟩
 ·exact .inl h
 ·exact .inr ⟨b, off, e, Nat.lt_of_lt_of_le hlt hg.size, fun i hi => (hg.cell_far ⟨b, off + i, none⟩ hlt (fun e2 => hne _ e (Option.some.inj e2))).trans (hc i hi)⟩
theorem alloc_at_old (w : World) (o : Obj) (k : Nat) (h : k < w.heap.size) : (w.alloc o).heap[k]? = w.heap[k]? := by
 show (w.heap.push o)[k]? = _; rw [Array.getElem?_push, if_neg (by omega)]
set_option maxRecDepth 100000 in
theorem snext (n g : Nat) (a : Option Addr) (cap : Nat) (l : List UInt8) (p s : Nat) (hn : 2 ≤ n) (hn2 : n ≤ 256) (hl : l.length ≤ 1048600) (hp : p ≤ 2000000) (hs : s < 2147483648) (w : World) (h : SrcAt w g a cap l p s) (hr : Row8 w a l) (hg : ApartOf a l g) :
  Calls Tryd.prog 29 #[.pointer (some ⟨g, 0, none⟩), .int .i64 (n : Int)] w fun e w' => ∃ x s' : Nat, e = .returned (.int .i64 (x : Int)) ∧ x < n ∧ s' < 2147483648 ∧ SrcAt w' g a cap l (p + 1) s' ∧ w.grownBy w' (some g) := by
 have HH := hide (sbyte g a cap l p s hl hp hs w h hr hg)
 have n1 : ¬ (n : Int) ≤ 1 := by omega
 have n2 : (n : Int) ≤ 256 := by omega
 have n3 : ¬ (n : Int) = 0 := by omega
 clear h hr hg hs
 go_enter Tryd.func29, Tryd.ntmps29
 go_wp2_with fail
 refine (unhide HH).mono ?_
 rintro e w2 ⟨x, s', rfl, hx, hs', hA, hG⟩
 obtain ⟨y, hy⟩ : ∃ y, y = x % n := ⟨_, rfl⟩
 have k2 : (x : Int) % (n : Int) = (y : Int) := by rw [hy]; exact (Int.natCast_emod x n).symm
 have k1 : (x : Int).tmod (n : Int) = (y : Int) := by rw [Int.tmod_eq_emod_of_nonneg (by omega)]; exact k2
 have HA := hide hA
 have HG := hide hG
 have HS := hide hs'
 have HM : Hid (y < n) := by rw [hy]; exact Nat.mod_lt x (show n > 0 by omega)
 clear hA hG hs' hy
 go_wp2_with fail
 go_ret
 exact ⟨y, s', rfl, unhide HM, unhide HS, unhide HA, unhide HG⟩
theorem ssource (a : Option Addr) (cap : Nat) (l : List UInt8) (s0 : Nat) (k1 : (l.length : Int).tmod 1000 = (s0 : Int)) (_k2 : (l.length : Int) % 1000 = (s0 : Int)) (w : World) :
  Calls Tryd.prog 14 #[.slice a l.length cap] w fun e w' => e = .returned (.pointer (some ⟨w.heap.size, 0, none⟩)) ∧ w' = w.alloc (.cells #[.slice a l.length cap, .int .i64 0, .int .i64 (s0 : Int)] 66) := by
 go_enter Tryd.func14, Tryd.ntmps14
 go_wp2_with fail
 go_ret
 exact ⟨rfl, rfl⟩
end Go.Proofs.YtamjljhbnhdgdaaDoor

/- A source's next number as an integer. -/
namespace Go.Proofs.YtamjljhbnhdgdaaDoor
open Go.ChangeShapes Go.WideShapes Go.ChangeAt Go.RowKit
set_option linter.unusedVariables false
theorem snextI (n : Nat) (g : Nat) (a : Option Addr) (cap : Nat) (l : List UInt8) (p s : Nat) (hn : 2 ≤ n) (hn2 : n ≤ 256) (hl : l.length ≤ 1048600) (hp : p ≤ 2000000) (hs : s < 2147483648) (w : World) (h : SrcAt w g a cap l p s) (hr : Row8 w a l) (hg : ApartOf a l g) :
  Calls Tryd.prog 29 #[.pointer (some ⟨g, 0, none⟩), .int .i64 (n : Int)] w fun e w' => ∃ (x : Int) (s' : Nat), e = .returned (.int .i64 x) ∧ (0 ≤ x ∧ x < n) ∧ s' < 2147483648 ∧ SrcAt w' g a cap l (p + 1) s' ∧ w.grownBy w' (some g) := by
 refine (snext n g a cap l p s hn hn2 hl hp hs w h hr hg).mono ?_
 rintro e w' ⟨x, s', rfl, hx, h1, h2, h3⟩
 exact ⟨x, s', rfl, ⟨by omega, by omega⟩, h1, h2, h3⟩
theorem grown_set {w c : World} {g B : Nat} (h : w.grownBy c (some g)) (hB : w.heap.size ≤ B) (o : Nat) (v : Value) : w.grownBy (c.setCell ⟨B, o, none⟩ v) (some g) :=
 ⟨h.os, h.tape, h.output, by rw [World.size_setCell]; exact h.size, fun k hk hne => (Below.heap_setCell _ _ _ k (by show k ≠ B; omega)).trans (h.block k hk hne)⟩
end Go.Proofs.YtamjljhbnhdgdaaDoor

/- ReadFields: what the specification answers at every row of bytes. -/
namespace Go.Proofs.YtamjljhbnhdgdaaDoor
open Go.ChangeShapes Go.WideShapes Go.ChangeAt Go.RowKit
theorem cut_list (s : ByteArray) (i j : Nat) : (s.extract i j).data.toList = (s.data.toList.drop i).take (j - i) := by
 simp
theorem cut_size (s : ByteArray) (i j : Nat) (h : j ≤ s.size) : (s.extract i j).size = j - i := by
 rw [ByteArray.size_extract]; omega
theorem lit_emptyS (w : World) (base : Nat) (t : TypeId) (hb : base ≤ w.heap.size) : (w.alloc (.cells #[] t)).ownsRow base t 1 (.slice (some ⟨w.heap.size, 0, none⟩) 0 0) ([] : List ByteArray).length (cS []) := lit_empty w base t hb
theorem fld_short (L : List UInt8) (p : Nat) (h : L.length < p + 2) : fld (L.drop p) = none := by
 unfold fld; rw [List.length_drop, if_pos (by omega)]
theorem fld_big (L : List UInt8) (p y : Nat) (hy : y = ofBE ((L.drop p).take 2)) (h : 20000 < y) : fld (L.drop p) = none := by
 unfold fld; rw [← hy]; split
 ·rfl
 ·first | rfl | rw [if_pos h]
theorem fld_off (L : List UInt8) (p y : Nat) (hy : y = ofBE ((L.drop p).take 2)) (h : L.length < p + 2 + y) : fld (L.drop p) = none := by
 unfold fld; rw [← hy, List.length_drop]; split
 ·rfl
 ·split
  ·rfl
  ·rw [if_pos (by omega)]
theorem fld_at (L : List UInt8) (p y : Nat) (hy : y = ofBE ((L.drop p).take 2)) (h : ¬ 20000 < y) (h2 : p + 2 + y ≤ L.length) : fld (L.drop p) = some ((L.drop (p + 2)).take y, L.drop (p + 2 + y)) := by
 unfold fld
 rw [← hy, List.length_drop, if_neg (by omega), if_neg h, if_neg (by omega), List.drop_drop, List.drop_drop]
/-- What l02Read answers of n fields in l. -/
def ReadR (l : List UInt8) (n : Nat) (w : World) (e : Ending) (w' : World) : Prop :=
 (∃ m v c, e = .returned (.tuple #[v, .bool c]) ∧ w'.ownsRow w.heap.size 9 1 v m.length (cS m) ∧ ((c = true ∧ fldN l n = some (m, [])) ∨ (c = false ∧ m = [] ∧ ∀ m, fldN l n ≠ some (m, [])))) ∧ Below w.heap.size w w'
set_option maxHeartbeats 1000000 in
set_option maxRecDepth 100000 in
theorem sreadGo (s : ByteArray) (n : Nat) (hp0 : 0 < s.size) (hs : s.size ≤ 65536) (hc0 : (s[0]'hp0).toNat = n) (h60 : n ≤ 60) (w : World) :
  Calls Tryd.prog 43 #[.string s] w fun e w' => ReadR (s.data.toList.drop 1) n w e w' := by
 obtain ⟨i0, hi, hz0, hz1, hz2⟩ := info_parts Tryd.infL9
 obtain ⟨L, eL⟩ : ∃ L, L = s.data.toList := ⟨_, rfl⟩
 obtain ⟨q0, eq0⟩ : ∃ q0, q0 = L.drop 1 := ⟨_, rfl⟩
 rw [← eL, ← eq0]
 have HLS : Hid (L.length = s.size) := by show _ = _; rw [eL, Array.length_toList]; rfl
 have HL := hide eL
 have HQ := hide eq0
 have hne2 : s.toList.isEmpty = false := by
  rw [ByteArray.toList_eq, ← eL, List.isEmpty_eq_false_iff]
  intro h; have := unhide HLS; rw [h] at this; simp at this; omega
 have n60 : ¬ (60 : Int) < (n : Int) := by omega
 clear eL eq0
 go_enter Tryd.func43, Tryd.ntmps43
 go_wp2_with fail
 go_loopw [4, 5, 6] (fun v pv i wr => ∃ (j k p : Nat) (m : List ByteArray), j + k = n ∧ i = .int .i64 j ∧ pv = .int .i64 p ∧ 1 ≤ p ∧ p ≤ s.size ∧ m.length ≤ k ∧ Hid (fldN q0 k = some (m, L.drop p)) ∧ Hid (wr.ownsRow w.heap.size 9 1 v m.length (cS m)) ∧ Hid (Below w.heap.size w wr)) (fun _ _ i _ => (intOf i).toNat)
 case atStart => exact ⟨n, 0, 1, [], by omega, by go_num, rfl, by omega, by omega, by simp, by show fldN q0 0 = _; rw [unhide HQ]; rfl, lit_emptyS _ _ _ (Nat.le_refl _), (Below.refl _ _).alloc (Nat.le_refl _) _⟩
 case round =>
  obtain ⟨j, k, p, m, hjk, rfl, rfl, hp1, hp2, hm, HF, HO, HB⟩ := hrel
  have hz := (unhide HB).size
  by_cases hj : j = 0
  ·subst hj
   have ek : k = n := by omega
   subst ek
   by_cases hq : p = s.size
   ·have HN : Hid (fldN q0 k = some (m, [])) := by
     show _ = _; rw [unhide HF, List.drop_eq_nil_of_le (by rw [unhide HLS]; omega)]
    have t1 : ((p : Int) != (s.size : Int)) = false := by rw [bne_eq_false_iff_eq]; omega
    clear hq
    go_wp2_with fail
    go_ret2
    exact ⟨⟨m, _, true, rfl, unhide HO, .inl ⟨rfl, unhide HN⟩⟩, unhide HB⟩
   ·have HN : Hid (∀ m, fldN q0 k ≠ some (m, [])) := by
     show ∀ m, _ ≠ _
     intro m2 h; rw [unhide HF] at h
     simp only [Option.some.injEq, Prod.mk.injEq] at h
     have h3 := congrArg List.length h.2; rw [List.length_drop, unhide HLS] at h3; simp at h3; omega
    have t1 : ((p : Int) != (s.size : Int)) = true := by rw [bne_iff_ne]; omega
    clear hq
    go_wp2_with fail
    go_ret2
    exact ⟨⟨[], _, false, rfl, lit_emptyS _ _ _ hz, .inr ⟨rfl, rfl, unhide HN⟩⟩, (unhide HB).alloc hz _⟩
  ·have hj2 : (0 : Int) < (j : Int) := by omega
   have hN : fld (L.drop p) = none → ∀ m, fldN q0 n ≠ some (m, []) := by
    intro h
    have h0 : fldN q0 (k + 1) = none := by simp only [fldN]; rw [unhide HF]; simp [h]
    have h1 := fldN_none q0 (k + 1) h0 (n - (k + 1))
    rw [show k + 1 + (n - (k + 1)) = n by omega] at h1
    intro m h; rw [h1] at h; cases h
   obtain ⟨p2, ep2⟩ : ∃ p2, p2 = p + 2 := ⟨_, rfl⟩
   have a1 : (p : Int) + 2 = (p2 : Int) := by omega
   by_cases hp3 : s.size < p2
   ·have HN := hide (hN (fld_short L p (by rw [unhide HLS]; omega)))
    have a2 : (s.size : Int) < (p2 : Int) := by omega
    clear hN ep2 hp3
    go_wp2_with fail
    go_ret2
    exact ⟨⟨[], _, false, rfl, lit_emptyS _ _ _ hz, .inr ⟨rfl, rfl, unhide HN⟩⟩, (unhide HB).alloc hz _⟩
   ·have a2 : ¬ (s.size : Int) < (p2 : Int) := by omega
    have a6 : (p2 : Int) ≤ (s.size : Int) := by omega
    have a7 : p ≤ p2 := by omega
    have a5 : (0 : Int) ≤ (p2 : Int) := by omega
    have HPS : Hid ((s.extract p p2).size = 2) := by show _ = _; rw [cut_size _ _ _ (by omega)]; omega
    obtain ⟨y, hy⟩ : ∃ y : Nat, y = ofBE (s.extract p p2).data.toList := ⟨_, rfl⟩
    have hy1 : y = ofBE ((L.drop p).take 2) := by rw [hy, cut_list, ← unhide HL, show p2 - p = 2 by omega]
    have hy2 : y < 65536 := by have := ofBE_lt (s.extract p p2).data.toList 2; rw [List.take_of_length_le (by rw [Array.length_toList]; exact Nat.le_of_eq (unhide HPS)), ← hy] at this; exact this
    obtain ⟨p3, ep3⟩ : ∃ p3, p3 = p2 + y := ⟨_, rfl⟩
    have b1 : (p2 : Int) + (y : Int) = (p3 : Int) := by omega
    have y0 : (y : Int) ≤ 65536 := by omega
    have HY := hide hy
    by_cases hbig : 20000 < y
    ·have HN := hide (hN (fld_big L p y hy1 hbig))
     have a8 : (20000 : Int) < (y : Int) := by omega
     clear hN ep2 hp3 hy hy1 ep3 hy2 hbig
     go_wp2_with (go_at_call 54; have h3 := snumberOf (s.extract p p2) (by rw [unhide HPS]; decide) wr; rw [← unhide HY] at h3; refine h3.mono ?_; clear h3; rintro e w2 ⟨rfl, hw⟩; subst w2)
     go_ret2
     exact ⟨⟨[], _, false, rfl, lit_emptyS _ _ _ hz, .inr ⟨rfl, rfl, unhide HN⟩⟩, (unhide HB).alloc hz _⟩
    ·have a8 : ¬ (20000 : Int) < (y : Int) := by omega
     by_cases hoff : s.size < p3
     ·have HN := hide (hN (fld_off L p y hy1 (by rw [unhide HLS]; omega)))
      have a9 : (s.size : Int) < (p3 : Int) := by omega
      clear hN ep2 hp3 hy hy1 ep3 hy2 hbig hoff
      go_wp2_with (go_at_call 54; have h3 := snumberOf (s.extract p p2) (by rw [unhide HPS]; decide) wr; rw [← unhide HY] at h3; refine h3.mono ?_; clear h3; rintro e w2 ⟨rfl, hw⟩; subst w2)
      go_ret2
      exact ⟨⟨[], _, false, rfl, lit_emptyS _ _ _ hz, .inr ⟨rfl, rfl, unhide HN⟩⟩, (unhide HB).alloc hz _⟩
     ·have a9 : ¬ (s.size : Int) < (p3 : Int) := by omega
      have c1 : (p3 : Int) ≤ (s.size : Int) := by omega
      have c2 : p2 ≤ p3 := by omega
      have c3 : (0 : Int) ≤ (p3 : Int) := by omega
      have hX : (⟨((L.drop (p + 2)).take y).toArray⟩ : ByteArray) = s.extract p2 p3 := by
       have h0 := cut_list s p2 p3
       rw [← unhide HL, show p3 - p2 = y by omega, ep2] at h0
       rw [← h0, ep2]
      have HN : Hid (fldN q0 (k + 1) = some (m ++ [s.extract p2 p3], L.drop p3)) := by
       show _ = _
       simp only [fldN]
       rw [unhide HF]
       simp only [Option.bind_some]
       rw [fld_at L p y hy1 hbig (by rw [unhide HLS]; omega)]
       simp only [Option.bind_some, hX]
       rw [ep3, ep2]
      have hown := unhide HO
      obtain ⟨x, ex⟩ : ∃ x, x = s.extract p2 p3 := ⟨_, rfl⟩
      have HX := hide ex
      have hm3 : m.length ≤ 60 := by omega
      clear hN hy hy1 hy2 hbig hoff hX ex hp3
      have p0 : 1 ≤ p3 := by omega
      have q0' : p3 ≤ s.size := by omega
      obtain ⟨z, ez⟩ : ∃ z, z = 2 + y := ⟨_, rfl⟩
      have d1 : (2 : Int) + (y : Int) = (z : Int) := by omega
      have d2 : (p : Int) + (z : Int) = (p3 : Int) := by omega
      have d4 : (z : Int) ≤ 1048576 := by omega
      have d5 : (p3 : Int) ≤ 1048576 := by omega
      clear ez ep2 ep3
      obtain ⟨j2, ej⟩ : ∃ j2, j = j2 + 1 := ⟨j - 1, by omega⟩
      subst ej
      go_wp2_with (first | (go_at_call 54; have h3 := snumberOf (s.extract p p2) (by rw [unhide HPS]; decide) wr; rw [← unhide HY] at h3; refine h3.mono ?_; clear h3; rintro e w2 ⟨rfl, hw⟩; subst w2) | (at_builtin; refine wpList_append_lies _ rfl (.tmp 48) (.tmp 57) 27 rfl w.heap.size 9 i0 (.string ⟨#[]⟩) 1 16 Tryd.underlying27 hi hz0 hz1 hz2 rfl (by decide) _ _ _ rfl (hown.alloc _) ⟨wr.heap.size, 0, none⟩ 1 1 (cS [s.extract p2 p3]) rfl rfl (by exact news_new wr (cS [s.extract p2 p3]) 9) (cS_one _) (by decide) (by unfold maxLen; omega) (by omega) (by simp; omega) _ rfl ?_; intro g2 c2 w2 hown2 hgrow2 hat2 hlt2; have HB2 := hide (below_app (unhide HB) hz hown (Nat.le_refl _) hgrow2); have HO2 := hide (own_appS (l := m) (m := [s.extract p2 p3]) hown2 rfl); clear hown2 hgrow2 hat2 hlt2))
      go_roundw
      case rel => exact ⟨j2, k + 1, p3, m ++ [s.extract p2 p3], by omega, by go_num, by go_num, p0, q0', by rw [List.length_append]; exact Nat.add_le_add_right hm 1, HN, HO2, HB2⟩
      case measure => simp [intOf]
end Go.Proofs.YtamjljhbnhdgdaaDoor
