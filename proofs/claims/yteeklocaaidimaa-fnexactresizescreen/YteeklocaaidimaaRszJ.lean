/- ResizeScreen: what the program answers at every screen and size. -/
import Derived.Test.YteeklocaaidimaaRszI
namespace Go.Proofs.Yteeklocaaidimaa
open Go.ChangeShapes Go.WideShapes Go.ChangeAt Go.RowKit
set_option linter.unusedVariables false
set_option maxHeartbeats 2000000 in
set_option maxRecDepth 100000 in
theorem irszB (i0 i1 i2 i3 i4 i5 i6 i7 i8 : Int) (t : ByteArray) (a : Option Addr) (cap : Nat) (l : List (Int × Int)) (b : Option Addr) (capb : Nat) (m : List ByteArray) (ht : t.size ≤ 1048576) (hl : l.length ≤ 1048576) (hm : m.length ≤ 1048576) (hz : ∀ k (h : k < m.length), m[k].size ≤ 1048576) (x1 x2 : Int) (h : (okB i0 i1 i2 i3 i4 i5 i6 i7 i8 t.data.toList l m && sizeB x1 x2) = false) (w : World) (hr : RowV w a (cP l)) (hs : RowV w b (cS m)) :
    Calls Try.prog 7 #[.agg #[.int .i64 i0, .int .i64 i1, .int .i64 i2, .int .i64 i3, .int .i64 i4, .int .i64 i5, .int .i64 i6, .int .i64 i7, .int .i64 i8, .string t, .slice a l.length cap, .slice b m.length capb], .int .i64 x1, .int .i64 x2] w fun e w' => e = .returned (.tuple #[.agg #[.int .i64 0, .int .i64 0, .int .i64 0, .int .i64 0, .int .i64 0, .int .i64 0, .int .i64 0, .int .i64 0, .int .i64 0, .string ⟨#[]⟩, .slice none 0 0, .slice none 0 0], .int .i64 (if okB i0 i1 i2 i3 i4 i5 i6 i7 i8 t.data.toList l m then 4 else 1)]) ∧ Below w.heap.size w w' := by
  have B0 := hide (((Below.refl w.heap.size w).alloc (Nat.le_refl _) (.cells #[.int .i64 i0, .int .i64 i1, .int .i64 i2, .int .i64 i3, .int .i64 i4, .int .i64 i5, .int .i64 i6, .int .i64 i7, .int .i64 i8, .string t, .slice a l.length cap, .slice b m.length capb] 29)).alloc (by simp) (.cells #[.int .i64 0, .int .i64 0, .int .i64 0, .int .i64 0, .int .i64 0, .int .i64 0, .int .i64 0, .int .i64 0, .int .i64 0, .string ⟨#[]⟩, .slice none 0 0, .slice none 0 0] 29))
  have A0 := hide ((BF.new w #[.int .i64 i0, .int .i64 i1, .int .i64 i2, .int .i64 i3, .int .i64 i4, .int .i64 i5, .int .i64 i6, .int .i64 i7, .int .i64 i8, .string t, .slice a l.length cap, .slice b m.length capb] 29).alloc (.cells #[.int .i64 0, .int .i64 0, .int .i64 0, .int .i64 0, .int .i64 0, .int .i64 0, .int .i64 0, .int .i64 0, .int .i64 0, .string ⟨#[]⟩, .slice none 0 0, .slice none 0 0] 29))
  have Z00 := BF.new (w.alloc (.cells #[.int .i64 i0, .int .i64 i1, .int .i64 i2, .int .i64 i3, .int .i64 i4, .int .i64 i5, .int .i64 i6, .int .i64 i7, .int .i64 i8, .string t, .slice a l.length cap, .slice b m.length capb] 29)) #[.int .i64 0, .int .i64 0, .int .i64 0, .int .i64 0, .int .i64 0, .int .i64 0, .int .i64 0, .int .i64 0, .int .i64 0, .string ⟨#[]⟩, .slice none 0 0, .slice none 0 0] 29
  rw [show (w.alloc (.cells #[.int .i64 i0, .int .i64 i1, .int .i64 i2, .int .i64 i3, .int .i64 i4, .int .i64 i5, .int .i64 i6, .int .i64 i7, .int .i64 i8, .string t, .slice a l.length cap, .slice b m.length capb] 29)).heap.size = w.heap.size + 1 from by simp] at Z00
  have Z0 := hide Z00
  have KA0 := (unhide A0).S
  have HOKC := hide (fun (w2 : World) (hb : Below w.heap.size w w2) => iok i0 i1 i2 i3 i4 i5 i6 i7 i8 t a cap l b capb m ht hl hm hz w2 (hr.below hb) (hs.below hb))
  clear hr hs ht hl hm hz Z00
  obtain ⟨o, ho⟩ : ∃ o, o = okB i0 i1 i2 i3 i4 i5 i6 i7 i8 t.data.toList l m := ⟨_, rfl⟩
  rw [← ho] at HOKC h ⊢
  clear ho
  cases o
  · rw [if_neg (by decide)]
    clear h
    go_enter Try.func7, Try.ntmps7
    go_wp2_with (go_at_call 18; refine (unhide HOKC _ (unhide B0)).mono ?_; rintro e w2 ⟨rfl, hb2⟩; have Z2 := hide ((unhide Z0).below hb2); have B2 := hide ((unhide B0).trans (hb2.mono (unhide B0).size)); have KZ2 := (unhide Z2).S; have FZ2 := (unhide Z2).F; clear hb2 A0 Z0 B0 KA0)
    refine bodyPost_ret (v := .tuple #[.agg #[.int .i64 0, .int .i64 0, .int .i64 0, .int .i64 0, .int .i64 0, .int .i64 0, .int .i64 0, .int .i64 0, .int .i64 0, .string ⟨#[]⟩, .slice none 0 0, .slice none 0 0], .int .i64 1]) (by simp [results, Try.results7, go_sem, KZ2]) rfl ⟨rfl, ?_⟩
    repeat refine Below.setCell ?_ (by exact Nat.le_succ _) _
    exact unhide B2
  · rw [if_pos rfl]
    have hsB : sizeB x1 x2 = false := h
    clear h
    go_enter Try.func7, Try.ntmps7
    go_wp2_with (first
      | (go_at_call 18; refine (unhide HOKC _ (unhide B0)).mono ?_; rintro e w2 ⟨rfl, hb2⟩; have Z2 := hide ((unhide Z0).below hb2); have B2 := hide ((unhide B0).trans (hb2.mono (unhide B0).size)); have KZ2 := (unhide Z2).S; have FZ2 := (unhide Z2).F; clear hb2 A0 Z0 B0 KA0)
      | (go_at_call 19; refine (isize _ _ _).mono ?_; rintro e w3 ⟨rfl, rfl⟩; rw [hsB]))
    refine bodyPost_ret (v := .tuple #[.agg #[.int .i64 0, .int .i64 0, .int .i64 0, .int .i64 0, .int .i64 0, .int .i64 0, .int .i64 0, .int .i64 0, .int .i64 0, .string ⟨#[]⟩, .slice none 0 0, .slice none 0 0], .int .i64 4]) (by simp [results, Try.results7, go_sem, KZ2]) rfl ⟨rfl, ?_⟩
    repeat refine Below.setCell ?_ (by exact Nat.le_succ _) _
    exact unhide B2
theorem irs (i0 i1 i2 i3 i4 i5 i6 i7 i8 : Int) (t : ByteArray) (a : Option Addr) (cap : Nat) (l : List (Int × Int)) (b : Option Addr) (capb : Nat) (m : List ByteArray) (ht : t.size ≤ 1048576) (hl : l.length ≤ 1048576) (hm : m.length ≤ 1048576) (hz : ∀ k (h : k < m.length), m[k].size ≤ 1048576) (x1 x2 j0 j1 j2 j3 j4 j6 j7 j8 c : Int) (t2 : ByteArray) (l2 : List (Int × Int)) (m2 : List ByteArray) (h : RsIs i0 i1 i2 i3 i4 i5 i6 i7 i8 t l m x1 x2 j0 j1 j2 j3 j4 j6 j7 j8 c t2 l2 m2) (hcap : l.length ≤ cap) (w : World) (hr : RowV w a (cP l)) (hs : RowV w b (cS m)) :
    Calls Try.prog 7 #[.agg #[.int .i64 i0, .int .i64 i1, .int .i64 i2, .int .i64 i3, .int .i64 i4, .int .i64 i5, .int .i64 i6, .int .i64 i7, .int .i64 i8, .string t, .slice a l.length cap, .slice b m.length capb], .int .i64 x1, .int .i64 x2] w fun e w' => ∃ a2 cap2 b2 capb2, e = .returned (.tuple #[.agg #[.int .i64 j0, .int .i64 j1, .int .i64 j2, .int .i64 j3, .int .i64 j4, .int .i64 0, .int .i64 j6, .int .i64 j7, .int .i64 j8, .string t2, .slice a2 l2.length cap2, .slice b2 m2.length capb2], .int .i64 c]) ∧
      w'.ownsRow w.heap.size 51 2 (.slice a2 l2.length cap2) l2.length (cP l2) ∧ w'.ownsRow w.heap.size 9 1 (.slice b2 m2.length capb2) m2.length (cS m2) ∧ Below w.heap.size w w' := by
  cases hg : (okB i0 i1 i2 i3 i4 i5 i6 i7 i8 t.data.toList l m && sizeB x1 x2)
  · obtain ⟨rfl, rfl, rfl, rfl, rfl, rfl, rfl, rfl, rfl, rfl, rfl, rfl⟩ := h.no hg
    refine (irszB i0 i1 i2 i3 i4 i5 i6 i7 i8 t a cap l b capb m ht hl hm hz x1 x2 hg w hr hs).mono ?_
    rintro e w' ⟨rfl, hb⟩
    exact ⟨none, 0, none, 0, rfl, World.ownsRow_nil _ _ _ _, World.ownsRow_nil _ _ _ _, hb⟩
  · obtain ⟨rfl, rfl, rfl, rfl, rfl, rfl, rfl, rfl, rfl, rfl, rfl, rfl⟩ := h.ok hg
    rw [Bool.and_eq_true] at hg
    obtain ⟨W, H, rfl, rfl, w1, w2, h3, h4, hlen, hcell⟩ := ok_parts hg.1
    have hs2 : 2 ≤ j0 ∧ j0 ≤ 24 ∧ 2 ≤ j1 ∧ j1 ≤ 10 := of_decide_eq_true hg.2
    obtain ⟨W2, rfl⟩ : ∃ n : Nat, j0 = (n : Int) := ⟨j0.toNat, by omega⟩
    obtain ⟨H2, rfl⟩ : ∃ n : Nat, j1 = (n : Int) := ⟨j1.toNat, by omega⟩
    rw [Int.toNat_natCast, Int.toNat_natCast, Int.toNat_natCast, Int.toNat_natCast]
    have hL : (rz l W W2 (W2 * H2) (min H H2)).length = W2 * H2 := rz_len l W W2 H2 _ rfl _ (Nat.min_le_right _ _)
    refine (irsz0 W H W2 H2 (W2 * H2) (min H H2) i2 i3 j4 i5 i6 i7 i8 t2 a cap l b capb m2 ht hl hm hz hcap hg.1 ⟨by omega, by omega⟩ ⟨by omega, by omega⟩ rfl rfl w hr hs).mono ?_
    rintro e w' ⟨g, vh, rfl, o1, o2, hb⟩
    obtain ⟨b2, capb2, rfl, -⟩ := ownZ_rowV o2
    rw [hL]
    exact ⟨_, _, b2, capb2, rfl, o1, o2, hb⟩
end Go.Proofs.Yteeklocaaidimaa
