/- The specification's source: numbers and rows of bytes that are drawn. -/
import Derived.Test.YtofkdkglohllpaaGreatDoorZSrcM
namespace Go.Proofs.YtofkdkglohllpaaGreatDoor
open Go.ChangeShapes Go.WideShapes Go.ChangeAt Go.RowKit
theorem Tryz.infP5 : (Tryz.prog.info? 5).map (fun i => (i.zero, i.size, i.bytes)) = some (some (.int .u8 0), 1, 1) := by kernel_rfl
theorem Row8.grown {w w' : World} {a : Option Addr} {l : List UInt8} {g : Nat} (h : Row8 w a l) (hg : w.grownBy w' (some g)) (hne : ApartOf a l g) : Row8 w' a l := by
  rcases hne with h0 | hne
  · exact .inl h0
  rcases h with h | ⟨b, off, e, hlt, hc⟩
  · exact .inl h
  · exact .inr ⟨b, off, e, Nat.lt_of_lt_of_le hlt hg.size, fun i hi => (hg.cell_far ⟨b, off + i, none⟩ hlt (fun e2 => hne _ e (Option.some.inj e2))).trans (hc i hi)⟩
theorem alloc_at_old (w : World) (o : Obj) (k : Nat) (h : k < w.heap.size) : (w.alloc o).heap[k]? = w.heap[k]? := by
  show (w.heap.push o)[k]? = _; rw [Array.getElem?_push, if_neg (by omega)]
set_option maxRecDepth 100000 in
theorem snext (n g : Nat) (a : Option Addr) (cap : Nat) (l : List UInt8) (p s : Nat) (hn : 2 ≤ n) (hn2 : n ≤ 256) (hl : l.length ≤ 1048600) (hp : p ≤ 2000000) (hs : s < 2147483648) (w : World) (h : SrcAt w g a cap l p s) (hr : Row8 w a l) (hg : ApartOf a l g) :
    Calls Tryz.prog 22 #[.pointer (some ⟨g, 0, none⟩), .int .i64 (n : Int)] w fun e w' => ∃ x s' : Nat, e = .returned (.int .i64 (x : Int)) ∧ x < n ∧ s' < 2147483648 ∧ SrcAt w' g a cap l (p + 1) s' ∧ w.grownBy w' (some g) := by
  have HH := hide (sbyte g a cap l p s hl hp hs w h hr hg)
  have n1 : ¬ (n : Int) ≤ 1 := by omega
  have n2 : (n : Int) ≤ 256 := by omega
  have n3 : ¬ (n : Int) = 0 := by omega
  clear h hr hg hs
  go_enter Tryz.func22, Tryz.ntmps22
  go_wp2_with fail
  refine (unhide HH).mono ?_
  rintro e w2 ⟨x, s', rfl, hx, hs', hA, hG⟩
  obtain ⟨y, hy⟩ : ∃ y, y = x % n := ⟨_, rfl⟩
  have k2 : (x : Int) % (n : Int) = (y : Int) := by rw [hy]; exact (Int.natCast_emod x n).symm
  have k1 : (x : Int).tmod (n : Int) = (y : Int) := by rw [Int.tmod_eq_emod_of_nonneg (by omega)]; exact k2
  have HA := hide hA
  have HG := hide hG
  have HS := hide hs'
  have HM : Hid (y < n) := by rw [hy]; exact Nat.mod_lt x (show n > 0 by omega)
  clear hA hG hs' hy
  go_wp2_with fail
  go_ret
  exact ⟨y, s', rfl, unhide HM, unhide HS, unhide HA, unhide HG⟩
theorem src_far {w w2 w3 : World} {o : Obj} {e : TypeId} {v : Value} {n g : Nat} {xs : List Value} (hz : w.heap.size ≤ w2.heap.size) (hown : w2.ownsRow w.heap.size e 1 v n xs) (hg : (w2.alloc o).grownBy w3 v.ownBlock) : (w.grownBy w2 (some g) → w.grownBy w3 (some g)) := fun h =>
  ⟨hg.os.trans h.os, hg.tape.trans h.tape, hg.output.trans h.output, by have := hg.size; simp at this; omega, fun k hk hr => by
    have h1 : (w2.alloc o).heap[k]? = w2.heap[k]? := alloc_at_old w2 o k (by omega)
    have h2 : w3.heap[k]? = (w2.alloc o).heap[k]? := hg.block k (by simp; omega) (fun e2 => by have := (hown.lt k e2.symm).1; omega)
    exact h2.trans (h1.trans (h.block k hk hr))⟩
theorem src_kept {w w2 w3 : World} {o : Obj} {e : TypeId} {v : Value} {n g cap p s : Nat} {a : Option Addr} {l : List UInt8} {xs : List Value} (h : SrcAt w2 g a cap l p s) (hlt : g < w.heap.size) (hown : w2.ownsRow w.heap.size e 1 v n xs) (hg : (w2.alloc o).grownBy w3 v.ownBlock) : SrcAt w3 g a cap l p s := by
  have h1 : ArrAt (w2.alloc o) g _ _ := ArrAt.alloc h o
  exact (hg.block g h1.lt (fun e2 => by have := (hown.lt g e2.symm).1; omega)).trans h1
set_option maxHeartbeats 400000 in
set_option maxRecDepth 100000 in
theorem sbytes (n g : Nat) (a : Option Addr) (cap : Nat) (l : List UInt8) (p s : Nat) (hn : 1 ≤ n) (hn2 : n ≤ 255) (hl : l.length ≤ 1048600) (hp : p ≤ 1000000) (hs : s < 2147483648) (w : World) (h : SrcAt w g a cap l p s) (hr : Row8 w a l) (hg : ApartOf a l g) :
    Calls Tryz.prog 12 #[.pointer (some ⟨g, 0, none⟩), .int .i64 (n : Int)] w fun e w' => ∃ v : Value, e = .returned v ∧ ∃ m : List UInt8, m.length ≤ n ∧ w'.ownsRow w.heap.size 5 1 v m.length (B8 m) ∧ ∃ p' : Nat, p' ≤ p + 300 ∧ ∃ s' : Nat, s' < 2147483648 ∧ SrcAt w' g a cap l p' s' ∧ w.grownBy w' (some g) := by
  obtain ⟨i0, hi, hz0, hz1, hz2⟩ := info_parts Tryz.infP5
  have hglt : g < w.heap.size := ArrAt.lt h
  obtain ⟨w0, hw0⟩ : ∃ w0, w0 = w.alloc (.cells #[] 5) := ⟨_, rfl⟩
  have hA0 : SrcAt w0 g a cap l p s := by rw [hw0]; exact ArrAt.alloc h _
  have hG0 : w.grownBy w0 (some g) := by rw [hw0]; exact ⟨rfl, rfl, rfl, by simp, fun k hk _ => alloc_at_old w _ k hk⟩
  have hO0 : w0.ownsRow w.heap.size 5 1 (.slice (some ⟨w.heap.size, 0, none⟩) 0 0) ([] : List UInt8).length (B8 []) := by rw [hw0]; exact lit_empty w _ _ (Nat.le_refl _)
  have HR := hide hr
  have HGN := hide hg
  have HN := hide (snext (n + 1) g a cap l p s (by omega) (by omega) hl (by omega) hs w0 hA0 (hr.grown hG0 hg) hg)
  have HO0 := hide hO0
  have HG0 := hide hG0
  have hw0' := hw0.symm
  have hnn : ((n + 1 : Nat) : Int) = (n : Int) + 1 := by omega
  rw [hnn] at HN
  have HS := hide hs
  clear h hr hg hs hA0 hG0 hO0 hw0 hnn
  go_enter Tryz.func12, Tryz.ntmps12
  go_wp2_with fail
  refine (unhide HN).mono ?_
  rintro e w1 ⟨x, s1, rfl, hx, hs1, hA1, hG1⟩
  have HA1 := hide hA1
  have HG1 := hide (World.grownBy.trans' (unhide HG0) hG1)
  have HO1 := hide ((unhide HO0).kept hG1 (.inr (by simp [Value.ownBlock]; omega)))
  have HS1 := hide hs1
  clear hA1 hG1 hs1 HO0 HG0 HN HS
  go_wp2_with fail
  go_loopw [5, 6] (fun v i wr => ∃ (k : Nat) (m : List UInt8) (p' s' : Nat), i = .int .i64 k ∧ k ≤ 255 ∧ m.length + k ≤ n ∧ p' + k ≤ p + 257 ∧ Hid (s' < 2147483648) ∧ Hid (wr.ownsRow w.heap.size 5 1 v m.length (B8 m)) ∧ Hid (SrcAt wr g a cap l p' s') ∧ Hid (w.grownBy wr (some g))) (fun _ i _ => (intOf i).toNat)
  case atStart => exact ⟨x, [], p + 1, s1, rfl, by omega, by simp; omega, by omega, HS1, HO1, HA1, HG1⟩
  case round =>
    clear HA1 HG1 HO1 HS1
    obtain ⟨k, m, p', s', rfl, hk, hm, hp', HS, HO, HA, HG⟩ := hrel
    by_cases h0 : 0 < k
    · have h0' : 0 < (k : Int) := by omega
      have HN := hide (snext 256 g a cap l p' s' (by omega) (by omega) hl (by omega) (unhide HS) wr (unhide HA) ((unhide HR).grown (unhide HG) (unhide HGN)) (unhide HGN))
      go_wp2_with fail
      refine (unhide HN).mono ?_
      rintro e w2 ⟨y, s2, rfl, hy, hs2, hA2, hG2⟩
      obtain ⟨c, hc⟩ : ∃ c : UInt8, c = UInt8.ofNat y := ⟨_, rfl⟩
      have hcy : (y : Int) % 256 = (c.toNat : Int) := by rw [hc, UInt8.toNat_ofNat']; omega
      have hcy2 : (y : Int) = (c.toNat : Int) := by rw [hc, UInt8.toNat_ofNat']; omega
      have hown := (unhide HO).kept hG2 (by
        cases hv : Value.ownBlock _ with
        | none => exact .inl rfl
        | some j => right; intro e; injection e with e; have := ((unhide HO).lt j hv).1; omega)
      have HG2 := hide (World.grownBy.trans' (unhide HG) hG2)
      have HA2 := hide hA2
      have HS2 := hide hs2
      have hz := (unhide HG2).size
      rw [hcy2]
      have hc255 : (c.toNat : Int) ≤ 255 := by have := c.toNat_lt; omega
      clear hG2 hA2 hs2 HO HG HA HS HN hc hcy hcy2
      go_wp2_with (at_builtin; refine wpList_append_lies _ rfl (.tmp 16) (.tmp 20) 22 rfl w.heap.size 5 i0 (.int .u8 0) 1 1 Tryz.underlying22 hi hz0 hz1 hz2 rfl (by decide) _ _ _ rfl (hown.alloc _) ⟨w2.heap.size, 0, none⟩ 1 1 (B8 [c]) rfl rfl (by exact news_new w2 (B8 [c]) 5) (B8_one _) (by decide) (by unfold maxLen; omega) (by omega) (by simp; omega) _ rfl ?_; intro g3 c3 w3 hown3 hgrow3 hat3 hlt3; have HO3 := hide (own_app (l := m) (m := [c]) hown3 rfl); have HG3 := hide (src_far (unhide HG2).size hown hgrow3 (unhide HG2)); have HA3 : Hid (SrcAt w3 g a cap l (p' + 1) s2) := src_kept (unhide HA2) hglt hown hgrow3; clear hown hown3 hgrow3 hat3 hlt3 HG2 HA2)
      go_roundw
      case rel => exact ⟨k - 1, m ++ [c], p' + 1, s2, by go_num, by omega, by rw [List.length_append]; simp; omega, by omega, HS2, HO3, HA3, HG3⟩
      case measure => simp [intOf]; omega
    · have h0' : ¬ 0 < (k : Int) := by omega
      go_wp2_with fail
      go_ret
      exact ⟨_, rfl, m, by omega, unhide HO, p', by omega, s', unhide HS, unhide HA, unhide HG⟩
theorem ssource (a : Option Addr) (cap : Nat) (l : List UInt8) (s0 : Nat) (k1 : (l.length : Int).tmod 1000 = (s0 : Int)) (_k2 : (l.length : Int) % 1000 = (s0 : Int)) (w : World) :
    Calls Tryz.prog 11 #[.slice a l.length cap] w fun e w' => e = .returned (.pointer (some ⟨w.heap.size, 0, none⟩)) ∧ w' = w.alloc (.cells #[.slice a l.length cap, .int .i64 0, .int .i64 (s0 : Int)] 46) := by
  go_enter Tryz.func11, Tryz.ntmps11
  go_wp2_with fail
  go_ret
  exact ⟨rfl, rfl⟩
theorem own_mono {w : World} {base base' : Nat} {e : TypeId} {v : Value} {n : Nat} {xs : List Value} (h : w.ownsRow base e 1 v n xs) (hb : base' ≤ base) : w.ownsRow base' e 1 v n xs := by
  refine ⟨h.1, ?_⟩
  rcases h.2 with h2 | ⟨g, cap, cur, e1, h3, rest⟩
  · exact .inl h2
  · exact .inr ⟨g, cap, cur, e1, Nat.le_trans hb h3, rest⟩
set_option maxRecDepth 100000 in
theorem sbytesOf (n : Nat) (a : Option Addr) (cap : Nat) (l : List UInt8) (hn : 1 ≤ n) (hn2 : n ≤ 255) (hl : l.length ≤ 1048600) (w : World) (hr : Row8 w a l) :
    Calls Tryz.prog 4 #[.slice a l.length cap, .int .i64 (n : Int)] w fun e w' => ∃ v : Value, e = .returned v ∧ ∃ m : List UInt8, m.length ≤ n ∧ w'.ownsRow w.heap.size 5 1 v m.length (B8 m) ∧ Below w.heap.size w w' := by
  obtain ⟨s0, hs0⟩ : ∃ s0 : Nat, s0 = l.length % 1000 := ⟨_, rfl⟩
  have k1 : (l.length : Int).tmod 1000 = (s0 : Int) := by rw [Int.tmod_eq_emod_of_nonneg (by omega)]; omega
  have k2 : (l.length : Int) % 1000 = (s0 : Int) := by omega
  obtain ⟨w1, hw1⟩ : ∃ w1, w1 = w.alloc (.cells #[.slice a l.length cap, .int .i64 0, .int .i64 (s0 : Int)] 46) := ⟨_, rfl⟩
  have hb1 : Below w.heap.size w w1 := by rw [hw1]; exact (Below.refl _ _).alloc (Nat.le_refl _) _
  have hA : SrcAt w1 w.heap.size a cap l 0 s0 := by rw [hw1]; exact arr_new w [.slice a l.length cap, .int .i64 0, .int .i64 (s0 : Int)] _
  have hap : ApartOf a l w.heap.size := by
    rcases hr with h | ⟨b, off, e, hb, _⟩
    · exact .inl h
    · refine .inr (fun x hx => ?_)
      rw [e] at hx; injection hx with hx; subst hx; exact Nat.ne_of_lt hb
  have HH := hide (sbytes n w.heap.size a cap l 0 s0 hn hn2 hl (by omega) (by omega) w1 hA (hr.below hb1) hap)
  have HB1 := hide hb1
  have hw1' := hw1.symm
  clear hr hap hb1 hA hw1 hs0
  go_enter Tryz.func4, Tryz.ntmps4
  go_wp2_with (go_at_call 11; refine (ssource a cap l s0 k1 k2 _).mono ?_; rintro e w2 ⟨rfl, hw2⟩; rw [hw1'] at hw2; subst w2)
  refine (unhide HH).mono ?_
  rintro e w3 ⟨v, rfl, m, hm, ho, p', _, s', _, _, hg⟩
  have HO := hide (own_mono ho (unhide HB1).size)
  have HB3 := hide ((unhide HB1).grown hg (unhide HB1).size (fun k hk => by injection hk with hk; omega))
  clear ho hg
  go_wp2_with fail
  go_ret
  exact ⟨_, rfl, m, hm, unhide HO, unhide HB3⟩
end Go.Proofs.YtofkdkglohllpaaGreatDoor
