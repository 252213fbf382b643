/- A source's drawn texts. -/
import Derived.Test.YtoapgccpaockfaaDoorSrcB
import Derived.Test.YtoapgccpaockfaaDoorSplitI
import Derived.Test.YtoapgccpaockfaaDoorReadFS
namespace Go.Proofs.YtoapgccpaockfaaDoor
open Go.ChangeShapes Go.WideShapes Go.ChangeAt Go.RowKit
set_option linter.unusedVariables false
theorem Tryd.infT9 : (Tryd.prog.info? 9).map (fun i => (i.zero, i.size, i.bytes)) = some (some (.string ⟨#[]⟩), 1, 16) := by kernel_rfl
set_option maxRecDepth 100000 in
theorem spick (g b cap2 : Nat) (m : List ByteArray) (a : Option Addr) (cap : Nat) (l : List UInt8) (p s : Nat) (hm : 2 ≤ m.length) (hm2 : m.length ≤ 256) (hl : l.length ≤ 1048576) (hp : p ≤ 2000000) (hs : s < 2147483648) (w : World) (hb : b < w.heap.size) (hbg : b ≠ g) (hc : ∀ k (h : k < m.length), w.cell? ⟨b, k, none⟩ = some (.string m[k])) (h : SrcAt w g a cap l p s) (hr : Row8 w a l) (hg : ApartOf a l g) :
    Calls Tryd.prog 27 #[.pointer (some ⟨g, 0, none⟩), .slice (some ⟨b, 0, none⟩) m.length cap2] w fun e w' => ∃ x : Nat, ∃ (hx : x < m.length) (s' : Nat), e = .returned (.string m[x]) ∧ s' < 2147483648 ∧ SrcAt w' g a cap l (p + 1) s' ∧ w.grownBy w' (some g) := by
  have HH := hide (snext m.length g a cap l p s hm hm2 hl hp hs w h hr hg)
  have n0 : ((m.length : Int) == 0) = false := beq_eq_false_iff_ne.2 (by omega)
  have n1 : ¬ (m.length : Int) = 0 := by omega
  have HC := hide hc
  clear h hr hg hs hc
  go_enter Tryd.func27, Tryd.ntmps27
  go_wp2_with fail
  refine (unhide HH).mono ?_
  rintro e w2 ⟨x, s', rfl, hx, hs', hA, hG⟩
  have hc2 : w2.cell? ⟨b, x, none⟩ = some (.string m[x]) := (World.cell?_of_block (hG.block b hb (fun e => hbg (by injection e)))).trans (unhide HC x hx)
  have hx1 : (x : Int) < (m.length : Int) := by omega
  have hx0 : (0 : Int) ≤ (x : Int) := by omega
  have HA := hide hA
  have HG := hide hG
  have HS := hide hs'
  have HX := hide hx
  clear hA hG hs'
  go_wp2_with fail
  go_ret
  exact ⟨x, unhide HX, s', rfl, unhide HS, unhide HA, unhide HG⟩
/-- The four texts that a source draws from. -/
def texts4 : List ByteArray := [⟨#[]⟩, ⟨#[97]⟩, ⟨#[116, 101, 120, 116]⟩, ⟨#[0, 1]⟩]
theorem texts4_le : ∀ k (h : k < texts4.length), texts4[k].size ≤ 4 := by
  intro k h
  match k, h with
  | 0, _ => show (ByteArray.mk #[]).size ≤ 4; decide
  | 1, _ => show (ByteArray.mk #[97]).size ≤ 4; decide
  | 2, _ => show (ByteArray.mk #[116, 101, 120, 116]).size ≤ 4; decide
  | 3, _ => show (ByteArray.mk #[0, 1]).size ≤ 4; decide
theorem grown_alloc (w : World) (o : Obj) (row : Option Nat) : w.grownBy (w.alloc o) row := ⟨rfl, rfl, rfl, by simp, fun k hk _ => alloc_at_old w _ k hk⟩
theorem texts4_cells (w : World) (t : TypeId) (k : Nat) (h : k < texts4.length) : (w.alloc (.cells #[.string ⟨#[]⟩, .string ⟨#[97]⟩, .string ⟨#[116, 101, 120, 116]⟩, .string ⟨#[0, 1]⟩] t)).cell? ⟨w.heap.size, k, none⟩ = some (.string texts4[k]) := by
  rw [World.cell?_alloc_mark]
  match k, h with
  | 0, _ => rfl
  | 1, _ => rfl
  | 2, _ => rfl
  | 3, _ => rfl
set_option maxHeartbeats 1000000 in
set_option maxRecDepth 100000 in
theorem stexts (g : Nat) (a : Option Addr) (cap : Nat) (l : List UInt8) (p s : Nat) (hl : l.length ≤ 1048576) (hp : p ≤ 1000000) (hs : s < 2147483648) (w : World) (h : SrcAt w g a cap l p s) (hr : Row8 w a l) (hg : ApartOf a l g) :
    Calls Tryd.prog 16 #[.pointer (some ⟨g, 0, none⟩)] w fun e w' => ∃ v : Value, e = .returned v ∧ ∃ m : List ByteArray, m.length ≤ 5 ∧ (∀ k (h : k < m.length), m[k].size ≤ 4) ∧ w'.ownsRow w.heap.size 9 1 v m.length (cS m) ∧ w.grownBy w' (some g) := by
  obtain ⟨i0, hi, hz0, hz1, hz2⟩ := info_parts Tryd.infT9
  have hglt : g < w.heap.size := ArrAt.lt h
  obtain ⟨w0, hw0⟩ : ∃ w0, w0 = w.alloc (.cells #[] 9) := ⟨_, rfl⟩
  have hA0 : SrcAt w0 g a cap l p s := by rw [hw0]; exact ArrAt.alloc h _
  have hG0 : w.grownBy w0 (some g) := by rw [hw0]; exact grown_alloc _ _ _
  have hO0 : w0.ownsRow w.heap.size 9 1 (.slice (some ⟨w.heap.size, 0, none⟩) 0 0) ([] : List ByteArray).length (cS []) := by rw [hw0]; exact lit_emptyS w _ _ (Nat.le_refl _)
  have HR := hide hr
  have HGN := hide hg
  have HN := hide (snext 6 g a cap l p s (by omega) (by omega) hl (by omega) hs w0 hA0 (hr.grown hG0 hg) hg)
  have HO0 := hide hO0
  have HG0 := hide hG0
  have hw0' := hw0.symm
  clear h hr hg hs hA0 hG0 hO0 hw0
  go_enter Tryd.func16, Tryd.ntmps16
  go_wp2_with fail
  refine (unhide HN).mono ?_
  rintro e w1 ⟨x, s1, rfl, hx, hs1, hA1, hG1⟩
  have HA1 := hide hA1
  have HG1 := hide (World.grownBy.trans' (unhide HG0) hG1)
  have HO1 := hide ((unhide HO0).kept hG1 (.inr (by simp [Value.ownBlock]; omega)))
  have HS1 := hide hs1
  clear hA1 hG1 hs1 HO0 HG0 HN
  go_wp2_with fail
  go_loopw [3, 4] (fun v i wr => ∃ (k : Nat) (m : List ByteArray) (p' s' : Nat), i = .int .i64 k ∧ k ≤ 5 ∧ m.length + k ≤ 5 ∧ p' + k ≤ p + 7 ∧ Hid (∀ k (h : k < m.length), m[k].size ≤ 4) ∧ Hid (s' < 2147483648) ∧ Hid (wr.ownsRow w.heap.size 9 1 v m.length (cS m)) ∧ Hid (SrcAt wr g a cap l p' s') ∧ Hid (w.grownBy wr (some g))) (fun _ i _ => (intOf i).toNat)
  case atStart => exact ⟨x, [], p + 1, s1, rfl, by omega, by simp; omega, by omega, (fun k h => absurd h (by simp)), HS1, HO1, HA1, HG1⟩
  case round =>
    clear HA1 HG1 HO1 HS1
    obtain ⟨k, m, p', s', rfl, hk, hm, hp', HM, HS, HO, HA, HG⟩ := hrel
    by_cases h0 : 0 < k
    · have h0' : 0 < (k : Int) := by omega
      have hgr := World.grownBy.trans' (unhide HG) (grown_alloc wr (.cells #[.string ⟨#[]⟩, .string ⟨#[97]⟩, .string ⟨#[116, 101, 120, 116]⟩, .string ⟨#[0, 1]⟩] 9) (some g))
      have hgw : g < wr.heap.size := ArrAt.lt (unhide HA)
      have HN := hide (spick g wr.heap.size 4 texts4 a cap l p' s' (by decide) (by decide) hl (by omega) (unhide HS) (wr.alloc (.cells #[.string ⟨#[]⟩, .string ⟨#[97]⟩, .string ⟨#[116, 101, 120, 116]⟩, .string ⟨#[0, 1]⟩] 9)) (by simp) (by omega) (texts4_cells wr _) (ArrAt.alloc (unhide HA) _) ((unhide HR).grown hgr (unhide HGN)) (unhide HGN))
      have HGR := hide hgr
      clear hgr
      go_wp2_with fail
      refine (unhide HN).mono ?_
      rintro e w2 ⟨y, hy, s2, rfl, hs2, hA2, hG2⟩
      obtain ⟨c, hc⟩ : ∃ c : ByteArray, c = texts4[y] := ⟨_, rfl⟩
      have HC4 : Hid (c.size ≤ 4) := by show _ ≤ _; rw [hc]; exact texts4_le y hy
      rw [← hc]
      have hown := ((unhide HO).alloc (.cells #[.string ⟨#[]⟩, .string ⟨#[97]⟩, .string ⟨#[116, 101, 120, 116]⟩, .string ⟨#[0, 1]⟩] 9)).kept hG2 (by
        cases hv : Value.ownBlock _ with
        | none => exact .inl rfl
        | some j => right; intro e; injection e with e; have := ((unhide HO).lt j hv).1; omega)
      have HG2 := hide (World.grownBy.trans' (unhide HGR) hG2)
      have HA2 := hide hA2
      have HS2 := hide hs2
      have hz := (unhide HG2).size
      clear hG2 hA2 hs2 HO HG HA HS HN hc HGR hy
      go_wp2_with (at_builtin; refine wpList_append_lies _ rfl (.tmp 12) (.tmp 16) 23 rfl w.heap.size 9 i0 (.string ⟨#[]⟩) 1 16 Tryd.underlying23 hi hz0 hz1 hz2 rfl (by decide) _ _ _ rfl (hown.alloc _) ⟨w2.heap.size, 0, none⟩ 1 1 (cS [c]) rfl rfl (by exact news_new w2 (cS [c]) 9) (cS_one _) (by decide) (by unfold maxLen; omega) (by omega) (by simp; omega) _ rfl ?_; intro g3 c3 w3 hown3 hgrow3 hat3 hlt3; have HO3 := hide (own_appS (l := m) (m := [c]) hown3 rfl); have HG3 := hide (src_far (unhide HG2).size hown hgrow3 (unhide HG2)); have HA3 : Hid (SrcAt w3 g a cap l (p' + 1) s2) := src_kept (unhide HA2) hglt hown hgrow3; clear hown hown3 hgrow3 hat3 hlt3 HG2 HA2)
      go_roundw
      case rel =>
        refine ⟨k - 1, m ++ [c], p' + 1, s2, by go_num, by omega, by rw [List.length_append]; simp; omega, by omega, ?_, HS2, HO3, HA3, HG3⟩
        intro j hj
        rw [List.length_append, List.length_singleton] at hj
        by_cases hj2 : j < m.length
        · rw [List.getElem_append_left hj2]; exact unhide HM j hj2
        · have : j = m.length := by omega
          subst this
          rw [List.getElem_concat_length rfl]; exact unhide HC4
      case measure => simp [intOf]; omega
    · have h0' : ¬ 0 < (k : Int) := by omega
      go_wp2_with fail
      go_ret
      exact ⟨_, rfl, m, by omega, unhide HM, unhide HO, unhide HG⟩
set_option maxRecDepth 100000 in
theorem stextsOf (a : Option Addr) (cap : Nat) (l : List UInt8) (hl : l.length ≤ 1048576) (w : World) (hr : Row8 w a l) :
    Calls Tryd.prog 4 #[.slice a l.length cap] w fun e w' => ∃ (m : List ByteArray) (b : Option Addr) (c : Nat), e = .returned (.slice b m.length c) ∧ m.length ≤ 5 ∧ (∀ k (h : k < m.length), m[k].size ≤ 4) ∧ w'.ownsRow w.heap.size 9 1 (.slice b m.length c) m.length (cS m) ∧ Below w.heap.size w w' := by
  obtain ⟨s0, hs0⟩ : ∃ s0 : Nat, s0 = l.length % 1000 := ⟨_, rfl⟩
  have k1 : (l.length : Int).tmod 1000 = (s0 : Int) := by rw [Int.tmod_eq_emod_of_nonneg (by omega)]; omega
  have k2 : (l.length : Int) % 1000 = (s0 : Int) := by omega
  obtain ⟨w1, hw1⟩ : ∃ w1, w1 = w.alloc (.cells #[.slice a l.length cap, .int .i64 0, .int .i64 (s0 : Int)] 54) := ⟨_, rfl⟩
  have hb1 : Below w.heap.size w w1 := by rw [hw1]; exact (Below.refl _ _).alloc (Nat.le_refl _) _
  have hA : SrcAt w1 w.heap.size a cap l 0 s0 := by rw [hw1]; exact arr_new w [.slice a l.length cap, .int .i64 0, .int .i64 (s0 : Int)] _
  have hap : ApartOf a l w.heap.size := by
    rcases hr with h | ⟨b, off, e, hb, _⟩
    · exact .inl h
    · refine .inr (fun x hx => ?_)
      rw [e] at hx; injection hx with hx; subst hx; exact Nat.ne_of_lt hb
  have HH := hide (stexts w.heap.size a cap l 0 s0 hl (by omega) (by omega) w1 hA (hr.below hb1) hap)
  have HB1 := hide hb1
  have hw1' := hw1.symm
  clear hr hap hb1 hA hw1 hs0
  go_enter Tryd.func4, Tryd.ntmps4
  go_wp2_with (go_at_call 15; refine (ssource a cap l s0 k1 k2 _).mono ?_; rintro e w2 ⟨rfl, hw2⟩; rw [hw1'] at hw2; subst w2)
  refine (unhide HH).mono ?_
  rintro e w3 ⟨v, rfl, m, hm, hm4, ho, hg⟩
  have HO := hide (own_mono ho (unhide HB1).size)
  have HM4 := hide hm4
  have HB3 := hide ((unhide HB1).grown hg (unhide HB1).size (fun k hk => by injection hk with hk; omega))
  obtain ⟨b, c, rfl, -⟩ := own_rowV ho
  clear ho hg hm4
  go_wp2_with fail
  go_ret
  exact ⟨m, b, c, rfl, hm, unhide HM4, unhide HO, unhide HB3⟩
end Go.Proofs.YtoapgccpaockfaaDoor
