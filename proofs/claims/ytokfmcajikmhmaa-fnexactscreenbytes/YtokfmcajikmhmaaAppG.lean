/- appendNumber: the bytes of a number behind a row; only the row's own block turns. -/
import Derived.Test.YtokfmcajikmhmaaAppI
namespace Go.Proofs.Ytokfmcajikmhmaa
open Go.ChangeShapes Go.WideShapes Go.ChangeAt Go.RowKit
theorem grown_app {w wr w2 : World} {o : Obj} {r r2 : Option Nat} (h : w.grownBy wr r) (h2 : (wr.alloc o).grownBy w2 r2) (hk : ∀ k, r2 = some k → r = some k ∨ w.heap.size ≤ k) : w.grownBy w2 r := by
  have hz := h.size
  have hz2 := h2.size
  simp at hz2
  refine ⟨h2.os.trans h.os, h2.tape.trans h.tape, h2.output.trans h.output, by omega, fun k hk1 hne => ?_⟩
  rw [h2.block k (by simp; omega) (fun e => by rcases hk k e.symm with h3 | h3; exact hne h3.symm; omega), Below.heap_alloc _ _ _ (by omega)]
  exact h.block k hk1 hne
set_option maxHeartbeats 400000 in
set_option maxRecDepth 100000 in
/-- appendNumber: the bytes of a number behind a row that the call owns. -/
theorem iappendG (base : Nat) (v : Value) (l : List UInt8) (n size : Nat) (_hn : n < 4294967296) (hs : size ≤ 4) (hl : l.length ≤ 4000000) (w : World) (h : w.ownsRow base 5 1 v l.length (B8 l)) (hb : base ≤ w.heap.size) :
    Calls Try.prog 41 #[v, .int .i64 (n : Int), .int .i64 (size : Int)] w fun e w' => ∃ v', e = .returned v' ∧ w'.ownsRow base 5 1 v' (l ++ be n size).length (B8 (l ++ be n size)) ∧ Below base w w' ∧ w.grownBy w' v.ownBlock ∧ (∀ k, v'.ownBlock = some k → v.ownBlock = some k ∨ w.heap.size ≤ k) := by
  obtain ⟨i0, hi, hz0, hz1, hz2⟩ := info_parts Try.infN5
  have HH := hide h
  clear h
  go_enter Try.func41, Try.ntmps41
  go_wp2_with fail
  go_loopw [0, 7] (fun v2 i wr => ∃ (b : Nat) (m : List UInt8), b ≤ size ∧ i = .int .i64 ((b : Int) - 1) ∧ Hid (m ++ be n b = l ++ be n size) ∧ m.length + b ≤ 4000004 ∧ Hid (wr.ownsRow base 5 1 v2 m.length (B8 m)) ∧ Hid (Below base w wr) ∧ Hid (w.grownBy wr v.ownBlock) ∧ Hid (∀ k, v2.ownBlock = some k → v.ownBlock = some k ∨ w.heap.size ≤ k)) (fun _ i _ => (intOf i + 1).toNat)
  case atStart => exact ⟨size, l, Nat.le_refl _, by go_num, rfl, by omega, HH, Below.refl _ _, grownBy_refl _ _, fun k hk => .inl hk⟩
  case round =>
    clear HH
    obtain ⟨b, m, hbs, rfl, HM, hm, HO, HB, HG, HK⟩ := hrel
    have hzw := (unhide HG).size
    by_cases hb0 : b = 0
    · subst hb0
      have HV : Hid (l ++ be n size = m) := by show _ = _; have := unhide HM; simpa [be] using this.symm
      go_wp2_with fail
      go_ret
      exact ⟨_, rfl, by rw [unhide HV]; exact unhide HO, unhide HB, unhide HG, unhide HK⟩
    · obtain ⟨k, rfl⟩ : ∃ k, b = k + 1 := ⟨b - 1, by omega⟩
      have hk : (k : Int) ≤ 3 := by omega
      have hv := nb_val n k
      have hown := unhide HO
      have hz := (unhide HB).size
      clear HO
      go_wp2_with (at_builtin; refine wpList_append_lies _ rfl (.tmp 14) (.tmp 20) 27 rfl base 5 i0 (.int .u8 0) 1 1 Try.underlying27 hi hz0 hz1 hz2 rfl (by decide) _ _ _ rfl (hown.alloc _) ⟨wr.heap.size, 0, none⟩ 1 1 (B8 [nb n k]) rfl rfl (by exact news_new wr (B8 [nb n k]) 5) (B8_one _) (by decide) (by unfold maxLen; omega) (by omega) (by simp; omega) _ rfl ?_; intro g2 c2 w2 hown2 hgrow2 hat2 hlt2; have HB2 := hide (below_app (unhide HB) (by omega) hown (Nat.le_refl _) hgrow2); have HO2 : Hid (w2.ownsRow base 5 1 (.slice (some ⟨g2, 0, none⟩) (m.length + 1) c2) (m ++ [nb n k]).length (B8 (m ++ [nb n k]))) := own_app hown2 rfl; have HG2 := hide (grown_app (unhide HG) hgrow2 (unhide HK)); have HK2 : Hid (∀ k, (Value.slice (some ⟨g2, 0, none⟩) (m.length + 1) c2).ownBlock = some k → v.ownBlock = some k ∨ w.heap.size ≤ k) := (fun k hk => by have hk' : g2 = k := Option.some.inj hk; subst hk'; rcases hat2 with h | h; exact unhide HK _ h; (right; rw [h]; simp; omega)); clear hown2 hgrow2 hat2 hlt2 hown HB hv HG HK)
      go_roundw
      case rel => exact ⟨k, m ++ [nb n k], by omega, by go_num, by show _ = _; rw [← unhide HM]; simp [be], by rw [List.length_append]; simp; omega, HO2, HB2, HG2, HK2⟩
      case measure => simp [intOf]
end Go.Proofs.Ytokfmcajikmhmaa
