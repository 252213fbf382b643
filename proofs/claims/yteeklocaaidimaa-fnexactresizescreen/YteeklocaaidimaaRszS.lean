/- ResizeScreen: what the specification answers at a right screen and a right size. -/
import Derived.Test.YteeklocaaidimaaRszE
import Derived.Test.YteeklocaaidimaaBf
import Derived.Test.YteeklocaaidimaaAppStr
import Derived.Test.YteeklocaaidimaaOkS
import Derived.Test.YteeklocaaidimaaRowP
import Derived.Deep.Cut
namespace Go.Proofs.Yteeklocaaidimaa
open Go.ChangeShapes Go.WideShapes Go.ChangeAt Go.RowKit
set_option linter.unusedVariables false
attribute [local go_sem ↓] run_mn
theorem Try.infS9 : (Try.prog.info? 9).map (fun i => (i.zero, i.size, i.bytes)) = some (some (.string ⟨#[]⟩), 1, 16) := by kernel_rfl
set_option maxHeartbeats 2000000 in
set_option maxRecDepth 100000 in
theorem sresz (W' H' W2 H2 p M Q : Nat) (i2 i3 i4 i5 i6 i7 i8 : Int) (t : ByteArray) (a : Option Addr) (cap : Nat) (l : List (Int × Int)) (b : Option Addr) (capb : Nat) (m : List ByteArray) (hl : l.length ≤ 1048576) (hm : m.length ≤ 1048576) (hlen : l.length = W' * H') (hW : 2 ≤ W' ∧ W' ≤ 24) (hH : 2 ≤ H' ∧ H' ≤ 10) (hW2 : 2 ≤ W2 ∧ W2 ≤ 24) (hH2 : 2 ≤ H2 ∧ H2 ≤ 10) (hp : p = W2 * H2) (hM : M = min H' H2) (hQ : Q = min W' W2) (w : World) (hr : RowV w a (cP l)) (hs : RowV w b (cS m)) :
    Calls Try.prog 15 #[.agg #[.int .i64 (W' : Int), .int .i64 (H' : Int), .int .i64 i2, .int .i64 i3, .int .i64 i4, .int .i64 i5, .int .i64 i6, .int .i64 i7, .int .i64 i8, .string t, .slice a l.length cap, .slice b m.length capb], .int .i64 (W2 : Int), .int .i64 (H2 : Int)] w fun e w' => ∃ vc vh, e = .returned (.agg #[.int .i64 (W2 : Int), .int .i64 (H2 : Int), .int .i64 (mn i2 (W2 : Int)), .int .i64 (mn i3 ((H2 : Int) - 1)), .int .i64 i4, .int .i64 0, .int .i64 ((H2 : Int) - 1), .int .i64 (mn i7 (W2 : Int)), .int .i64 (mn i8 ((H2 : Int) - 1)), .string t, vc, vh]) ∧
      w'.ownsRow w.heap.size 51 2 vc p (cP (rz l W' W2 p M)) ∧ w'.ownsRow w.heap.size 9 1 vh m.length (cS m) ∧ Below w.heap.size w w' := by
  obtain ⟨i0', hi, hz0, hz1, hz2⟩ := info_parts Try.infS9
  have p2 : p ≤ 240 := by rw [hp]; exact Nat.mul_le_mul hW2.2 hH2.2
  have p3 : 0 < p := by rw [hp]; exact Nat.mul_pos (by omega) (by omega)
  have hpos : 0 < (cP l).length := by rw [cP_len, hlen]; have : 0 < W' * H' := Nat.mul_pos (by omega) (by omega); omega
  obtain ⟨b1, off, ha, hblt, hcr⟩ := hr.at hpos
  subst ha
  have HCR := hide hcr
  have HS := hide hs
  have HM2 := hide hm
  have HLEN := hide hlen
  have HPP := hide hp
  have hMi : mn (H2 : Int) (H' : Int) = (M : Int) := by unfold mn; rw [hM]; split <;> omega
  have hQi : mn (W2 : Int) (W' : Int) = (Q : Int) := by unfold mn; rw [hQ]; split <;> omega
  have hM1 : M ≤ H' := by omega
  have hM2 : M ≤ H2 := by omega
  have hQ1 : Q ≤ W' := by omega
  have hQ2 : Q ≤ W2 := by omega
  have HQ := hide hQ
  have B0 := hide (((Below.refl w.heap.size w).alloc (Nat.le_refl _) (.cells #[.int .i64 (W' : Int), .int .i64 (H' : Int), .int .i64 i2, .int .i64 i3, .int .i64 i4, .int .i64 i5, .int .i64 i6, .int .i64 i7, .int .i64 i8, .string t, .slice (some ⟨b1, off, none⟩) l.length cap, .slice b m.length capb] 29)).alloc (by simp) (.cells #[.int .i64 0, .int .i64 0, .int .i64 0, .int .i64 0, .int .i64 0, .int .i64 0, .int .i64 0, .int .i64 0, .int .i64 0, .string ⟨#[]⟩, .slice none 0 0, .slice none 0 0] 29))
  have A0 := hide ((BF.new w #[.int .i64 (W' : Int), .int .i64 (H' : Int), .int .i64 i2, .int .i64 i3, .int .i64 i4, .int .i64 i5, .int .i64 i6, .int .i64 i7, .int .i64 i8, .string t, .slice (some ⟨b1, off, none⟩) l.length cap, .slice b m.length capb] 29).alloc (.cells #[.int .i64 0, .int .i64 0, .int .i64 0, .int .i64 0, .int .i64 0, .int .i64 0, .int .i64 0, .int .i64 0, .int .i64 0, .string ⟨#[]⟩, .slice none 0 0, .slice none 0 0] 29))
  have Z00 := BF.new (w.alloc (.cells #[.int .i64 (W' : Int), .int .i64 (H' : Int), .int .i64 i2, .int .i64 i3, .int .i64 i4, .int .i64 i5, .int .i64 i6, .int .i64 i7, .int .i64 i8, .string t, .slice (some ⟨b1, off, none⟩) l.length cap, .slice b m.length capb] 29)) #[.int .i64 0, .int .i64 0, .int .i64 0, .int .i64 0, .int .i64 0, .int .i64 0, .int .i64 0, .int .i64 0, .int .i64 0, .string ⟨#[]⟩, .slice none 0 0, .slice none 0 0] 29
  rw [show (w.alloc (.cells #[.int .i64 (W' : Int), .int .i64 (H' : Int), .int .i64 i2, .int .i64 i3, .int .i64 i4, .int .i64 i5, .int .i64 i6, .int .i64 i7, .int .i64 i8, .string t, .slice (some ⟨b1, off, none⟩) l.length cap, .slice b m.length capb] 29)).heap.size = w.heap.size + 1 from by simp] at Z00
  have Z0 := hide Z00
  clear hr hs hm Z00 hcr hpos hlen hM hQ hp
  go_enter Try.func15, Try.ntmps15
  go_wp2_with fail
  refine (snew W2 H2 p hW2 hH2 (unhide HPP) _).mono ?_
  rintro e w1 ⟨vc, vh, rfl, ho, hh, hb⟩
  rw [show ((w.alloc (.cells #[.int .i64 (W' : Int), .int .i64 (H' : Int), .int .i64 i2, .int .i64 i3, .int .i64 i4, .int .i64 i5, .int .i64 i6, .int .i64 i7, .int .i64 i8, .string t, .slice (some ⟨b1, off, none⟩) l.length cap, .slice b m.length capb] 29)).alloc (.cells #[.int .i64 0, .int .i64 0, .int .i64 0, .int .i64 0, .int .i64 0, .int .i64 0, .int .i64 0, .int .i64 0, .int .i64 0, .string ⟨#[]⟩, .slice none 0 0, .slice none 0 0] 29)).heap.size = w.heap.size + 2 from by simp] at ho
  have HC1 := heldZ_of ho
  obtain ⟨g, capc, rfl, hglt, hgp⟩ : ∃ g capc, vc = .slice (some ⟨g, 0, none⟩) p capc ∧ (w.heap.size + 2 ≤ g ∧ g < w1.heap.size) ∧ p ≤ capc := by
    rcases ho.2 with ⟨_, h0⟩ | ⟨g, capc, cur, h1, _, _, h2, _⟩
    · omega
    · exact ⟨g, capc, h1, ho.lt g (by rw [h1]; rfl), h2⟩
  obtain ⟨bh, caph, rfl, -⟩ := ownZ_rowV hh
  have A1 := hide ((unhide A0).below hb)
  have Z1 := hide ((unhide Z0).below hb)
  have B1 := hide ((unhide B0).trans (hb.mono (unhide B0).size))
  have z1 : w.heap.size + 1 < w1.heap.size := (unhide Z1).lt
  have hB4 : w.heap.size ≤ w1.heap.size := by omega
  have nA : w1.heap.size ≠ w.heap.size := by omega
  have n1 : ¬ w1.heap.size = w.heap.size := by omega
  have n2 : ¬ w.heap.size = w1.heap.size := by omega
  have nZ : w1.heap.size ≠ w.heap.size + 1 := by omega
  have N2 := hide (BF.new w1 #[.int .i64 (W2 : Int), .int .i64 (H2 : Int), .int .i64 0, .int .i64 0, .int .i64 0, .int .i64 0, .int .i64 ((H2 : Int) - 1), .int .i64 0, .int .i64 0, .string ⟨#[]⟩, .slice (some ⟨g, 0, none⟩) p capc, .slice bh 0 caph] 29)
  have A2 := hide ((unhide A1).alloc (.cells #[.int .i64 (W2 : Int), .int .i64 (H2 : Int), .int .i64 0, .int .i64 0, .int .i64 0, .int .i64 0, .int .i64 ((H2 : Int) - 1), .int .i64 0, .int .i64 0, .string ⟨#[]⟩, .slice (some ⟨g, 0, none⟩) p capc, .slice bh 0 caph] 29))
  have Z2 := hide ((unhide Z1).alloc (.cells #[.int .i64 (W2 : Int), .int .i64 (H2 : Int), .int .i64 0, .int .i64 0, .int .i64 0, .int .i64 0, .int .i64 ((H2 : Int) - 1), .int .i64 0, .int .i64 0, .string ⟨#[]⟩, .slice (some ⟨g, 0, none⟩) p capc, .slice bh 0 caph] 29))
  have B2 := hide ((unhide B1).alloc (unhide B1).size (.cells #[.int .i64 (W2 : Int), .int .i64 (H2 : Int), .int .i64 0, .int .i64 0, .int .i64 0, .int .i64 0, .int .i64 ((H2 : Int) - 1), .int .i64 0, .int .i64 0, .string ⟨#[]⟩, .slice (some ⟨g, 0, none⟩) p capc, .slice bh 0 caph] 29))
  have H2' := hide (HeldZ.below HC1 ((Below.refl w1.heap.size w1).alloc (Nat.le_refl _) (.cells #[.int .i64 (W2 : Int), .int .i64 (H2 : Int), .int .i64 0, .int .i64 0, .int .i64 0, .int .i64 0, .int .i64 ((H2 : Int) - 1), .int .i64 0, .int .i64 0, .string ⟨#[]⟩, .slice (some ⟨g, 0, none⟩) p capc, .slice bh 0 caph] 29)) (Nat.le_refl _)).own
  clear ho hh hb A0 Z0 B0 A1 Z1 B1 HC1
  go_wp2_with fail
  go_loopw [8] (fun i wr => ∃ k : Nat, k ≤ M ∧ i = .int .i64 k ∧ Hid (BF w.heap.size #[.int .i64 (W' : Int), .int .i64 (H' : Int), .int .i64 i2, .int .i64 i3, .int .i64 i4, .int .i64 i5, .int .i64 i6, .int .i64 i7, .int .i64 i8, .string t, .slice (some ⟨b1, off, none⟩) l.length cap, .slice b m.length capb] wr) ∧ Hid (BF (w.heap.size + 1) #[.int .i64 0, .int .i64 0, .int .i64 0, .int .i64 0, .int .i64 0, .int .i64 0, .int .i64 0, .int .i64 0, .int .i64 0, .string ⟨#[]⟩, .slice none 0 0, .slice none 0 0] wr) ∧ Hid (BF w1.heap.size #[.int .i64 (W2 : Int), .int .i64 (H2 : Int), .int .i64 0, .int .i64 0, .int .i64 0, .int .i64 0, .int .i64 ((H2 : Int) - 1), .int .i64 0, .int .i64 0, .string ⟨#[]⟩, .slice (some ⟨g, 0, none⟩) p capc, .slice bh 0 caph] wr) ∧ Hid (wr.ownsRow (w.heap.size + 2) 51 2 (.slice (some ⟨g, 0, none⟩) p capc) p (cP (rz l W' W2 p k))) ∧ Hid (Below w.heap.size w wr)) (fun i _ => M - (intOf i).toNat)
  case atStart => exact ⟨0, by omega, rfl, A2, Z2, N2, H2', B2⟩
  case round =>
    clear A2 Z2 N2 H2' B2
    obtain ⟨k, hk, rfl, HA, HZ, HN, HO, HB⟩ := hrel
    by_cases hlt : k < M
    · obtain ⟨f2, hf2⟩ : ∃ f, f = k * W2 := ⟨_, rfl⟩
      obtain ⟨f1, hf1⟩ : ∃ f, f = k * W' := ⟨_, rfl⟩
      obtain ⟨r, hre⟩ : ∃ r, r = (l.drop (k * W')).take (min W' W2) := ⟨_, rfl⟩
      have h1 := row_fits k W2 H2 (by omega)
      have h2 := row_fits k W' H' (by omega)
      rw [← unhide HPP, ← hf2] at h1
      rw [← unhide HLEN, ← hf1] at h2
      have hrl : r.length = Q := by rw [hre, List.length_take, List.length_drop, ← unhide HQ, ← hf1]; omega
      have m1 : (k : Int) * (W2 : Int) = (f2 : Int) := by rw [hf2]; push_cast; rfl
      have m2 : (k : Int) * (W' : Int) = (f1 : Int) := by rw [hf1]; push_cast; rfl
      have HRZ : Hid (rz l W' W2 p (k + 1) = paste (rz l W' W2 p k) f2 r) := by show _ = _; rw [hf2, hre]; rfl
      have HRL := hide hrl
      have HR1 : Hid (∀ x, x < Q → l[f1 + x]? = r[x]?) := fun x h => by rw [hre, List.getElem?_take, if_pos (by have := unhide HQ; omega), List.getElem?_drop, ← hf1]
      have hlt' : (k : Int) < (M : Int) := by omega
      have hkb : (k : Int) ≤ 10 := by omega
      have HPL : Hid ((rz l W' W2 p k).length = p) := rz_len l W' W2 H2 p (unhide HPP) k (by omega)
      have KA := (unhide HA).S
      have PN : Hid (paste (rz l W' W2 p k) f2 (r.take 0) = rz l W' W2 p k) := by show _ = _; rw [List.take_zero]; exact paste_nil _ _
      rw [← unhide PN] at HO
      clear hf2 hf1 hre hrl
      go_wp2_with fail
      clear KA
      go_loopw [9] (fun i wr => ∃ x : Nat, x ≤ Q ∧ i = .int .i64 x ∧ Hid (BF w.heap.size #[.int .i64 (W' : Int), .int .i64 (H' : Int), .int .i64 i2, .int .i64 i3, .int .i64 i4, .int .i64 i5, .int .i64 i6, .int .i64 i7, .int .i64 i8, .string t, .slice (some ⟨b1, off, none⟩) l.length cap, .slice b m.length capb] wr) ∧ Hid (BF (w.heap.size + 1) #[.int .i64 0, .int .i64 0, .int .i64 0, .int .i64 0, .int .i64 0, .int .i64 0, .int .i64 0, .int .i64 0, .int .i64 0, .string ⟨#[]⟩, .slice none 0 0, .slice none 0 0] wr) ∧ Hid (BF w1.heap.size #[.int .i64 (W2 : Int), .int .i64 (H2 : Int), .int .i64 0, .int .i64 0, .int .i64 0, .int .i64 0, .int .i64 ((H2 : Int) - 1), .int .i64 0, .int .i64 0, .string ⟨#[]⟩, .slice (some ⟨g, 0, none⟩) p capc, .slice bh 0 caph] wr) ∧ Hid (wr.ownsRow (w.heap.size + 2) 51 2 (.slice (some ⟨g, 0, none⟩) p capc) p (cP (paste (rz l W' W2 p k) f2 (r.take x)))) ∧ Hid (Below w.heap.size w wr)) (fun i _ => Q - (intOf i).toNat)
      case atStart => exact ⟨0, by omega, rfl, HA, HZ, HN, HO, HB⟩
      case round =>
        clear HA HZ HN HO HB
        rename World => wq
        obtain ⟨x, hx, rfl, HA, HZ, HN, HO, HB⟩ := hrel
        have zN : w1.heap.size < wq.heap.size := (unhide HN).lt
        by_cases hxl : x < Q
        · have hxr : x < r.length := by rw [unhide HRL]; exact hxl
          obtain ⟨d, hd⟩ : ∃ d, d = f2 + x := ⟨_, rfl⟩
          obtain ⟨s, hs⟩ : ∃ s, s = f1 + x := ⟨_, rfl⟩
          have d1 : (f2 : Int) + (x : Int) = (d : Int) := by omega
          have s1 : (f1 : Int) + (x : Int) = (s : Int) := by omega
          have hown := unhide HO
          have hpl : (paste (rz l W' W2 p k) f2 (r.take x)).length = p := by rw [paste_len _ _ _ (by rw [unhide HPL, List.length_take]; omega), unhide HPL]
          obtain ⟨cc0, cc1⟩ := cP_at (paste (rz l W' W2 p k) f2 (r.take x)) d (by rw [hpl]; omega)
          obtain ⟨u0, c0⟩ : ∃ u0 : Int, (cP (paste (rz l W' W2 p k) f2 (r.take x)))[d * 2]? = some (.int .i64 u0) := ⟨_, cc0⟩
          obtain ⟨u1, c1⟩ : ∃ u1 : Int, (cP (paste (rz l W' W2 p k) f2 (r.take x)))[d * 2 + 1]? = some (.int .i64 u1) := ⟨_, cc1⟩
          clear cc0 cc1
          have x0 := (hown.cellAt (d * 2) (by omega)).trans c0
          have x1 := (hown.cellAt (d * 2 + 1) (by omega)).trans c1
          have y0 := hown.frozenAt (d * 2)
          have y1 := hown.frozenAt (d * 2 + 1)
          obtain ⟨u, hu⟩ : ∃ u, u = r[x].1 := ⟨_, rfl⟩
          obtain ⟨v, hv⟩ : ∃ v, v = r[x].2 := ⟨_, rfl⟩
          have R := ((hown.stored (d * 2) (.int .i64 u)).1.stored (d * 2 + 1) (.int .i64 v)).1
          rw [cP_set, hu, hv, hd, show ((r[x].1, r[x].2) : Int × Int) = r[x] from rfl, paste_set _ _ _ _ hxr (by rw [unhide HPL, unhide HRL]; omega), ← hd, ← hu, ← hv] at R
          have hls : s < l.length := by omega
          have hl1 : l[s] = r[x] := by have := unhide HR1 x hxl; rw [← hs, List.getElem?_eq_getElem hls, List.getElem?_eq_getElem hxr] at this; exact Option.some.inj this
          obtain ⟨e0, e1⟩ := cP_at l s hls
          rw [hl1, ← hu] at e0
          rw [hl1, ← hv] at e1
          have s0 : wq.cell? ⟨b1, off + s * 2, none⟩ = some (.int .i64 u) := ((unhide HB).cell (p := ⟨b1, off + s * 2, none⟩) hblt).trans (unhide HCR _ _ e0)
          have s2 : wq.cell? ⟨b1, off + s * 2 + 1, none⟩ = some (.int .i64 v) := by rw [Nat.add_assoc]; exact ((unhide HB).cell (p := ⟨b1, off + (s * 2 + 1), none⟩) hblt).trans (unhide HCR _ _ e1)
          have HR := hide R
          have q0 := (unhide HN).S 10
          have q1 := (unhide HA).S 10
          have q2 := (unhide HA).S 0
          simp only [List.getElem?_toArray, List.getElem?_cons_succ, List.getElem?_cons_zero] at q0 q1 q2
          have KA := (unhide HA).S
          have g1 : ¬ g = w1.heap.size := by omega
          have g2 : ¬ g = w.heap.size := by omega
          have g3 : ¬ g = b1 := by omega
          have g4 : g ≠ w.heap.size + 1 := by omega
          have l1 : (x : Int) < (Q : Int) := by omega
          have l2 : (d : Int) < (p : Int) := by omega
          have l3 : (s : Int) < (l.length : Int) := by omega
          have l4 : (0 : Int) ≤ (d : Int) := by omega
          have l5 : (0 : Int) ≤ (s : Int) := by omega
          have l6 : (f2 : Int) ≤ 240 := by omega
          have l7 : (f1 : Int) ≤ 1048576 := by omega
          have k1 : IntKind.i64.wrap (f2 : Int) = (f2 : Int) := wrapi _ (by omega) (by omega)
          have k2 : IntKind.i64.wrap (f1 : Int) = (f1 : Int) := wrapi _ (by omega) (by omega)
          have k3 : IntKind.i64.wrap (d : Int) = (d : Int) := wrapi _ (by omega) (by omega)
          have k4 : IntKind.i64.wrap (s : Int) = (s : Int) := wrapi _ (by omega) (by omega)
          have HA' := hide (((unhide HA).far ⟨g, d * 2, none⟩ (.int .i64 u) g2).far ⟨g, d * 2 + 1, none⟩ (.int .i64 v) g2)
          have HZ' := hide (((unhide HZ).far ⟨g, d * 2, none⟩ (.int .i64 u) g4).far ⟨g, d * 2 + 1, none⟩ (.int .i64 v) g4)
          have HN' := hide (((unhide HN).far ⟨g, d * 2, none⟩ (.int .i64 u) g1).far ⟨g, d * 2 + 1, none⟩ (.int .i64 v) g1)
          have HB' := hide (((unhide HB).setCell (p := ⟨g, d * 2, none⟩) (by show w.heap.size ≤ g; omega) (.int .i64 u)).setCell (p := ⟨g, d * 2 + 1, none⟩) (by show w.heap.size ≤ g; omega) (.int .i64 v))
          clear R hown c0 c1 e0 e1 hl1 hls hu hv hd hs hpl HA HZ HN HO HB HR1 hxr
          go_wp2_with fail
          clear KA
          go_region_held3 (fun w' => w'.cell? ⟨w1.heap.size, 10, none⟩ = some (.slice (some ⟨g, 0, none⟩) p capc) ∧ w'.cell? ⟨w.heap.size, 10, none⟩ = some (.slice (some ⟨b1, off, none⟩) l.length cap) ∧ w'.cell? ⟨w.heap.size, 0, none⟩ = some (.int .i64 (W' : Int)) ∧ w'.cell? ⟨b1, off + s * 2, none⟩ = some (.int .i64 u) ∧ w'.cell? ⟨b1, off + s * 2 + 1, none⟩ = some (.int .i64 v)) (go_keep) (fail)
          all_goals
            go_wp2_with fail
            go_roundw
            case rel => exact ⟨x + 1, by omega, by go_num, (unhide HA').drew, (unhide HZ').drew, (unhide HN').drew, (unhide HR).drew, (unhide HB').drew⟩
            case measure => simp [intOf]; omega
        · have ex : x = Q := by omega
          have PE : Hid (paste (rz l W' W2 p k) f2 (r.take x) = rz l W' W2 p (k + 1)) := by show _ = _; rw [ex, ← unhide HRL, List.take_length]; exact (unhide HRZ).symm
          rw [unhide PE] at HO
          have KA := (unhide HA).S
          clear PE HR1 HRL HRZ HPL
          go_wp2_with fail
          go_roundw
          case rel => exact ⟨k + 1, by omega, by go_num, HA, HZ, HN, HO, HB⟩
          case measure => simp [intOf]; omega
    · have EK : Hid (k = M) := by show _ = _; omega
      have hge : ¬ (k : Int) < (M : Int) := by omega
      rw [unhide EK] at HO
      clear hlt EK
      have KA := (unhide HA).S
      have KN := (unhide HN).S
      have FN := (unhide HN).F
      have zN : w1.heap.size < wr.heap.size := (unhide HN).lt
      have zr : w.heap.size ≤ wr.heap.size := by omega
      have HH : Hid (HeldZ 2 wr (w.heap.size + 2) w1.heap.size 51 (.slice (some ⟨g, 0, none⟩) p capc) p (cP (rz l W' W2 p M))) := ⟨unhide HO, fun j hj => (by obtain rfl : g = j := Option.some.inj hj; omega), by omega⟩
      have N6 := hide (((((((unhide HN).set 2 (by simp) (.int .i64 (mn i2 (W2 : Int)))).set 3 (by simp) (.int .i64 (mn i3 ((H2 : Int) - 1)))).set 7 (by simp) (.int .i64 (mn i7 (W2 : Int)))).set 8 (by simp) (.int .i64 (mn i8 ((H2 : Int) - 1)))).set 4 (by simp) (.int .i64 i4)).set 9 (by simp) (.string t))
      have Z6 := hide (((((((unhide HZ).far ⟨w1.heap.size, 2, none⟩ (.int .i64 (mn i2 (W2 : Int))) nZ).far ⟨w1.heap.size, 3, none⟩ (.int .i64 (mn i3 ((H2 : Int) - 1))) nZ).far ⟨w1.heap.size, 7, none⟩ (.int .i64 (mn i7 (W2 : Int))) nZ).far ⟨w1.heap.size, 8, none⟩ (.int .i64 (mn i8 ((H2 : Int) - 1))) nZ).far ⟨w1.heap.size, 4, none⟩ (.int .i64 i4) nZ).far ⟨w1.heap.size, 9, none⟩ (.string t) nZ)
      have B6 := hide (((((((unhide HB).setCell (p := ⟨w1.heap.size, 2, none⟩) hB4 (.int .i64 (mn i2 (W2 : Int)))).setCell (p := ⟨w1.heap.size, 3, none⟩) hB4 (.int .i64 (mn i3 ((H2 : Int) - 1)))).setCell (p := ⟨w1.heap.size, 7, none⟩) hB4 (.int .i64 (mn i7 (W2 : Int)))).setCell (p := ⟨w1.heap.size, 8, none⟩) hB4 (.int .i64 (mn i8 ((H2 : Int) - 1)))).setCell (p := ⟨w1.heap.size, 4, none⟩) hB4 (.int .i64 i4)).setCell (p := ⟨w1.heap.size, 9, none⟩) hB4 (.string t))
      have H6 := hide ((unhide HH).grown (World.grownBy.trans' (World.grownBy.trans' (World.grownBy.trans' (World.grownBy.trans' (World.grownBy.trans' (stored_grown (g := w1.heap.size) (j := 2) (u := (.int .i64 (mn i2 (W2 : Int))))) (stored_grown (g := w1.heap.size) (j := 3) (u := (.int .i64 (mn i3 ((H2 : Int) - 1)))))) (stored_grown (g := w1.heap.size) (j := 7) (u := (.int .i64 (mn i7 (W2 : Int)))))) (stored_grown (g := w1.heap.size) (j := 8) (u := (.int .i64 (mn i8 ((H2 : Int) - 1)))))) (stored_grown (g := w1.heap.size) (j := 4) (u := (.int .i64 i4)))) (stored_grown (g := w1.heap.size) (j := 9) (u := (.string t)))) (fun j hj => .inr (by simp at hj; omega)))
      go_upto_region 15 with fail
      obtain ⟨w6, ew6⟩ : ∃ w6, w6 = ((((((wr.setCell ⟨w1.heap.size, 2, none⟩ (.int .i64 (mn i2 (W2 : Int)))).setCell ⟨w1.heap.size, 3, none⟩ (.int .i64 (mn i3 ((H2 : Int) - 1)))).setCell ⟨w1.heap.size, 7, none⟩ (.int .i64 (mn i7 (W2 : Int)))).setCell ⟨w1.heap.size, 8, none⟩ (.int .i64 (mn i8 ((H2 : Int) - 1)))).setCell ⟨w1.heap.size, 4, none⟩ (.int .i64 i4)).setCell ⟨w1.heap.size, 9, none⟩ (.string t)) := ⟨_, rfl⟩
      have A6 : Hid (BF w.heap.size #[.int .i64 (W' : Int), .int .i64 (H' : Int), .int .i64 i2, .int .i64 i3, .int .i64 i4, .int .i64 i5, .int .i64 i6, .int .i64 i7, .int .i64 i8, .string t, .slice (some ⟨b1, off, none⟩) l.length cap, .slice b m.length capb] w6) := by show BF _ _ _; rw [ew6]; exact (((((((unhide HA).far ⟨w1.heap.size, 2, none⟩ (.int .i64 (mn i2 (W2 : Int))) nA).far ⟨w1.heap.size, 3, none⟩ (.int .i64 (mn i3 ((H2 : Int) - 1))) nA).far ⟨w1.heap.size, 7, none⟩ (.int .i64 (mn i7 (W2 : Int))) nA).far ⟨w1.heap.size, 8, none⟩ (.int .i64 (mn i8 ((H2 : Int) - 1))) nA).far ⟨w1.heap.size, 4, none⟩ (.int .i64 i4) nA).far ⟨w1.heap.size, 9, none⟩ (.string t) nA)
      rw [← ew6] at N6 Z6 B6 H6 ⊢
      have zw6 : wr.heap.size ≤ w6.heap.size := by rw [ew6]; simp
      clear ew6 KA KN FN HA HZ HN HO HB HH hge hMi hQi
      have KA6 := ((unhide A6).alloc (.cells #[] 9)).S
      have nw6 : ¬ w.heap.size = w6.heap.size := by omega
      have HN6 := hide ((unhide N6).alloc (.cells #[] 9))
      have HZ6 := hide ((unhide Z6).alloc (.cells #[] 9))
      have HB6 := hide ((unhide B6).alloc (Nat.le_trans zr zw6) (.cells #[] 9))
      have HH6 := hide ((unhide H6).below ((Below.refl w6.heap.size w6).alloc (Nat.le_refl _) (.cells #[] 9)) (by omega))
      have zN6 : w1.heap.size < w6.heap.size := by omega
      clear A6 N6 Z6 B6 H6
      go_wp2_with (at_builtin; refine append_strs _ rfl (.tmp 75) (.tmp 77) 23 rfl w6.heap.size 9 i0' Try.underlying23 hi hz0 hz1 hz2 (.slice (some ⟨w6.heap.size, 0, none⟩) 0 0) rfl (lit_atS _ _ _ _ rfl (Nat.le_refl _)) b capb m rfl ((unhide HS).below (unhide HB6)) (unhide HM2) (by simp) ?_; intro v8 w8 own8 hg8 hat8; obtain ⟨b8, cap8, rfl, -⟩ := ownZ_rowV own8; have N8 := BF.grown (unhide HN6) hg8 (by simp [Value.ownBlock]; omega); have Z8 := BF.grown (unhide HZ6) hg8 (by simp [Value.ownBlock]; omega); have H8 := hide ((unhide HH6).grown hg8 (fun j hj => .inr (by simp [Value.ownBlock] at hj; omega))); have B8 := hide ((unhide HB6).grown hg8 (unhide HB6).size (fun j hj => by simp [Value.ownBlock] at hj; omega)); have O8 := hide own8; have KN8 : ∀ o, w8.cell? ⟨w1.heap.size, o, none⟩ = (#[.int .i64 (W2 : Int), .int .i64 (H2 : Int), .int .i64 (mn i2 (W2 : Int)), .int .i64 (mn i3 ((H2 : Int) - 1)), .int .i64 i4, .int .i64 0, .int .i64 ((H2 : Int) - 1), .int .i64 (mn i7 (W2 : Int)), .int .i64 (mn i8 ((H2 : Int) - 1)), .string t, .slice (some ⟨g, 0, none⟩) p capc, .slice bh 0 caph] : Array Value)[o]? := N8.S; have FN8 := N8.F; have KZ8 : ∀ o, w8.cell? ⟨w.heap.size + 1, o, none⟩ = (#[.int .i64 0, .int .i64 0, .int .i64 0, .int .i64 0, .int .i64 0, .int .i64 0, .int .i64 0, .int .i64 0, .int .i64 0, .string ⟨#[]⟩, .slice none 0 0, .slice none 0 0] : Array Value)[o]? := Z8.S; have FZ8 := Z8.F; clear N8 Z8 HN6 HZ6 HB6 HH6 own8 hg8 hat8 KA6)
      refine bodyPost_ret (v := .agg #[.int .i64 (W2 : Int), .int .i64 (H2 : Int), .int .i64 (mn i2 (W2 : Int)), .int .i64 (mn i3 ((H2 : Int) - 1)), .int .i64 i4, .int .i64 0, .int .i64 ((H2 : Int) - 1), .int .i64 (mn i7 (W2 : Int)), .int .i64 (mn i8 ((H2 : Int) - 1)), .string t, .slice (some ⟨g, 0, none⟩) p capc, .slice b8 m.length cap8]) (by simp [results, Try.results15, go_sem, KZ8]) rfl ⟨_, _, rfl, ?_, ?_, ?_⟩
      · have hz2' : w.heap.size + 1 < w.heap.size + 2 := by omega
        refine Go.Joins.ownsRow_le (base := w.heap.size + 2) ?_ (by omega)
        iterate 12 refine ownsRow_setCell_below ?_ (by exact hz2') _
        exact ((unhide H8).grown stored_grown (fun j hj => .inr (by simp at hj; omega))).own
      · have hzr : w.heap.size + 1 < w6.heap.size := by omega
        refine Go.Joins.ownsRow_le (base := w6.heap.size) ?_ (by omega)
        iterate 12 refine ownsRow_setCell_below ?_ (by exact hzr) _
        exact ownsRow_setCell_below (unhide O8) (by exact zN6) _
      · iterate 12 refine Below.setCell ?_ (by exact Nat.le_succ _) _
        exact (unhide B8).setCell (by exact hB4) _
set_option maxHeartbeats 2000000 in
set_option maxRecDepth 100000 in
theorem srsz0 (W H W2 H2 p M : Nat) (i2 i3 i4 i5 i6 i7 i8 : Int) (t : ByteArray) (a : Option Addr) (cap : Nat) (l : List (Int × Int)) (b : Option Addr) (capb : Nat) (m : List ByteArray) (ht : t.size ≤ 1048576) (hl : l.length ≤ 1048576) (hm : m.length ≤ 1048576) (hz : ∀ k (h : k < m.length), m[k].size ≤ 1048576) (hcap : l.length ≤ cap) (h : okB (W : Int) (H : Int) i2 i3 i4 i5 i6 i7 i8 t.data.toList l m = true) (hW2 : 2 ≤ W2 ∧ W2 ≤ 24) (hH2 : 2 ≤ H2 ∧ H2 ≤ 10) (hp : p = W2 * H2) (hM : M = min H H2) (w : World) (hr : RowV w a (cP l)) (hs : RowV w b (cS m)) :
    Calls Try.prog 5 #[.agg #[.int .i64 (W : Int), .int .i64 (H : Int), .int .i64 i2, .int .i64 i3, .int .i64 i4, .int .i64 i5, .int .i64 i6, .int .i64 i7, .int .i64 i8, .string t, .slice a l.length cap, .slice b m.length capb], .int .i64 (W2 : Int), .int .i64 (H2 : Int)] w fun e w' => ∃ vc vh, e = .returned (.tuple #[.agg #[.int .i64 (W2 : Int), .int .i64 (H2 : Int), .int .i64 (mn i2 (W2 : Int)), .int .i64 (mn i3 ((H2 : Int) - 1)), .int .i64 i4, .int .i64 0, .int .i64 ((H2 : Int) - 1), .int .i64 (mn i7 (W2 : Int)), .int .i64 (mn i8 ((H2 : Int) - 1)), .string t, vc, vh], .int .i64 0]) ∧
      w'.ownsRow w.heap.size 51 2 vc p (cP (rz l W W2 p M)) ∧ w'.ownsRow w.heap.size 9 1 vh m.length (cS m) ∧ Below w.heap.size w w' := by
  obtain ⟨W', H', e0, e1, w1, w2, h3, h4, hlen, hcell⟩ := ok_parts h
  have e0' : W' = W := by omega
  have e1' : H' = H := by omega
  subst e0' e1'
  have HOKC : Hid (∀ w2 : World, Below w.heap.size w w2 → Calls Try.prog 13 #[.agg #[.int .i64 (W' : Int), .int .i64 (H' : Int), .int .i64 i2, .int .i64 i3, .int .i64 i4, .int .i64 i5, .int .i64 i6, .int .i64 i7, .int .i64 i8, .string t, .slice a l.length cap, .slice b m.length capb]] w2 fun e w' => e = .returned (.bool true) ∧ Below w2.heap.size w2 w') := fun w2 hb => by rw [← h]; exact sok (W' : Int) (H' : Int) i2 i3 i4 i5 i6 i7 i8 t a cap l b capb m ht hl hm hz w2 (hr.below hb) (hs.below hb)
  have hsB : sizeB (W2 : Int) (H2 : Int) = true := by unfold sizeB; simp; omega
  have HRS := hide (fun (wx : World) (hb : Below w.heap.size w wx) => sresz W' H' W2 H2 p M (min W' W2) i2 i3 i4 i5 i6 i7 i8 t a cap l b capb m hl hm hlen ⟨w1, w2⟩ ⟨h3, h4⟩ hW2 hH2 hp hM rfl wx (hr.below hb) (hs.below hb))
  have B0 := hide (((Below.refl w.heap.size w).alloc (Nat.le_refl _) (.cells #[.int .i64 (W' : Int), .int .i64 (H' : Int), .int .i64 i2, .int .i64 i3, .int .i64 i4, .int .i64 i5, .int .i64 i6, .int .i64 i7, .int .i64 i8, .string t, .slice a l.length cap, .slice b m.length capb] 29)).alloc (by simp) (.cells #[.int .i64 0, .int .i64 0, .int .i64 0, .int .i64 0, .int .i64 0, .int .i64 0, .int .i64 0, .int .i64 0, .int .i64 0, .string ⟨#[]⟩, .slice none 0 0, .slice none 0 0] 29))
  have A0 := hide ((BF.new w #[.int .i64 (W' : Int), .int .i64 (H' : Int), .int .i64 i2, .int .i64 i3, .int .i64 i4, .int .i64 i5, .int .i64 i6, .int .i64 i7, .int .i64 i8, .string t, .slice a l.length cap, .slice b m.length capb] 29).alloc (.cells #[.int .i64 0, .int .i64 0, .int .i64 0, .int .i64 0, .int .i64 0, .int .i64 0, .int .i64 0, .int .i64 0, .int .i64 0, .string ⟨#[]⟩, .slice none 0 0, .slice none 0 0] 29))
  have Z00 := BF.new (w.alloc (.cells #[.int .i64 (W' : Int), .int .i64 (H' : Int), .int .i64 i2, .int .i64 i3, .int .i64 i4, .int .i64 i5, .int .i64 i6, .int .i64 i7, .int .i64 i8, .string t, .slice a l.length cap, .slice b m.length capb] 29)) #[.int .i64 0, .int .i64 0, .int .i64 0, .int .i64 0, .int .i64 0, .int .i64 0, .int .i64 0, .int .i64 0, .int .i64 0, .string ⟨#[]⟩, .slice none 0 0, .slice none 0 0] 29
  rw [show (w.alloc (.cells #[.int .i64 (W' : Int), .int .i64 (H' : Int), .int .i64 i2, .int .i64 i3, .int .i64 i4, .int .i64 i5, .int .i64 i6, .int .i64 i7, .int .i64 i8, .string t, .slice a l.length cap, .slice b m.length capb] 29)).heap.size = w.heap.size + 1 from by simp] at Z00
  have Z0 := hide Z00
  have KA0 := (unhide A0).S
  clear h hr hs ht hm hz Z00 hlen hp hM h3 h4 hcell
  go_enter Try.func5, Try.ntmps5
  go_wp2_with (first
    | (go_at_call 13; refine (unhide HOKC _ (unhide B0)).mono ?_; rintro e w2 ⟨rfl, hb2⟩; have A2 := hide ((unhide A0).below hb2); have Z2 := hide ((unhide Z0).below hb2); have B2 := hide ((unhide B0).trans (hb2.mono (unhide B0).size)); have KA2 := (unhide A2).S; clear hb2 A0 Z0 B0 KA0)
    | (go_at_call 14; refine (ssize _ _ _).mono ?_; rintro e w3 ⟨rfl, rfl⟩; rw [hsB])
    | (go_at_call 15; refine (unhide HRS _ (unhide B2)).mono ?_; rintro e w4 ⟨vc, vh, rfl, o4, p4, hb4⟩; obtain ⟨ac, cc, rfl, -⟩ := ownZ_rowV o4; obtain ⟨ah, ch, rfl, -⟩ := ownZ_rowV p4; have zz := (unhide Z2).lt; have Z4 := hide ((unhide Z2).below hb4); have B4 := hide ((unhide B2).trans (hb4.mono (unhide B2).size)); have KZ4 := (unhide Z4).S; have FZ4 := (unhide Z4).F; have O4 := hide o4; have P4 := hide p4; clear o4 p4 hb4 KA2 A2 Z2 B2))
  refine bodyPost_ret (v := .tuple #[.agg #[.int .i64 (W2 : Int), .int .i64 (H2 : Int), .int .i64 (mn i2 (W2 : Int)), .int .i64 (mn i3 ((H2 : Int) - 1)), .int .i64 i4, .int .i64 0, .int .i64 ((H2 : Int) - 1), .int .i64 (mn i7 (W2 : Int)), .int .i64 (mn i8 ((H2 : Int) - 1)), .string t, .slice ac p cc, .slice ah m.length ch], .int .i64 0]) (by simp [results, Try.results5, go_sem, KZ4]) rfl ⟨_, _, rfl, ?_, ?_, ?_⟩
  · refine Go.Joins.ownsRow_le ?_ (Nat.le_trans (Nat.le_succ _) (Nat.le_of_lt zz))
    iterate 12 refine ownsRow_setCell_below ?_ (by exact zz) _
    exact unhide O4
  · refine Go.Joins.ownsRow_le ?_ (Nat.le_trans (Nat.le_succ _) (Nat.le_of_lt zz))
    iterate 12 refine ownsRow_setCell_below ?_ (by exact zz) _
    exact unhide P4
  · iterate 12 refine Below.setCell ?_ (by exact Nat.le_succ _) _
    exact unhide B4
end Go.Proofs.Yteeklocaaidimaa
