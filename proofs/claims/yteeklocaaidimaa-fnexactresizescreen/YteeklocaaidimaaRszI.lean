/- ResizeScreen: what the program answers at a right screen and a right size. -/
import Derived.Test.YteeklocaaidimaaRszE
import Derived.Test.YteeklocaaidimaaBf
import Derived.Test.YteeklocaaidimaaAppStr
import Derived.Test.YteeklocaaidimaaRowP
namespace Go.Proofs.Yteeklocaaidimaa
open Go.ChangeShapes Go.WideShapes Go.ChangeAt Go.RowKit
set_option linter.unusedVariables false
theorem setRow_grown {w : World} {g : Nat} {cs : Array Value} : w.grownBy (w.setRow g cs) (some g) := ⟨rfl, rfl, rfl, by simp, fun k _ hk => setRow_other w g k _ (fun e => hk (by simp [e]))⟩
theorem own_cur {w : World} {lo g n cap : Nat} {e : TypeId} {xs : List Value} (h : w.ownsRow lo e 2 (.slice (some ⟨g, 0, none⟩) n cap) n xs) : ∃ cur, w.heap[g]? = some (.cells cur e (0, 0)) ∧ n * 2 ≤ cur.size := by
  rcases h.2 with ⟨h1, _⟩ | ⟨g', cap', cur', hv, hlo, hg', hc, hm, hsz, ht⟩
  · cases h1
  · obtain ⟨rfl, rfl⟩ : g = g' ∧ cap = cap' := by injection hv with a b c; injection a with a; injection a with a1; exact ⟨a1, c⟩
    exact ⟨cur', hg', by rw [hsz]; exact Nat.mul_le_mul_right 2 hc⟩
theorem src_row {l : List (Int × Int)} {f n j : Nat} {v : Value} (h : (cP ((l.drop f).take n))[j]? = some v) : (cP l)[f * 2 + j]? = some v := by
  rw [← cP_take, ← cP_drop, List.getElem?_take] at h
  split at h
  · rwa [List.getElem?_drop] at h
  · cases h
attribute [local go_sem ↓] run_mn
theorem Try.infR9 : (Try.prog.info? 9).map (fun i => (i.zero, i.size, i.bytes)) = some (some (.string ⟨#[]⟩), 1, 16) := by kernel_rfl
theorem Try.sizR51 : (Try.prog.info? 51).map (·.size) = some 2 := by kernel_rfl
set_option maxHeartbeats 2000000 in
set_option maxRecDepth 100000 in
theorem irsz0 (W H W2 H2 p M : Nat) (i2 i3 i4 i5 i6 i7 i8 : Int) (t : ByteArray) (a : Option Addr) (cap : Nat) (l : List (Int × Int)) (b : Option Addr) (capb : Nat) (m : List ByteArray) (ht : t.size ≤ 1048576) (hl : l.length ≤ 1048576) (hm : m.length ≤ 1048576) (hz : ∀ k (h : k < m.length), m[k].size ≤ 1048576) (hcap : l.length ≤ cap) (h : okB (W : Int) (H : Int) i2 i3 i4 i5 i6 i7 i8 t.data.toList l m = true) (hW2 : 2 ≤ W2 ∧ W2 ≤ 24) (hH2 : 2 ≤ H2 ∧ H2 ≤ 10) (hp : p = W2 * H2) (hM : M = min H H2) (w : World) (hr : RowV w a (cP l)) (hs : RowV w b (cS m)) :
    Calls Try.prog 7 #[.agg #[.int .i64 (W : Int), .int .i64 (H : Int), .int .i64 i2, .int .i64 i3, .int .i64 i4, .int .i64 i5, .int .i64 i6, .int .i64 i7, .int .i64 i8, .string t, .slice a l.length cap, .slice b m.length capb], .int .i64 (W2 : Int), .int .i64 (H2 : Int)] w fun e w' => ∃ g vh, e = .returned (.tuple #[.agg #[.int .i64 (W2 : Int), .int .i64 (H2 : Int), .int .i64 (mn i2 (W2 : Int)), .int .i64 (mn i3 ((H2 : Int) - 1)), .int .i64 i4, .int .i64 0, .int .i64 ((H2 : Int) - 1), .int .i64 (mn i7 (W2 : Int)), .int .i64 (mn i8 ((H2 : Int) - 1)), .string t, .slice (some ⟨g, 0, none⟩) p p, vh], .int .i64 0]) ∧
      w'.ownsRow w.heap.size 51 2 (.slice (some ⟨g, 0, none⟩) p p) p (cP (rz l W W2 p M)) ∧ w'.ownsRow w.heap.size 9 1 vh m.length (cS m) ∧ Below w.heap.size w w' := by
  obtain ⟨W', H', e0, e1, w1, w2, h3, h4, hlen, hcell⟩ := ok_parts h
  have e0' : W' = W := by omega
  have e1' : H' = H := by omega
  subst e0' e1'
  obtain ⟨i0', hi, hz0, hz1, hz2⟩ := info_parts Try.infR9
  have HOKC : Hid (∀ w2 : World, Below w.heap.size w w2 → Calls Try.prog 18 #[.agg #[.int .i64 (W' : Int), .int .i64 (H' : Int), .int .i64 i2, .int .i64 i3, .int .i64 i4, .int .i64 i5, .int .i64 i6, .int .i64 i7, .int .i64 i8, .string t, .slice a l.length cap, .slice b m.length capb]] w2 fun e w' => e = .returned (.bool true) ∧ Below w2.heap.size w2 w') := fun w2 hb => by rw [← h]; exact iok (W' : Int) (H' : Int) i2 i3 i4 i5 i6 i7 i8 t a cap l b capb m ht hl hm hz w2 (hr.below hb) (hs.below hb)
  have hsB : sizeB (W2 : Int) (H2 : Int) = true := by unfold sizeB; simp; omega
  have p2 : p ≤ 240 := by rw [hp]; exact Nat.mul_le_mul hW2.2 hH2.2
  have hpos : 0 < (cP l).length := by rw [cP_len, hlen]; have : 0 < W' * H' := Nat.mul_pos (by omega) (by omega); omega
  obtain ⟨b1, off, ha, hblt, hcr⟩ := hr.at hpos
  subst ha
  have HCR := hide hcr
  have HS := hide hs
  have HM2 := hide hm
  have HLEN := hide hlen
  have HPP := hide hp
  have hMi : mn (H' : Int) (H2 : Int) = (M : Int) := by unfold mn; rw [hM]; split <;> omega
  have hM1 : M ≤ H' := by omega
  have hM2 : M ≤ H2 := by omega
  have B0 := hide (((Below.refl w.heap.size w).alloc (Nat.le_refl _) (.cells #[.int .i64 (W' : Int), .int .i64 (H' : Int), .int .i64 i2, .int .i64 i3, .int .i64 i4, .int .i64 i5, .int .i64 i6, .int .i64 i7, .int .i64 i8, .string t, .slice (some ⟨b1, off, none⟩) l.length cap, .slice b m.length capb] 29)).alloc (by simp) (.cells #[.int .i64 0, .int .i64 0, .int .i64 0, .int .i64 0, .int .i64 0, .int .i64 0, .int .i64 0, .int .i64 0, .int .i64 0, .string ⟨#[]⟩, .slice none 0 0, .slice none 0 0] 29))
  have A0 := hide ((BF.new w #[.int .i64 (W' : Int), .int .i64 (H' : Int), .int .i64 i2, .int .i64 i3, .int .i64 i4, .int .i64 i5, .int .i64 i6, .int .i64 i7, .int .i64 i8, .string t, .slice (some ⟨b1, off, none⟩) l.length cap, .slice b m.length capb] 29).alloc (.cells #[.int .i64 0, .int .i64 0, .int .i64 0, .int .i64 0, .int .i64 0, .int .i64 0, .int .i64 0, .int .i64 0, .int .i64 0, .string ⟨#[]⟩, .slice none 0 0, .slice none 0 0] 29))
  have Z00 := BF.new (w.alloc (.cells #[.int .i64 (W' : Int), .int .i64 (H' : Int), .int .i64 i2, .int .i64 i3, .int .i64 i4, .int .i64 i5, .int .i64 i6, .int .i64 i7, .int .i64 i8, .string t, .slice (some ⟨b1, off, none⟩) l.length cap, .slice b m.length capb] 29)) #[.int .i64 0, .int .i64 0, .int .i64 0, .int .i64 0, .int .i64 0, .int .i64 0, .int .i64 0, .int .i64 0, .int .i64 0, .string ⟨#[]⟩, .slice none 0 0, .slice none 0 0] 29
  rw [show (w.alloc (.cells #[.int .i64 (W' : Int), .int .i64 (H' : Int), .int .i64 i2, .int .i64 i3, .int .i64 i4, .int .i64 i5, .int .i64 i6, .int .i64 i7, .int .i64 i8, .string t, .slice (some ⟨b1, off, none⟩) l.length cap, .slice b m.length capb] 29)).heap.size = w.heap.size + 1 from by simp] at Z00
  have Z0 := hide Z00
  have KA0 := (unhide A0).S
  clear h hr hs ht hm hz Z00 hcr hpos hlen hp hM h3 h4
  go_enter Try.func7, Try.ntmps7
  go_wp2_with (first
    | (go_at_call 18; refine (unhide HOKC _ (unhide B0)).mono ?_; rintro e w2 ⟨rfl, hb2⟩; have A2 := hide ((unhide A0).below hb2); have Z2 := hide ((unhide Z0).below hb2); have B2 := hide ((unhide B0).trans (hb2.mono (unhide B0).size)); have KA2 := (unhide A2).S; clear hb2 A0 Z0 B0 KA0)
    | (go_at_call 19; refine (isize _ _ _).mono ?_; rintro e w3 ⟨rfl, rfl⟩; rw [hsB]))
  refine (iblankscr W2 H2 p hW2 hH2 (unhide HPP) _).mono ?_
  rintro e w4 ⟨g, rfl, own4, hb4⟩
  have hlt4 := own4.lt g rfl
  have A4 := hide (((unhide A2).below hb4).alloc (.cells #[.int .i64 (W2 : Int), .int .i64 (H2 : Int), .int .i64 0, .int .i64 0, .int .i64 0, .int .i64 0, .int .i64 ((H2 : Int) - 1), .int .i64 0, .int .i64 0, .string ⟨#[]⟩, .slice (some ⟨g, 0, none⟩) p p, .slice none 0 0] 29))
  have Z4 := hide (((unhide Z2).below hb4).alloc (.cells #[.int .i64 (W2 : Int), .int .i64 (H2 : Int), .int .i64 0, .int .i64 0, .int .i64 0, .int .i64 0, .int .i64 ((H2 : Int) - 1), .int .i64 0, .int .i64 0, .string ⟨#[]⟩, .slice (some ⟨g, 0, none⟩) p p, .slice none 0 0] 29))
  have N4 := hide (BF.new w4 #[.int .i64 (W2 : Int), .int .i64 (H2 : Int), .int .i64 0, .int .i64 0, .int .i64 0, .int .i64 0, .int .i64 ((H2 : Int) - 1), .int .i64 0, .int .i64 0, .string ⟨#[]⟩, .slice (some ⟨g, 0, none⟩) p p, .slice none 0 0] 29)
  have B4 := hide (((unhide B2).trans (hb4.mono (unhide B2).size)).alloc (Nat.le_trans (unhide B2).size hb4.size) (.cells #[.int .i64 (W2 : Int), .int .i64 (H2 : Int), .int .i64 0, .int .i64 0, .int .i64 0, .int .i64 0, .int .i64 ((H2 : Int) - 1), .int .i64 0, .int .i64 0, .string ⟨#[]⟩, .slice (some ⟨g, 0, none⟩) p p, .slice none 0 0] 29))
  have HO4 := hide (own4.alloc (.cells #[.int .i64 (W2 : Int), .int .i64 (H2 : Int), .int .i64 0, .int .i64 0, .int .i64 0, .int .i64 0, .int .i64 ((H2 : Int) - 1), .int .i64 0, .int .i64 0, .string ⟨#[]⟩, .slice (some ⟨g, 0, none⟩) p p, .slice none 0 0] 29))
  have z3 : w.heap.size + 1 < w3.heap.size := (unhide Z2).lt
  have KA4 := (unhide A4).S
  clear own4 hb4 A2 Z2 B2 KA2
  go_wp2_with fail
  clear KA4
  go_loopw [26] (fun i wr => ∃ k : Nat, k ≤ M ∧ i = .int .i64 k ∧ Hid (BF w.heap.size #[.int .i64 (W' : Int), .int .i64 (H' : Int), .int .i64 i2, .int .i64 i3, .int .i64 i4, .int .i64 i5, .int .i64 i6, .int .i64 i7, .int .i64 i8, .string t, .slice (some ⟨b1, off, none⟩) l.length cap, .slice b m.length capb] wr) ∧ Hid (BF (w.heap.size + 1) #[.int .i64 0, .int .i64 0, .int .i64 0, .int .i64 0, .int .i64 0, .int .i64 0, .int .i64 0, .int .i64 0, .int .i64 0, .string ⟨#[]⟩, .slice none 0 0, .slice none 0 0] wr) ∧ Hid (BF w4.heap.size #[.int .i64 (W2 : Int), .int .i64 (H2 : Int), .int .i64 0, .int .i64 0, .int .i64 0, .int .i64 0, .int .i64 ((H2 : Int) - 1), .int .i64 0, .int .i64 0, .string ⟨#[]⟩, .slice (some ⟨g, 0, none⟩) p p, .slice none 0 0] wr) ∧ Hid (wr.ownsRow w3.heap.size 51 2 (.slice (some ⟨g, 0, none⟩) p p) p (cP (rz l W' W2 p k))) ∧ Hid (Below w.heap.size w wr)) (fun i _ => M - (intOf i).toNat)
  case atStart => exact ⟨0, by omega, rfl, A4, Z4, N4, HO4, B4⟩
  case round =>
    clear A4 Z4 N4 HO4 B4
    obtain ⟨k, hk, rfl, HA, HZ, HN, HO, HB⟩ := hrel
    by_cases hlt : k < M
    · have hf1 := row_fits k W2 H2 (by omega)
      have hf2 := row_fits k W' H' (by omega)
      rw [← unhide HPP] at hf1
      rw [← unhide HLEN] at hf2
      have hrlen : ((l.drop (k * W')).take (min W' W2)).length = min W' W2 := by rw [List.length_take, List.length_drop]; omega
      have HRL := hide hrlen
      have TOK : True := trivial
      have hlt' : (k : Int) < (M : Int) := by omega
      clear hrlen
      go_wp2_with (first
        | (clear TOK; go_at_call 21; refine (irow w4.heap.size W2 k (k * W2) (k * W2 + W2) g 0 p p rfl rfl ⟨by omega, by omega⟩ (by omega) (Nat.le_refl _) (by omega) _ ((unhide HN).S 0) ((unhide HN).S 10)).mono ?_; rintro e w5 ⟨rfl, hb5⟩; have HA5 := hide ((unhide HA).below hb5); have HZ5 := hide ((unhide HZ).below hb5); have HN5 := hide ((unhide HN).below hb5); have HO5 := hide ((heldZ_of (unhide HO)).below hb5 (Nat.le_refl _)).own; have HB5 := hide ((unhide HB).trans (hb5.mono (unhide HB).size)); clear hb5)
        | (go_at_call 21; refine (irow w.heap.size W' k (k * W') (k * W' + W') b1 off l.length cap rfl rfl ⟨by omega, by omega⟩ (by omega) hcap hl _ ((unhide HA5).S 0) ((unhide HA5).S 10)).mono ?_; rintro e w6 ⟨rfl, hb6⟩; have HA6 := hide ((unhide HA5).below hb6); have HZ6 := hide ((unhide HZ5).below hb6); have HN6 := hide ((unhide HN5).below hb6); have HO6 := hide ((heldZ_of (unhide HO5)).below hb6 (Nat.le_refl _)).own; have HB6 := hide ((unhide HB5).trans (hb6.mono (unhide HB5).size)); clear hb6; obtain ⟨cur, hcur, hcs⟩ := own_cur (unhide HO6); have HSRC : Hid (∀ j v, (cP ((l.drop (k * W')).take (min W' W2)))[j]? = some v → w6.cell? ((⟨b1, off + k * W' * 2, none⟩ : Addr).add j) = some v) := (fun j v hv => by rw [show (⟨b1, off + k * W' * 2, none⟩ : Addr).add j = ⟨b1, off + (k * W' * 2 + j), none⟩ from by unfold Addr.add; split <;> simp_all [Nat.add_assoc]]; exact ((unhide HB6).cell (p := ⟨b1, off + (k * W' * 2 + j), none⟩) hblt).trans (unhide HCR _ _ (src_row hv))); have hrun := run_copy2 (P := Try.prog) (w := w6) 27 27 3 51 Try.underlying27 Try.sizR51 g (k * W2 * 2) W2 W2 ⟨b1, off + k * W' * 2, none⟩ W' W' cur 51 hcur (min W' W2) rfl (cP ((l.drop (k * W')).take (min W' W2))) (by rw [cP_len, unhide HRL]) (unhide HSRC) (by rw [cP_len, unhide HRL]; omega) (cP_one _); have HO7 := hide (own_paste (s := k * W2) (r := ((l.drop (k * W')).take (min W' W2))) (unhide HO6) hcur (by rw [unhide HRL]; omega)); have hg7 := setRow_grown (w := w6) (g := g) (cs := (cur.toList.take (k * W2 * 2) ++ cP ((l.drop (k * W')).take (min W' W2)) ++ cur.toList.drop (k * W2 * 2 + (cP ((l.drop (k * W')).take (min W' W2))).length)).toArray); have HB7 := hide (below_setRow (unhide HB6) (by omega : w.heap.size ≤ g) (cur.toList.take (k * W2 * 2) ++ cP ((l.drop (k * W')).take (min W' W2)) ++ cur.toList.drop (k * W2 * 2 + (cP ((l.drop (k * W')).take (min W' W2))).length)).toArray); have HA7 := hide ((unhide HA6).grown hg7 (by simp; omega)); have HZ7 := hide ((unhide HZ6).grown hg7 (by simp; omega)); have HN7 := hide ((unhide HN6).grown hg7 (by simp; omega)); clear hg7; generalize w6.setRow g (cur.toList.take (k * W2 * 2) ++ cP ((l.drop (k * W')).take (min W' W2)) ++ cur.toList.drop (k * W2 * 2 + (cP ((l.drop (k * W')).take (min W' W2))).length)).toArray = w7 at *; clear hcur hcs))
      go_roundw
      case rel => exact ⟨k + 1, by omega, by go_num, HA7, HZ7, HN7, HO7, HB7⟩
      case measure => simp [intOf]; omega
    · have ek : k = M := by omega
      subst ek
      have KA := (unhide HA).S
      have KN := (unhide HN).S
      have FN := (unhide HN).F
      have zN : w4.heap.size < wr.heap.size := (unhide HN).lt
      have z4 : w.heap.size + 1 < w4.heap.size := by omega
      have hB4 : w.heap.size ≤ w4.heap.size := by omega
      have n1 : ¬ w4.heap.size = w.heap.size := by omega
      have n2 : ¬ w.heap.size = w4.heap.size := by omega
      have nZ : w4.heap.size ≠ w.heap.size + 1 := by omega
      have HH : Hid (HeldZ 2 wr w3.heap.size w4.heap.size 51 (.slice (some ⟨g, 0, none⟩) p p) p (cP (rz l W' W2 p k))) := ⟨unhide HO, fun j hj => (by obtain rfl : g = j := Option.some.inj hj; omega), by omega⟩
      have N6 := hide (((((((unhide HN).set 2 (by simp) (.int .i64 (mn i2 (W2 : Int)))).set 3 (by simp) (.int .i64 (mn i3 ((H2 : Int) - 1)))).set 7 (by simp) (.int .i64 (mn i7 (W2 : Int)))).set 8 (by simp) (.int .i64 (mn i8 ((H2 : Int) - 1)))).set 4 (by simp) (.int .i64 i4)).set 9 (by simp) (.string t))
      have Z6 := hide (((((((unhide HZ).far ⟨w4.heap.size, 2, none⟩ (.int .i64 (mn i2 (W2 : Int))) nZ).far ⟨w4.heap.size, 3, none⟩ (.int .i64 (mn i3 ((H2 : Int) - 1))) nZ).far ⟨w4.heap.size, 7, none⟩ (.int .i64 (mn i7 (W2 : Int))) nZ).far ⟨w4.heap.size, 8, none⟩ (.int .i64 (mn i8 ((H2 : Int) - 1))) nZ).far ⟨w4.heap.size, 4, none⟩ (.int .i64 i4) nZ).far ⟨w4.heap.size, 9, none⟩ (.string t) nZ)
      have B6 := hide (((((((unhide HB).setCell (p := ⟨w4.heap.size, 2, none⟩) hB4 (.int .i64 (mn i2 (W2 : Int)))).setCell (p := ⟨w4.heap.size, 3, none⟩) hB4 (.int .i64 (mn i3 ((H2 : Int) - 1)))).setCell (p := ⟨w4.heap.size, 7, none⟩) hB4 (.int .i64 (mn i7 (W2 : Int)))).setCell (p := ⟨w4.heap.size, 8, none⟩) hB4 (.int .i64 (mn i8 ((H2 : Int) - 1)))).setCell (p := ⟨w4.heap.size, 4, none⟩) hB4 (.int .i64 i4)).setCell (p := ⟨w4.heap.size, 9, none⟩) hB4 (.string t))
      go_wp2_with (at_builtin; refine append_strs _ rfl (.const (.slice none 0 0)) (.tmp 64) 23 rfl wr.heap.size 9 i0' Try.underlying23 hi hz0 hz1 hz2 (.slice none 0 0) rfl (World.ownsRow_nil _ _ _ _) b capb m rfl ((unhide HS).below (unhide B6)) (unhide HM2) (by simp) ?_; intro v8 w8 own8 hg8 hat8; obtain ⟨b8, cap8, rfl, -⟩ := ownZ_rowV own8; have N8 := BF.grown (unhide N6) hg8 (by simp [Value.ownBlock]); have Z8 := BF.grown (unhide Z6) hg8 (by simp [Value.ownBlock]); have H8 := hide (((unhide HH).grown (World.grownBy.trans' (World.grownBy.trans' (World.grownBy.trans' (World.grownBy.trans' (World.grownBy.trans' stored_grown stored_grown) stored_grown) stored_grown) stored_grown) stored_grown) (fun j hj => .inr (by simp at hj; omega))).grown hg8 (fun j hj => by simp [Value.ownBlock] at hj)); have B8 := hide ((unhide B6).grown hg8 (unhide B6).size (fun j hj => by simp [Value.ownBlock] at hj)); have O8 := hide own8; have KN8 : ∀ o, w8.cell? ⟨w4.heap.size, o, none⟩ = (#[.int .i64 (W2 : Int), .int .i64 (H2 : Int), .int .i64 (mn i2 (W2 : Int)), .int .i64 (mn i3 ((H2 : Int) - 1)), .int .i64 i4, .int .i64 0, .int .i64 ((H2 : Int) - 1), .int .i64 (mn i7 (W2 : Int)), .int .i64 (mn i8 ((H2 : Int) - 1)), .string t, .slice (some ⟨g, 0, none⟩) p p, .slice none 0 0] : Array Value)[o]? := N8.S; have FN8 := N8.F; have KZ8 : ∀ o, w8.cell? ⟨w.heap.size + 1, o, none⟩ = (#[.int .i64 0, .int .i64 0, .int .i64 0, .int .i64 0, .int .i64 0, .int .i64 0, .int .i64 0, .int .i64 0, .int .i64 0, .string ⟨#[]⟩, .slice none 0 0, .slice none 0 0] : Array Value)[o]? := Z8.S; have FZ8 := Z8.F; clear N8 Z8 N6 Z6 B6 own8 hg8 hat8 KA KN FN HA HZ HN HO HB HH)
      refine bodyPost_ret (v := .tuple #[.agg #[.int .i64 (W2 : Int), .int .i64 (H2 : Int), .int .i64 (mn i2 (W2 : Int)), .int .i64 (mn i3 ((H2 : Int) - 1)), .int .i64 i4, .int .i64 0, .int .i64 ((H2 : Int) - 1), .int .i64 (mn i7 (W2 : Int)), .int .i64 (mn i8 ((H2 : Int) - 1)), .string t, .slice (some ⟨g, 0, none⟩) p p, .slice b8 m.length cap8], .int .i64 0]) (by simp [results, Try.results7, go_sem, KZ8]) rfl ⟨g, _, rfl, ?_, ?_, ?_⟩
      · refine Go.Joins.ownsRow_le (base := w3.heap.size) ?_ (by omega)
        iterate 12 refine ownsRow_setCell_below ?_ (by exact z3) _
        exact ((unhide H8).grown stored_grown (fun j hj => .inr (by simp at hj; omega))).own
      · have hzr : w.heap.size + 1 < wr.heap.size := by omega
        refine Go.Joins.ownsRow_le (base := wr.heap.size) ?_ (by omega)
        iterate 12 refine ownsRow_setCell_below ?_ (by exact hzr) _
        exact ownsRow_setCell_below (unhide O8) (by exact zN) _
      · iterate 12 refine Below.setCell ?_ (by exact Nat.le_succ _) _
        exact (unhide B8).setCell (by exact hB4) _
end Go.Proofs.Yteeklocaaidimaa
