/- Texts put together: MsE SizeS MrL MarkS LstN. -/
import Derived.Test.YtfogppnijdjakaaGreatDoorZG1
import Derived.Test.YtfogppnijdjakaaGreatDoorZG5
import Derived.Deep.Cut
import Derived.Test.YtfogppnijdjakaaGreatDoorZG2
import Derived.Lib.SmallJoins
/- Rows of messages in the law's own words: two that are alike. -/
namespace Go.Proofs.YtfogppnijdjakaaGreatDoor
open Go.ChangeShapes Go.WideShapes Go.ChangeAt Go.RowKit
set_option linter.unusedVariables false
set_option maxHeartbeats 4000000 in
set_option maxRecDepth 100000 in
theorem eqMsgs (v1 v2 : Value) (n : Nat) (hn : n ≤ 1048576) (L1 L2 : List MgA) (HN1 : Hid (L1.length = n)) (HN2 : Hid (L2.length = n)) (HE : Hid (L1.map (·.1) = L2.map (·.1))) (HLE : Hid (∀ p ∈ L1, p.1.es.length ≤ 1048576)) (w : World) (h1 : MRow w v1 L1) (h2 : MRow w v2 L2) :
  Calls Tryz.prog 27 #[v1, v2] w fun e w' => e = .returned (.bool true) ∧ Below w.heap.size w w' := by
 obtain ⟨⟨a, cap, rfl, hr1⟩, he1⟩ := h1
 obtain ⟨⟨c, cap2, rfl, hr2⟩, he2⟩ := h2
 have HR1 := hide hr1
 have HR2 := hide hr2
 have HE1 := hide he1
 have HE2 := hide he2
 rw [unhide HN1, unhide HN2]
 have nn : ((n : Int) != (n : Int)) = false := by simp
 clear hr1 hr2 he1 he2
 go_enter Tryz.func27, Tryz.ntmps27
 go_wp2_with fail
 go_loopw [5] (fun i wr => ∃ k : Nat, k ≤ n ∧ i = .int .i64 k ∧ Hid (Below w.heap.size w wr)) (fun i _ => n - (intOf i).toNat)
 case atStart => exact ⟨0, by omega, rfl, Below.refl _ _⟩
 case round =>
  obtain ⟨k, hk, rfl, HB⟩ := hrel
  by_cases hlt : k < n
  ·have hk1 : k < L1.length := by rw [unhide HN1]; exact hlt
   have hk2 : k < L2.length := by rw [unhide HN2]; exact hlt
   have he : L1[k].1 = L2[k].1 := by
    have e := congrArg (fun l => l[k]?) (unhide HE)
    simp only [List.getElem?_map, List.getElem?_eq_getElem hk1, List.getElem?_eq_getElem hk2] at e
    exact Option.some.inj e
   obtain ⟨b, off, rfl, hblt, hc1⟩ := (unhide HR1).at (by rw [cMs_len]; omega)
   obtain ⟨d, og, rfl, hdlt, hc2⟩ := (unhide HR2).at (by rw [cMs_len]; omega)
   have m1 := (row_msg hc1 k hk1).below (unhide HB) hblt
   have m2 := (row_msg hc2 k hk2).below (unhide HB) hdlt
   have r1 := (unhide HE1 _ (List.getElem_mem hk1)).below (unhide HB)
   have r2 := (unhide HE2 _ (List.getElem_mem hk2)).below (unhide HB)
   have hne := unhide HLE _ (List.getElem_mem hk1)
   generalize L1[k] = p1 at he m1 r1 hne
   generalize L2[k] = p2 at he m2 r2
   obtain ⟨⟨kd, fr, dst, tm, ix, lt, cm, ok, es⟩, a1, c1⟩ := p1
   obtain ⟨g2, a2, c2⟩ := p2
   simp only at he
   subst he
   obtain ⟨ne, hnn⟩ : ∃ ne, es.length = ne := ⟨_, rfl⟩
   unfold M9 at m1 m2
   simp only [hnn] at m1 m2 hne
   have HNE := hide hnn
   have E1 := hide r1
   have E2 := hide r2
   have hblt := Nat.lt_of_lt_of_le hblt (unhide HB).size
   have hdlt := Nat.lt_of_lt_of_le hdlt (unhide HB).size
   have i1 : (k : Int) < (n : Int) := by omega
   have i0 : (0 : Int) ≤ (k : Int) := by omega
   have K0 := And.intro m1 m2
   have TD : Hid (Below wr.heap.size wr wr.drew) := (Below.refl _ _).drew
   have KD : Hid (M9 wr b (off + k * 9) (⟨kd, fr, dst, tm, ix, lt, cm, ok, es⟩, a1, c1) ∧ M9 wr d (og + k * 9) (⟨kd, fr, dst, tm, ix, lt, cm, ok, es⟩, a2, c2)) := by
    show _ ∧ _; unfold M9; simp only [hnn]; exact ⟨m1, m2⟩
   clear hc1 hc2 hk1 hk2 hnn r1 r2 m1 m2
   go_wp2_with fail
   refine wp_region_held_drew (S := fun w' => (w'.cell? ⟨b, off + k * 9, none⟩ = some (.int .i64 kd) ∧ w'.cell? ⟨b, off + k * 9 + 1, none⟩ = some (.int .i64 fr) ∧ w'.cell? ⟨b, off + k * 9 + 2, none⟩ = some (.int .i64 dst) ∧ w'.cell? ⟨b, off + k * 9 + 3, none⟩ = some (.int .i64 tm) ∧ w'.cell? ⟨b, off + k * 9 + 4, none⟩ = some (.int .i64 ix) ∧ w'.cell? ⟨b, off + k * 9 + 5, none⟩ = some (.int .i64 lt) ∧ w'.cell? ⟨b, off + k * 9 + 6, none⟩ = some (.int .i64 cm) ∧ w'.cell? ⟨b, off + k * 9 + 7, none⟩ = some (.bool ok) ∧ w'.cell? ⟨b, off + k * 9 + 8, none⟩ = some (.slice a1 ne c1)) ∧ (w'.cell? ⟨d, og + k * 9, none⟩ = some (.int .i64 kd) ∧ w'.cell? ⟨d, og + k * 9 + 1, none⟩ = some (.int .i64 fr) ∧ w'.cell? ⟨d, og + k * 9 + 2, none⟩ = some (.int .i64 dst) ∧ w'.cell? ⟨d, og + k * 9 + 3, none⟩ = some (.int .i64 tm) ∧ w'.cell? ⟨d, og + k * 9 + 4, none⟩ = some (.int .i64 ix) ∧ w'.cell? ⟨d, og + k * 9 + 5, none⟩ = some (.int .i64 lt) ∧ w'.cell? ⟨d, og + k * 9 + 6, none⟩ = some (.int .i64 cm) ∧ w'.cell? ⟨d, og + k * 9 + 7, none⟩ = some (.bool ok) ∧ w'.cell? ⟨d, og + k * 9 + 8, none⟩ = some (.slice a2 ne c2))) (by kernel_rfl) K0 (fun hHeld => ?_)
   generalize wr.drew = wd at TD KD hHeld ⊢
   refine wtv 0 (oi := { dst := some 17, op := .move (.tmp 0), type := 33, pos := "exact.go:1902", after := #[], guard := none }) ?_
   refine wtv 1 (oi := { dst := some 18, op := .move (.tmp 5), type := 3, pos := "exact.go:1902", after := #[], guard := none }) ?_
   refine wtv 2 (oi := { dst := some 19, op := .indexAddr 33 (.tmp 17) (.tmp 18), type := 0, pos := "exact.go:1902", after := #[{ on := 0, ground := .data }, { on := 1, ground := .data }], guard := none }) ?_
   refine wtv 3 (oi := { dst := some 20, op := .load 82 (.tmp 19), type := 82, pos := "exact.go:1902", after := #[{ on := 2, ground := .data }], guard := none }) ?_
   refine wtv 4 (oi := { dst := some 21, op := .move (.tmp 1), type := 33, pos := "exact.go:1902", after := #[], guard := none }) ?_
   refine wtv 5 (oi := { dst := some 22, op := .move (.tmp 5), type := 3, pos := "exact.go:1902", after := #[], guard := none }) ?_
   refine wtv 6 (oi := { dst := some 23, op := .indexAddr 33 (.tmp 21) (.tmp 22), type := 0, pos := "exact.go:1902", after := #[{ on := 4, ground := .data }, { on := 5, ground := .data }], guard := none }) ?_
   refine wtv 7 (oi := { dst := some 24, op := .load 82 (.tmp 23), type := 82, pos := "exact.go:1902", after := #[{ on := 6, ground := .data }], guard := none }) ?_
   refine wpAnyH_ready (rs := [8]) (by kernel_rfl) (by simp) ?_
   refine AllReadyH.cons (o := { dst := some 25, op := .call { callee := .value (.func 51), args := #[.tmp 20, .tmp 24], argTypes := #[82, 82] }, type := 4, pos := "exact.go:1902", after := #[{ on := 3, ground := .data }, { on := 7, ground := .data }], guard := none }) rfl (fun K hK => ?_) AllReadyH.nil
   go_simp
   refine (eqMsg kd fr dst tm ix lt cm ok a1 a2 c1 c2 ne es HNE hne _ ((unhide E1).below (unhide TD)) ((unhide E2).below (unhide TD))).mono ?_
   rintro e w2 ⟨rfl, hb2⟩
   have T2 := hide ((unhide TD).trans (hb2.mono (unhide TD).size))
   have K2q := And.intro ((unhide KD).1.below (unhide T2) hblt) ((unhide KD).2.below (unhide T2) hdlt)
   unfold M9 at K2q
   simp only [show es.length = ne from unhide HNE] at K2q
   have K2 := hide K2q
   clear K2q
   clear hb2
   go_wp2_with fail
   refine hK.out _ _ ?_ (fun hHeld8 => ?_)
   ·exact unhide K2
   clear hK K
   try simp only [Act.put, qqA, qqB, qqC]
   refine wtv 9 (oi := { dst := some 26, op := .unOp .not 4 (.tmp 25), type := 4, pos := "exact.go:1902", after := #[{ on := 8, ground := .data }], guard := none }) ?_
   refine wpAnyH_done (by kernel_rfl) ?_ _
   have B2 := hide ((unhide HB).trans ((unhide T2).mono (unhide HB).size))
   clear K0 TD KD K2 T2 HB hHeld hHeld8
   go_wp2_with fail
   go_roundw
   case rel => exact ⟨k + 1, by omega, by go_num, B2⟩
   case measure => simp [intOf]; omega
  ·obtain rfl : k = n := by omega
   go_wp2_with fail
   go_ret
   exact ⟨rfl, unhide HB⟩
end Go.Proofs.YtfogppnijdjakaaGreatDoor

/- The size of a list of texts, as the laws reckon it. -/
namespace Go.Proofs.YtfogppnijdjakaaGreatDoor
open Go.ChangeShapes Go.WideShapes Go.ChangeAt Go.RowKit
end Go.Proofs.YtfogppnijdjakaaGreatDoor

/- Mirrors in the law's own words: their size, their copies, two that are alike. -/
namespace Go.Proofs.YtfogppnijdjakaaGreatDoor
open Go.ChangeShapes Go.WideShapes Go.ChangeAt Go.RowKit
set_option linter.unusedVariables false
set_option maxHeartbeats 400000 in
set_option maxRecDepth 100000 in
theorem sizeStr2 (a : Option Addr) (cap : Nat) (l : List ByteArray) (Y : Nat) (hY : Y ≤ 1048576) (hl : l.length ≤ maxLen) (hsz : ∀ k (h : k < l.length), l[k].size ≤ maxLen) (w : World) (hr : RowV w a (cS l)) :
  Calls Tryz.prog 16 #[.slice a l.length cap, .int .i64 (Y : Int)] w fun e w' => ∃ x : Int, e = .returned (.int .i64 x) ∧ w' = w ∧ (x = -1 ∨ (∃ z : Nat, x = (z : Int) ∧ z + l.length ≤ Y ∧ l.length ≤ 1048576 ∧ ∀ k (h : k < l.length), l[k].size ≤ 1048576)) := by
 have HR := hide hr
 have HZ := hide hsz
 have HCL := hide (cS_len l)
 have hl2 : (l.length : Int) ≤ 9223372036854775807 := by unfold maxLen at hl; omega
 clear hr hsz hl
 by_cases big : Y < l.length
 ·have b1 : (Y : Int) - (l.length : Int) < 0 := by omega
  go_enter Tryz.func16, Tryz.ntmps16
  go_wp2_with fail
  go_ret
  exact ⟨_, rfl, rfl, .inl rfl⟩
 ·have hb : l.length ≤ Y := by omega
  go_enter Tryz.func16, Tryz.ntmps16
  go_wp2_with fail
  go_loop [1, 5] (fun s i => ∃ (k y : Nat), k ≤ l.length ∧ i = .int .i64 k ∧ s = .int .i64 (y : Int) ∧ y + l.length ≤ Y ∧ Hid (∀ q (h : q < l.length), q < k → l[q].size ≤ 1048576)) (fun _ i => l.length - (intOf i).toNat)
  case atStart => exact ⟨0, Y - l.length, by omega, rfl, by go_num, by omega, fun q _ h => absurd h (Nat.not_lt_zero _)⟩
  case round =>
   obtain ⟨k, y, hk, rfl, rfl, hy, HF⟩ := hrel
   by_cases hlt : k < l.length
   ·obtain ⟨b, off, ha, hblt, hc⟩ := (unhide HR).at (by rw [unhide HCL]; omega)
    subst ha
    have hc1 : w.cell? ⟨b, off + k, none⟩ = some (.string l[k]) := hc k _ (cS_at l k hlt)
    have hlt' : (k : Int) < (l.length : Int) := by omega
    have hsk : (l[k].size : Int) ≤ 9223372036854775807 := by have := unhide HZ k hlt; unfold maxLen at this; omega
    by_cases hf : l[k].size ≤ y
    ·have HF2 : Hid (∀ q (h : q < l.length), q < k + 1 → l[q].size ≤ 1048576) := fun q h hq => by
      by_cases e : q = k
      ·subst e; omega
      ·exact unhide HF q h (by omega)
     clear hc HR HCL HF HZ
     go_wp2_with fail
     go_round
     case rel => exact ⟨k + 1, y - l[k].size, by omega, by go_num, by go_num, by omega, HF2⟩
     case measure => simp [intOf]; omega
    ·clear hc
     go_wp2_with fail
     go_ret
     exact ⟨_, rfl, rfl, .inl rfl⟩
   ·have HF2 : Hid (∀ q (h : q < l.length), l[q].size ≤ 1048576) := fun q h => unhide HF q h (by omega)
    go_wp2_with fail
    go_ret
    exact ⟨(y : Int), rfl, rfl, .inr ⟨y, rfl, hy, by omega, unhide HF2⟩⟩
end Go.Proofs.YtfogppnijdjakaaGreatDoor

/- Rows of texts: marked by the laws' own helper. -/
namespace Go.Proofs.YtfogppnijdjakaaGreatDoor
open Go.ChangeShapes Go.WideShapes Go.ChangeAt Go.RowKit
def onesString (n : Nat) : List Value := (List.range n).map fun j => .string (mtS (1 + j))
theorem below_asGrown {w w' : World} {row : Option Nat} (h : Below w.heap.size w w') : w.grownBy w' row := ⟨h.os, h.tape, h.output, h.size, fun k hk _ => h.block k hk⟩
set_option maxHeartbeats 400000 in
set_option maxRecDepth 100000 in
theorem markString (v : Value) (n lo hi k0 : Nat) (xs : List Value) (hn : n ≤ 20000000) (h1 : 0 < k0) (hk0 : k0 ≤ 20000000) (w : World) (h : Held w lo hi 9 v n xs) :
  Calls Tryz.prog 11 #[v, .int .i64 (k0 : Int)] w fun e w' => e = .returned (.int .i64 ((k0 + n : Nat) : Int)) ∧ Held w' lo hi 9 v n ((List.range n).map fun j => .string (mtS (k0 + j))) ∧ w.grownBy w' v.ownBlock := by
 have HX := hide (show xs.length = n from by have := h.1.1; omega)
 rcases h.1.2 with ⟨rfl, rfl⟩ | ⟨g, cap, cur, rfl, _⟩
 ·go_enter Tryz.func11, Tryz.ntmps11
  go_wp2_with fail
  go_loopw [1, 5] (fun kk i wr => kk = .int .i64 (k0 : Int) ∧ i = .int .i64 0 ∧ wr = w) (fun _ _ _ => 0)
  case atStart => exact ⟨rfl, rfl, rfl⟩
  case round =>
   obtain ⟨rfl, rfl, rfl⟩ := hrel
   have h' : Held wr lo hi 9 (.slice none 0 0) 0 ((List.range 0).map fun j => .string (mtS (k0 + j))) := by
    have := List.length_eq_zero_iff.1 (unhide HX); subst this; exact h
   go_wp2_with fail
   go_ret
   exact ⟨ret_int (by simp), h', grownBy_refl _ _⟩
 ·have HH := hide h
  clear h
  go_enter Tryz.func11, Tryz.ntmps11
  go_wp2_with fail
  go_loopw [1, 5] (fun kk i wr => ∃ j q : Nat, j ≤ n ∧ Hid (q = k0 + j) ∧ i = .int .i64 j ∧ kk = .int .i64 (q : Int) ∧ Hid (Held wr lo hi 9 (.slice (some ⟨g, 0, none⟩) n cap) n (markV xs (fun j => .string (mtS (k0 + j))) j)) ∧ Hid (w.grownBy wr (some g))) (fun _ i _ => n - (intOf i).toNat)
  case atStart => exact ⟨0, k0, by omega, rfl, rfl, rfl, by rw [markV_zero]; exact HH, grownBy_refl _ _⟩
  case round =>
   clear HH
   obtain ⟨j, q, hj, HQ, rfl, rfl, HH, HG⟩ := hrel
   have hq := unhide HQ
   have hq2 : q ≤ 40000000 := by omega
   by_cases hlt : j < n
   ·have hlt' : (j : Int) < (n : Int) := by omega
    have hq1 : 0 < q := by omega
    clear hq
    go_wp2_with fail
    refine (markText27 q hq1 hq2 _).mono ?_
    rintro e w2 ⟨rfl, hb2⟩
    obtain ⟨u0, hu0⟩ := cell_of (xs := xs) (j := j) (by rw [unhide HX]; exact hlt)
    have H2 := (unhide HH).below hb2 (unhide HH).le
    have hown := H2.1
    have hc2 : w2.cell? ⟨g, j, none⟩ = some u0 := by rw [hown.cellAt j (by omega), markV_at, hu0]
    have hf2 := hown.frozenAt j
    have hz2 : ¬ w2.heap.size = g := by have := (H2.blk g rfl).2; have := H2.le; omega
    have R := (hown.stored j (.string (mtS q))).1
    have hqe : mtS q = mtS (k0 + j) := by rw [unhide HQ]
    have hst := markV_set xs (fun j => Value.string (mtS (k0 + j))) j (by rw [unhide HX]; exact hlt)
    rw [hqe] at R
    rw [hst] at R
    rw [← hqe] at R
    have RH : Hid (Held (w2.setCell ⟨g, j, none⟩ (.string (mtS q))) lo hi 9 (.slice (some ⟨g, 0, none⟩) n cap) n (markV xs (fun j => .string (mtS (k0 + j))) (j + 1))) := ⟨R, H2.2.1, by have := H2.2.2; simpa using this⟩
    have RG := hide (World.grownBy.trans' (World.grownBy.trans' (unhide HG) (below_asGrown hb2)) (stored_grown (g := g) (j := j) (u := .string (mtS q))))
    clear hown R HH HG hu0 H2 hst hqe hb2
    go_wp2_with fail
    go_roundw
    case rel => exact ⟨j + 1, q + 1, by omega, by show q + 1 = k0 + (j + 1); have := unhide HQ; omega, by go_num, by go_num, RH, RG⟩
    case measure => simp [intOf]; omega
   ·have ej : j = n := by omega
    rw [ej, markV_all xs _ n (unhide HX).symm] at HH
    have eq2 : (q : Int) = ((k0 + n : Nat) : Int) := by omega
    clear hq
    go_wp2_with fail
    go_ret
    exact ⟨ret_int eq2, unhide HH, unhide HG⟩
theorem markString1 (v : Value) (n lo hi : Nat) (q : Int) (xs : List Value) (hq : q = ((1 + n : Nat) : Int)) (hn : n ≤ 20000000) (w : World) (h : Held w lo hi 9 v n xs) :
  Calls Tryz.prog 11 #[v, .int .i64 1] w fun e w' => e = .returned (.int .i64 q) ∧ Held w' lo hi 9 v n (onesString n) ∧ w.grownBy w' v.ownBlock := by
 subst hq; exact markString v n lo hi 1 xs hn (by decide) (by decide) w h
end Go.Proofs.YtfogppnijdjakaaGreatDoor

/- Lists of texts in the laws' own words, their lengths as letters. -/
namespace Go.Proofs.YtfogppnijdjakaaGreatDoor
open Go.ChangeShapes Go.WideShapes Go.ChangeAt Go.RowKit
set_option linter.unusedVariables false
theorem szStrN (a : Option Addr) (cap n : Nat) (l : List ByteArray) (HN : Hid (l.length = n)) (Y : Nat) (hY : Y ≤ 1048576) (hl : Hid (n ≤ maxLen)) (hsz : Hid (∀ k (h : k < l.length), l[k].size ≤ maxLen)) (w : World) (hr : RowV w a (cS l)) :
  Calls Tryz.prog 16 #[.slice a n cap, .int .i64 (Y : Int)] w fun e w' => ∃ x : Int, e = .returned (.int .i64 x) ∧ Below w.heap.size w w' ∧ (x = -1 ∨ ∃ z : Nat, x = (z : Int) ∧ z + n ≤ Y ∧ n ≤ 1048576 ∧ ∀ k (h : k < l.length), l[k].size ≤ 1048576) := by
 obtain rfl : n = l.length := (unhide HN).symm
 refine (sizeStr2 a cap l Y hY (unhide hl) (unhide hsz) w hr).mono ?_
 rintro e w2 ⟨x, rfl, rfl, hx⟩
 exact ⟨x, rfl, Below.refl _ _, hx⟩
theorem copyStrN (a : Option Addr) (cap n : Nat) (l : List ByteArray) (HN : Hid (l.length = n)) (hl : n ≤ 1048576) (w : World) (hr : RowV w a (cS l)) :
  Calls Tryz.prog 22 #[.slice a n cap] w fun e w' => ∃ g, e = .returned (.slice (some ⟨g, 0, none⟩) n n) ∧ w'.ownsRow w.heap.size 9 1 (.slice (some ⟨g, 0, none⟩) n n) n (cS l) ∧ Below w.heap.size w w' := by
 obtain rfl : n = l.length := (unhide HN).symm
 refine (copyString a cap l hl w hr).mono ?_
 rintro e w2 ⟨rfl, ho, hb⟩
 exact ⟨_, rfl, ho, hb⟩
theorem sameStrN (a c : Option Addr) (cap cap2 n : Nat) (l : List ByteArray) (HN : Hid (l.length = n)) (hl : n ≤ 1048576) (w : World) (hr : RowV w a (cS l)) (hr2 : RowV w c (cS l)) :
  Calls Tryz.prog 8 #[.slice a n cap, .slice c n cap2] w fun e w' => e = .returned (.bool true) ∧ Below w.heap.size w w' := by
 obtain rfl : n = l.length := (unhide HN).symm
 exact sameString a c cap cap2 l hl w hr hr2
theorem markStrN (v : Value) (n lo hi k0 q : Nat) (HQ : Hid (q = k0 + n)) (xs : List Value) (hn : n ≤ 20000000) (h1 : 0 < k0) (hk0 : k0 ≤ 20000000) (w : World) (h : Held w lo hi 9 v n xs) :
  Calls Tryz.prog 11 #[v, .int .i64 (k0 : Int)] w fun e w' => e = .returned (.int .i64 (q : Int)) ∧ Held w' lo hi 9 v n ((List.range n).map fun j => .string (mtS (k0 + j))) ∧ w.grownBy w' v.ownBlock := by
 rw [unhide HQ]
 exact markString v n lo hi k0 xs hn h1 hk0 w h
end Go.Proofs.YtfogppnijdjakaaGreatDoor
