/- Rows of stores, of messages in the law's own words: their size, their copies. -/
import Derived.Test.YtfogppnijdjakaaGreatDoorZG2
import Derived.Test.YtfogppnijdjakaaGreatDoorZG5
import Derived.Deep.Cut
namespace Go.Proofs.YtfogppnijdjakaaGreatDoor
open Go.ChangeShapes Go.WideShapes Go.ChangeAt Go.RowKit
set_option linter.unusedVariables false
def zMg : MgA := (⟨0, 0, 0, 0, 0, 0, 0, false, []⟩, none, 0)
def zSt : StA := (⟨#[]⟩, 0)
theorem norows_nil {A : Type} (L : List A) : L.flatMap norows = [] := by induction L with
 | nil => rfl
 | cons p L ih => rw [List.flatMap_cons, ih]; rfl
set_option maxHeartbeats 4000000 in
set_option maxRecDepth 100000 in
theorem szStoreY (d : ByteArray) (s : Int) (h1 : d.size ≤ maxLen) (Y : Nat) (hY : Y ≤ 1048576) (w : World) : Calls Tryz.prog 33 #[.agg #[.string d, .int .i64 s], .int .i64 (Y : Int)] w fun e w' => ∃ x : Int, e = .returned (.int .i64 x) ∧ Below w.heap.size w w' ∧ (x = -1 ∨ ∃ z : Nat, x = (z : Int) ∧ z ≤ Y ∧ d.size ≤ 1048576) := by
 have HB := hide (Go.Joins.below_alloc1 w (.cells #[.string d, .int .i64 s] 64))
 unfold maxLen at h1
 obtain ⟨a, ha⟩ : ∃ a : Nat, a = d.size := ⟨_, rfl⟩
 have HA := hide ha
 rw [← ha] at h1
 have la : (d.size : Int) = (a : Int) := by rw [ha]
 clear ha
 by_cases c1 : a ≤ Y
 ·go_enter Tryz.func33, Tryz.ntmps33
  go_wp2_with fail
  go_ret
  refine ⟨_, rfl, unhide HB, .inr ⟨Y - a, by omega, by omega, by rw [← unhide HA]; omega⟩⟩
 ·go_enter Tryz.func33, Tryz.ntmps33
  go_wp2_with fail
  go_ret
  exact ⟨_, rfl, unhide HB, .inl rfl⟩
def stW (_ : StA) : Nat := 0
set_option maxHeartbeats 4000000 in
set_option maxRecDepth 100000 in
theorem szStores (v : Value) (n : Nat) (hn : Hid (n ≤ maxLen)) (L : List StA) (HN : Hid (L.length = n)) (Y : Nat) (hY : Y ≤ 1048576) (HF : Hid (∀ p ∈ L, p.1.size ≤ maxLen)) (w : World) (h : RRow cSt norows w v L) :
  Calls Tryz.prog 14 #[v, .int .i64 (Y : Int)] w fun e w' => ∃ x : Int, e = .returned (.int .i64 x) ∧ Below w.heap.size w w' ∧ (x = -1 ∨ ∃ z : Nat, x = (z : Int) ∧ z + n + (L.map stW).sum ≤ Y ∧ ∀ p ∈ L, p.1.size ≤ 1048576) := by
 obtain ⟨⟨a, cap, rfl, hr⟩, he⟩ := h
 have HR := hide hr
 have HE := hide he
 have HCL := hide (flat_len (c := cSt) (z := 2) (fun p => rfl) L)
 have hl2 : (n : Int) ≤ 9223372036854775807 := by have := unhide hn; unfold maxLen at this; omega
 rw [unhide HN]
 clear hr he hn
 by_cases big : Y < n
 ·have b1 : (Y : Int) - (n : Int) < 0 := by omega
  go_enter Tryz.func14, Tryz.ntmps14
  go_wp2_with fail
  go_ret
  exact ⟨_, rfl, Below.refl _ _, .inl rfl⟩
 ·have hb : n ≤ Y := by omega
  go_enter Tryz.func14, Tryz.ntmps14
  go_wp2_with fail
  go_loopw [1, 5] (fun s i wr => ∃ (k y : Nat), k ≤ n ∧ i = .int .i64 k ∧ s = .int .i64 (y : Int) ∧ Hid (y + n + ((L.take k).map stW).sum ≤ Y) ∧ Hid (∀ q (h : q < L.length), q < k → L[q].1.size ≤ 1048576) ∧ Hid (Below w.heap.size w wr)) (fun _ i _ => n - (intOf i).toNat)
  case atStart => exact ⟨0, Y - n, by omega, rfl, by go_num, by show _ ≤ _; simp; omega, fun q _ h => absurd h (Nat.not_lt_zero _), Below.refl _ _⟩
  case round =>
   obtain ⟨k, y, hk, rfl, rfl, HY, HQ, HB⟩ := hrel
   have hy : y + n ≤ Y := by have := unhide HY; omega
   by_cases hlt : k < n
   ·have hlk : k < L.length := by rw [unhide HN]; exact hlt
    obtain ⟨b, off, ha, hblt, hc⟩ := (unhide HR).at (by rw [unhide HCL, unhide HN]; omega)
    subst ha
    have m1 := (row_S2 hc k hlk).below (unhide HB) hblt
    obtain ⟨P, hP⟩ : ∃ P, P = L[k] := ⟨_, rfl⟩
    have HP := hide hP
    rw [← hP] at m1
    clear hP
    have hfit := unhide HF _ (List.getElem_mem hlk)
    have HPk : Hid (∀ M, P.1.size ≤ M → L[k].1.size ≤ M) := by rw [← unhide HP]; exact fun M h => h
    rw [← unhide HP] at hfit
    have HPw : Hid (stW P = stW L[k]) := by show _ = _; rw [unhide HP]
    clear HP
    obtain ⟨d, s⟩ := P
    unfold S2 at m1
    simp only at m1
    have F0 : Hid (d.size ≤ maxLen) := by show _ ≤ _; exact hfit
    have i1 : (k : Int) < (n : Int) := by omega
    have i0 : (0 : Int) ≤ (k : Int) := by omega
    clear hc  hfit 
    go_wp2_with fail
    refine (szStoreY d s (unhide F0) y (by omega) _).mono ?_
    rintro e w2 ⟨x, rfl, hb2, hx⟩
    have HB2 := hide ((unhide HB).trans (hb2.mono (unhide HB).size))
    clear hb2 HB m1
    rcases hx with rfl | ⟨z, rfl, hz, q0⟩
    ·go_wp2_with fail
     go_ret
     exact ⟨_, rfl, unhide HB2, .inl rfl⟩
    ·have hz0 : ¬ (z : Int) < 0 := by omega
     have hfk := unhide HPk 1048576 q0
     have HQ2 : Hid (∀ q (h : q < L.length), q < k + 1 → L[q].1.size ≤ 1048576) := fun q h hq => by
      by_cases e : q = k
      ·subst e; exact hfk
      ·exact unhide HQ q h (by omega)
     have hw : stW L[k] = 0 := by rw [← unhide HPw]; rfl
     have HZY : Hid (z + n + ((L.take (k + 1)).map stW).sum ≤ Y) := by
      show _ ≤ _
      have h1 := unhide HY
      rw [← List.take_append_getElem hlk, List.map_append, List.sum_append, List.map_singleton, List.sum_singleton, hw]
      omega
     clear hfk HQ HR HE HCL HPk HPw HY hw hz
     go_wp2_with fail
     go_roundw
     case rel => exact ⟨k + 1, z, by omega, by go_num, rfl, HZY, HQ2, HB2⟩
     case measure => simp [intOf]; omega
   ·have HQ2 : Hid (∀ p ∈ L, p.1.size ≤ 1048576) := fun p hp => by
     obtain ⟨q, hq, rfl⟩ := List.getElem_of_mem hp
     exact unhide HQ q hq (by have := unhide HN; omega)
    go_wp2_with fail
    go_ret
    have hye := unhide HY
    rw [List.take_of_length_le (by have := unhide HN; omega)] at hye
    exact ⟨(y : Int), rfl, unhide HB, .inr ⟨y, rfl, hye, unhide HQ2⟩⟩
theorem Tryz.infStore : (Tryz.prog.info? 74).map (fun i => (i.zero, i.size, i.bytes)) = some (some (.agg #[.string ⟨#[]⟩, .int .i64 0]), 2, 24) := by kernel_rfl
set_option maxHeartbeats 4000000 in
set_option maxRecDepth 100000 in
theorem toStores (v : Value) (n : Nat) (hn : n ≤ 1048576) (L : List StA) (HN : Hid (L.length = n)) (w : World) (h : RRow cSt norows w v L) :
  Calls Tryz.prog 20 #[v] w fun e w' => e = .returned (.slice (some ⟨w.heap.size, 0, none⟩) n n) ∧ ∃ K : List StA, K = L ∧ w'.ownsRow w.heap.size 74 2 (.slice (some ⟨w.heap.size, 0, none⟩) n n) n (K.flatMap cSt) ∧ FOwn w' (w.heap.size + 1) (K.flatMap norows) ∧ w.heap.size + 1 ≤ w'.heap.size ∧ Below w.heap.size w w' := by
 obtain ⟨i0, hi, hz0, hz1, hz2⟩ := info_parts Tryz.infStore
 obtain ⟨⟨a, cap, rfl, hr⟩, he⟩ := h
 have HR := hide hr
 have HE := hide he
 have HCL := hide (flat_len (c := cSt) (z := 2) (fun p => rfl) L)
 rw [unhide HN]
 clear hr he
 go_enter Tryz.func20, Tryz.ntmps20
 go_wp2_with (at_make; refine wpList_make_full _ rfl _ _ 32 rfl w.heap.size 74 i0 (.agg #[.string ⟨#[]⟩, .int .i64 0]) 2 Tryz.underlying32 hi hz0 hz1 .i64 .i64 _ _ n rfl rfl rfl rfl (by rw [hz2]; omega) (by unfold maxLen; omega) (Nat.le_refl _) ?_; intro w1 hown hgrow)
 rw [show (Value.agg #[.string ⟨#[]⟩, .int .i64 0]).cells = #[.string ⟨#[]⟩, .int .i64 0] from rfl, made_flat (c := cSt) (k := 2) (fun p => rfl) (by decide) zSt #[.string ⟨#[]⟩, .int .i64 0] rfl] at hown
 have hb1 := (Below.refl w.heap.size w).grown hgrow (Nat.le_refl _) (fun k hk => by cases hk)
 have hs1 : w.heap.size + 1 ≤ w1.heap.size := Nat.succ_le_of_lt (hown.lt w.heap.size rfl).2
 clear hgrow hi hz0 hz1 hz2
 go_loopw [4] (fun i wr => ∃ (k : Nat) (K : List StA), k ≤ n ∧ i = .int .i64 k ∧ Hid (K.length = k) ∧ Hid (K = (L.take k)) ∧ Hid (wr.ownsRow w.heap.size 74 2 (.slice (some ⟨w.heap.size, 0, none⟩) n n) n ((K ++ List.replicate (n - k) zSt).flatMap cSt)) ∧ Hid (FOwn wr (w.heap.size + 1) (K.flatMap norows)) ∧ Hid (w.heap.size + 1 ≤ wr.heap.size) ∧ Hid (Below w.heap.size w wr)) (fun i _ => n - (intOf i).toNat)
 case atStart => exact ⟨0, [], by omega, rfl, rfl, rfl, hown, FOwn.nil _ _, hs1, hb1⟩
 case round =>
  clear hown hb1 hs1
  obtain ⟨k, K, hk, rfl, HK, HM, HO, FA, HSZ, HB⟩ := hrel
  by_cases hlt : k < n
  ·have hlk : k < L.length := by rw [unhide HN]; exact hlt
   obtain ⟨b, off, ha, hblt, hc⟩ := (unhide HR).at (by rw [unhide HCL, unhide HN]; omega)
   subst ha
   have m1 := (row_S2 hc k hlk).below (unhide HB) hblt
   obtain ⟨P, hP⟩ : ∃ P, P = L[k] := ⟨_, rfl⟩
   have HP := hide hP
   rw [← hP] at m1
   clear hP hc
   have HPn : Hid (P = L[k]) := unhide HP
   clear HP
   have HT : Hid ((L.take (k + 1)) = (L.take k) ++ [P]) := by show _ = _; rw [unhide HPn, List.take_add_one, List.getElem?_eq_getElem hlk]; first | rfl | (rw [List.map_append]; rfl)
   clear HPn
   obtain ⟨d, s⟩ := P
   unfold S2 at m1
   simp only at m1
   have i1 : (k : Int) < (n : Int) := by omega
   have i0' : (0 : Int) ≤ (k : Int) := by omega
   have HZ : Hid (w.heap.size ≤ wr.heap.size) := (unhide HB).size
   clear    HR HE HCL
   go_wp2_with fail
   refine (toStore d s _).mono ?_
   rintro e w2 ⟨rfl, hb2⟩
   have H2 := hide ((heldZ_of (unhide HO)).below hb2 (Nat.le_refl _)).own
   obtain ⟨m, hm⟩ : ∃ m, n - k = m + 1 := ⟨n - k - 1, by omega⟩
   have HU : ∀ j u, j < 2 → (cSt zSt)[j]? = some u → ((K ++ List.replicate (n - k) zSt).flatMap cSt)[k * 2 + j]? = some u := fun j u hj hu => by
    have hKk : K.length = k := unhide HK
    have hl : k < (K ++ List.replicate (n - k) zSt).length := by simp; omega
    rw [flat_at (c := cSt) (z := 2) (fun p => rfl) _ k hl j hj, ← hu]
    subst hKk
    rw [List.getElem_append_right (Nat.le_refl _)]; simp
   have c0 : w2.cell? ⟨w.heap.size, k * 2, none⟩ = some (.string ⟨#[]⟩) := ((unhide H2).cellAt (k * 2) (by omega)).trans (HU 0 _ (by decide) rfl)
   have f0 := (unhide H2).frozenAt (k * 2)
   have c1 : w2.cell? ⟨w.heap.size, k * 2 + 1, none⟩ = some (.int .i64 0) := ((unhide H2).cellAt (k * 2 + 1) (by omega)).trans (HU 1 _ (by decide) rfl)
   have f1 := (unhide H2).frozenAt (k * 2 + 1)
   have R0 := ((unhide H2).stored (k * 2) (.string d)).1
   have R1 := (R0.stored (k * 2 + 1) (.int .i64 s)).1
   have HS : setsA ((K ++ List.replicate (n - k) zSt).flatMap cSt) (k * 2) [.string d, .int .i64 s] = ((K ++ [((d, s) : StA)]) ++ List.replicate m zSt).flatMap cSt := by
    have hKk : K.length = k := unhide HK
    rw [setsA_put _ _ _ (by rw [flat_len (c := cSt) (z := 2) (fun p => rfl)]; simp; omega), show [.string d, .int .i64 s] = cSt ((d, s) : StA) from rfl, flat_put (c := cSt) (z := 2) (fun p => rfl) _ k (by simp; omega), hm]
    subst hKk
    exact congrArg (fun x => List.flatMap cSt x) (fill_set K zSt _ m)
   have HS2 : setsA ((K ++ List.replicate (n - k) zSt).flatMap cSt) (k * 2) [.string d, .int .i64 s] = ((K ++ [((d, s) : StA)]) ++ List.replicate (n - (k + 1)) zSt).flatMap cSt := by rw [show n - (k + 1) = m from by omega]; exact HS
   have RZ := hide (own_eq R1 HS2)
   have FA2 : Hid (FOwn w2 (w.heap.size + 1) ((K ++ [((d, s) : StA)]).flatMap norows)) := by
    show FOwn _ _ _
    rw [norows_nil]
    exact FOwn.nil _ _
   have HK2 : Hid ((K ++ [((d, s) : StA)]).length = k + 1) := by show _ = _; rw [List.length_append, show K.length = k from unhide HK]; rfl
   have HM2 : Hid ((K ++ [((d, s) : StA)]) = (L.take (k + 1))) := by show _ = _; rw [unhide HT, ← unhide HM]
   have HB2 := hide ((((unhide HB).trans (hb2.mono (unhide HZ))).setCell (p := ⟨w.heap.size, k * 2, none⟩) (Nat.le_refl _) (.string d)).setCell (p := ⟨w.heap.size, k * 2 + 1, none⟩) (Nat.le_refl _) (.int .i64 s))
   have FB2 := hide (((unhide FA2).setC (a := ⟨w.heap.size, k * 2, none⟩) (Nat.lt_succ_self _) (.string d)).setC (a := ⟨w.heap.size, k * 2 + 1, none⟩) (Nat.lt_succ_self _) (.int .i64 s))
   have HSZ2 : Hid (w.heap.size + 1 ≤ w2.heap.size) := Nat.le_trans (unhide HSZ) hb2.size
   clear HU HS HS2 H2 R0 R1  hm hb2 FA2  FA HO HB HK HM HT m1 HSZ
   go_wp2_with fail
   go_roundw
   case rel => exact ⟨k + 1, _, by omega, by go_num, HK2, HM2, RZ, FB2, by simpa only [World.size_setCell] using HSZ2, HB2⟩
   case measure => simp [intOf]; omega
  ·obtain rfl : k = n := by omega
   have ho : wr.ownsRow w.heap.size 74 2 (.slice (some ⟨w.heap.size, 0, none⟩) k k) k (K.flatMap cSt) := by have h := unhide HO; rw [Nat.sub_self] at h; simpa using h
   have hm : K = L := by have h := unhide HM; rw [List.take_of_length_le (by rw [unhide HN]; exact Nat.le_refl _)] at h; exact h
   have HO2 := hide ho
   have HM2 := hide hm
   clear ho hm HO HM
   go_wp2_with fail
   go_ret
   exact ⟨rfl, K, unhide HM2, unhide HO2, unhide FA, unhide HSZ, unhide HB⟩
set_option maxHeartbeats 4000000 in
set_option maxRecDepth 100000 in
theorem eqStores (v1 v2 : Value) (n : Nat) (hn : n ≤ 1048576) (L1 L2 : List StA) (HN1 : Hid (L1.length = n)) (HN2 : Hid (L2.length = n)) (HE : Hid (L1 = L2)) (w : World) (h1 : RRow cSt norows w v1 L1) (h2 : RRow cSt norows w v2 L2) :
  Calls Tryz.prog 26 #[v1, v2] w fun e w' => e = .returned (.bool true) ∧ Below w.heap.size w w' := by
 obtain ⟨⟨a, cap, rfl, hr1⟩, he1⟩ := h1
 obtain ⟨⟨c, cap2, rfl, hr2⟩, he2⟩ := h2
 have HR1 := hide hr1
 have HR2 := hide hr2
 have HE1 := hide he1
 have HE2 := hide he2
 rw [unhide HN1, unhide HN2]
 have nn : ((n : Int) != (n : Int)) = false := by simp
 clear hr1 hr2 he1 he2
 go_enter Tryz.func26, Tryz.ntmps26
 go_wp2_with fail
 go_loopw [5] (fun i wr => ∃ k : Nat, k ≤ n ∧ i = .int .i64 k ∧ Hid (Below w.heap.size w wr)) (fun i _ => n - (intOf i).toNat)
 case atStart => exact ⟨0, by omega, rfl, Below.refl _ _⟩
 case round =>
  obtain ⟨k, hk, rfl, HB⟩ := hrel
  by_cases hlt : k < n
  ·have hk1 : k < L1.length := by rw [unhide HN1]; exact hlt
   have hk2 : k < L2.length := by rw [unhide HN2]; exact hlt
   have he : L1[k] = L2[k] := by
    have e := congrArg (fun l => l[k]?) (unhide HE)
    simp only [List.getElem?_eq_getElem hk1, List.getElem?_eq_getElem hk2] at e
    exact Option.some.inj e
   obtain ⟨b, off, rfl, hblt, hc1⟩ := (unhide HR1).at (by rw [flat_len (c := cSt) (z := 2) (fun p => rfl) L1]; omega)
   obtain ⟨bd, og, rfl, hdlt, hc2⟩ := (unhide HR2).at (by rw [flat_len (c := cSt) (z := 2) (fun p => rfl) L2]; omega)
   have m1 := (row_S2 hc1 k hk1).below (unhide HB) hblt
   have m2 := (row_S2 hc2 k hk2).below (unhide HB) hdlt
   generalize L1[k] = p1 at he m1
   generalize L2[k] = p2 at he m2
   obtain ⟨d, s⟩ := p1
   obtain ⟨g2, s2⟩ := p2
   obtain ⟨rfl, rfl⟩ := Prod.mk.inj he
   unfold S2 at m1 m2
   simp only [] at m1 m2
   have hblt := Nat.lt_of_lt_of_le hblt (unhide HB).size
   have hdlt := Nat.lt_of_lt_of_le hdlt (unhide HB).size
   have i1 : (k : Int) < (n : Int) := by omega
   have i0 : (0 : Int) ≤ (k : Int) := by omega
   have K0 := And.intro m1 m2
   have TD : Hid (Below wr.heap.size wr wr.drew) := (Below.refl _ _).drew
   have KD : Hid (S2 wr b (off + k * 2) ((d, s) : StA) ∧ S2 wr bd (og + k * 2) ((d, s) : StA)) := by
    show _ ∧ _; unfold S2; simp only []; exact ⟨m1, m2⟩
   clear hc1 hc2 hk1 hk2  m1 m2
   go_wp2_with fail
   refine wp_region_held_drew (S := fun w' => (w'.cell? ⟨b, off + k * 2, none⟩ = some (.string d) ∧ w'.cell? ⟨b, off + k * 2 + 1, none⟩ = some (.int .i64 s)) ∧ (w'.cell? ⟨bd, og + k * 2, none⟩ = some (.string d) ∧ w'.cell? ⟨bd, og + k * 2 + 1, none⟩ = some (.int .i64 s))) (by kernel_rfl) K0 (fun hHeld => ?_)
   generalize wr.drew = wd at TD KD hHeld ⊢
   refine wtv 0 (oi := { dst := some 17, op := .move (.tmp 0), type := 32, pos := "exact.go:2004", after := #[], guard := none }) ?_
   refine wtv 1 (oi := { dst := some 18, op := .move (.tmp 5), type := 3, pos := "exact.go:2004", after := #[], guard := none }) ?_
   refine wtv 2 (oi := { dst := some 19, op := .indexAddr 32 (.tmp 17) (.tmp 18), type := 0, pos := "exact.go:2004", after := #[{ on := 0, ground := .data }, { on := 1, ground := .data }], guard := none }) ?_
   refine wtv 3 (oi := { dst := some 20, op := .load 74 (.tmp 19), type := 74, pos := "exact.go:2004", after := #[{ on := 2, ground := .data }], guard := none }) ?_
   refine wtv 4 (oi := { dst := some 21, op := .move (.tmp 1), type := 32, pos := "exact.go:2004", after := #[], guard := none }) ?_
   refine wtv 5 (oi := { dst := some 22, op := .move (.tmp 5), type := 3, pos := "exact.go:2004", after := #[], guard := none }) ?_
   refine wtv 6 (oi := { dst := some 23, op := .indexAddr 32 (.tmp 21) (.tmp 22), type := 0, pos := "exact.go:2004", after := #[{ on := 4, ground := .data }, { on := 5, ground := .data }], guard := none }) ?_
   refine wtv 7 (oi := { dst := some 24, op := .load 74 (.tmp 23), type := 74, pos := "exact.go:2004", after := #[{ on := 6, ground := .data }], guard := none }) ?_
   refine wpAnyH_ready (rs := [8]) (by kernel_rfl) (by simp) ?_
   refine AllReadyH.cons (o := { dst := some 25, op := .call { callee := .value (.func 50), args := #[.tmp 20, .tmp 24], argTypes := #[74, 74] }, type := 4, pos := "exact.go:2004", after := #[{ on := 3, ground := .data }, { on := 7, ground := .data }], guard := none }) rfl (fun K hK => ?_) AllReadyH.nil
   go_simp
   refine (eqStore d s _).mono ?_
   rintro e w2 ⟨rfl, hb2⟩
   have T2 := hide ((unhide TD).trans (hb2.mono (unhide TD).size))
   have K2q := And.intro ((unhide KD).1.below (unhide T2) hblt) ((unhide KD).2.below (unhide T2) hdlt)
   unfold S2 at K2q
   simp only at K2q
   have K2 := hide K2q
   clear K2q
   clear hb2
   go_wp2_with fail
   refine hK.out _ _ ?_ (fun hHeld8 => ?_)
   ·exact unhide K2
   clear hK K
   try simp only [Act.put, qqA, qqB, qqC]
   refine wtv 9 (oi := { dst := some 26, op := .unOp .not 4 (.tmp 25), type := 4, pos := "exact.go:2004", after := #[{ on := 8, ground := .data }], guard := none }) ?_
   refine wpAnyH_done (by kernel_rfl) ?_ _
   have B2 := hide ((unhide HB).trans ((unhide T2).mono (unhide HB).size))
   clear K0 TD KD K2 T2 HB hHeld hHeld8
   go_wp2_with fail
   go_roundw
   case rel => exact ⟨k + 1, by omega, by go_num, B2⟩
   case measure => simp [intOf]; omega
  ·obtain rfl : k = n := by omega
   go_wp2_with fail
   go_ret
   exact ⟨rfl, unhide HB⟩
def mgW (p : MgA) : Nat := p.1.es.length
set_option maxHeartbeats 4000000 in
set_option maxRecDepth 100000 in
theorem szMessages (v : Value) (n : Nat) (hn : Hid (n ≤ maxLen)) (L : List MgA) (HN : Hid (L.length = n)) (Y : Nat) (hY : Y ≤ 1048576) (HF : Hid (∀ p ∈ L, Mg.fits maxLen p.1)) (w : World) (h : MRow w v L) :
  Calls Tryz.prog 15 #[v, .int .i64 (Y : Int)] w fun e w' => ∃ x : Int, e = .returned (.int .i64 x) ∧ Below w.heap.size w w' ∧ (x = -1 ∨ ∃ z : Nat, x = (z : Int) ∧ z + n + (L.map mgW).sum ≤ Y ∧ ∀ p ∈ L, Mg.fits 1048576 p.1) := by
 obtain ⟨⟨a, cap, rfl, hr⟩, he⟩ := h
 have HR := hide hr
 have HE := hide he
 have HCL := hide (cMs_len L)
 have hl2 : (n : Int) ≤ 9223372036854775807 := by have := unhide hn; unfold maxLen at this; omega
 rw [unhide HN]
 clear hr he hn
 by_cases big : Y < n
 ·have b1 : (Y : Int) - (n : Int) < 0 := by omega
  go_enter Tryz.func15, Tryz.ntmps15
  go_wp2_with fail
  go_ret
  exact ⟨_, rfl, Below.refl _ _, .inl rfl⟩
 ·have hb : n ≤ Y := by omega
  go_enter Tryz.func15, Tryz.ntmps15
  go_wp2_with fail
  go_loopw [1, 5] (fun s i wr => ∃ (k y : Nat), k ≤ n ∧ i = .int .i64 k ∧ s = .int .i64 (y : Int) ∧ Hid (y + n + ((L.take k).map mgW).sum ≤ Y) ∧ Hid (∀ q (h : q < L.length), q < k → Mg.fits 1048576 L[q].1) ∧ Hid (Below w.heap.size w wr)) (fun _ i _ => n - (intOf i).toNat)
  case atStart => exact ⟨0, Y - n, by omega, rfl, by go_num, by show _ ≤ _; simp; omega, fun q _ h => absurd h (Nat.not_lt_zero _), Below.refl _ _⟩
  case round =>
   obtain ⟨k, y, hk, rfl, rfl, HY, HQ, HB⟩ := hrel
   have hy : y + n ≤ Y := by have := unhide HY; omega
   by_cases hlt : k < n
   ·have hlk : k < L.length := by rw [unhide HN]; exact hlt
    obtain ⟨b, off, ha, hblt, hc⟩ := (unhide HR).at (by rw [unhide HCL, unhide HN]; omega)
    subst ha
    have m1 := (row_msg hc k hlk).below (unhide HB) hblt
    obtain ⟨P, hP⟩ : ∃ P, P = L[k] := ⟨_, rfl⟩
    have HP := hide hP
    rw [← hP] at m1
    clear hP
    have hfit := unhide HF _ (List.getElem_mem hlk)
    have hrd := unhide HE _ (List.getElem_mem hlk)
    have HPk : Hid (∀ M, Mg.fits M P.1 → Mg.fits M L[k].1) := by rw [← unhide HP]; exact fun M h => h
    rw [← unhide HP] at hfit hrd
    obtain ⟨f0, fs⟩ := hfit
    have E0 := hide (hrd.below (unhide HB))
    have HPw : Hid (mgW P = mgW L[k]) := by show _ = _; rw [unhide HP]
    clear HP
    obtain ⟨⟨kd, fr, dst, tm, ix, lt, cm, ok, l⟩, ea, ec⟩ := P
    obtain ⟨n0, hnn0⟩ : ∃ n0, l.length = n0 := ⟨_, rfl⟩
    have HN0 : Hid (l.length = n0) := hnn0
    unfold M9 at m1
    simp only [hnn0] at m1
    have F0 : Hid (n0 ≤ maxLen) := by show _ ≤ _; rw [← hnn0]; exact f0
    have FS : Hid (∀ k (h : k < l.length), l[k].2.size ≤ maxLen) := fs
    have i1 : (k : Int) < (n : Int) := by omega
    have i0 : (0 : Int) ≤ (k : Int) := by omega
    clear hc hnn0 f0 fs hrd
    go_wp2_with fail
    refine (szMsg kd fr dst tm ix lt cm ok ea ec n0 l HN0 y (by omega) F0 FS _ (unhide E0)).mono ?_
    rintro e w2 ⟨x, rfl, hb2, hx⟩
    have HB2 := hide ((unhide HB).trans (hb2.mono (unhide HB).size))
    clear hb2 HB m1
    rcases hx with rfl | ⟨z, rfl, hz, q0, qs⟩
    ·go_wp2_with fail
     go_ret
     exact ⟨_, rfl, unhide HB2, .inl rfl⟩
    ·have hz0 : ¬ (z : Int) < 0 := by omega
     have hfk := unhide HPk 1048576 ⟨by rw [unhide HN0]; exact q0, qs⟩
     have HQ2 : Hid (∀ q (h : q < L.length), q < k + 1 → Mg.fits 1048576 L[q].1) := fun q h hq => by
      by_cases e : q = k
      ·subst e; exact hfk
      ·exact unhide HQ q h (by omega)
     have hw : mgW L[k] = n0 := by rw [← unhide HPw]; show l.length = _; exact unhide HN0
     have HZY : Hid (z + n + ((L.take (k + 1)).map mgW).sum ≤ Y) := by
      show _ ≤ _
      have h1 := unhide HY
      rw [← List.take_append_getElem hlk, List.map_append, List.sum_append, List.map_singleton, List.sum_singleton, hw]
      omega
     clear hfk HQ HR HE HCL HPk HPw HY hw hz
     go_wp2_with fail
     go_roundw
     case rel => exact ⟨k + 1, z, by omega, by go_num, rfl, HZY, HQ2, HB2⟩
     case measure => simp [intOf]; omega
   ·have HQ2 : Hid (∀ p ∈ L, Mg.fits 1048576 p.1) := fun p hp => by
     obtain ⟨q, hq, rfl⟩ := List.getElem_of_mem hp
     exact unhide HQ q hq (by have := unhide HN; omega)
    go_wp2_with fail
    go_ret
    have hye := unhide HY
    rw [List.take_of_length_le (by have := unhide HN; omega)] at hye
    exact ⟨(y : Int), rfl, unhide HB, .inr ⟨y, rfl, hye, unhide HQ2⟩⟩
theorem Tryz.infMessage : (Tryz.prog.info? 82).map (fun i => (i.zero, i.size, i.bytes)) = some (some (.agg #[.int .i64 0, .int .i64 0, .int .i64 0, .int .i64 0, .int .i64 0, .int .i64 0, .int .i64 0, .bool false, .slice none 0 0]), 9, 88) := by kernel_rfl
set_option maxHeartbeats 4000000 in
set_option maxRecDepth 100000 in
theorem toMessages (v : Value) (n : Nat) (hn : n ≤ 1048576) (L : List MgA) (HN : Hid (L.length = n)) (HF : Hid (∀ p ∈ L, Mg.fits 1048576 p.1)) (w : World) (h : MRow w v L) :
  Calls Tryz.prog 21 #[v] w fun e w' => e = .returned (.slice (some ⟨w.heap.size, 0, none⟩) n n) ∧ ∃ K : List MgA, K.map (·.1) = L.map (·.1) ∧ w'.ownsRow w.heap.size 82 9 (.slice (some ⟨w.heap.size, 0, none⟩) n n) n (K.flatMap cM) ∧ FOwn w' (w.heap.size + 1) (K.flatMap mrows) ∧ w.heap.size + 1 ≤ w'.heap.size ∧ Below w.heap.size w w' := by
 obtain ⟨i0, hi, hz0, hz1, hz2⟩ := info_parts Tryz.infMessage
 obtain ⟨⟨a, cap, rfl, hr⟩, he⟩ := h
 have HR := hide hr
 have HE := hide he
 have HCL := hide (cMs_len L)
 rw [unhide HN]
 clear hr he
 go_enter Tryz.func21, Tryz.ntmps21
 go_wp2_with (at_make; refine wpList_make_full _ rfl _ _ 33 rfl w.heap.size 82 i0 (.agg #[.int .i64 0, .int .i64 0, .int .i64 0, .int .i64 0, .int .i64 0, .int .i64 0, .int .i64 0, .bool false, .slice none 0 0]) 9 Tryz.underlying33 hi hz0 hz1 .i64 .i64 _ _ n rfl rfl rfl rfl (by rw [hz2]; omega) (by unfold maxLen; omega) (Nat.le_refl _) ?_; intro w1 hown hgrow)
 rw [show (Value.agg #[.int .i64 0, .int .i64 0, .int .i64 0, .int .i64 0, .int .i64 0, .int .i64 0, .int .i64 0, .bool false, .slice none 0 0]).cells = #[.int .i64 0, .int .i64 0, .int .i64 0, .int .i64 0, .int .i64 0, .int .i64 0, .int .i64 0, .bool false, .slice none 0 0] from rfl, made_flat (c := cM) (k := 9) (fun p => rfl) (by decide) zMg #[.int .i64 0, .int .i64 0, .int .i64 0, .int .i64 0, .int .i64 0, .int .i64 0, .int .i64 0, .bool false, .slice none 0 0] rfl] at hown
 have hb1 := (Below.refl w.heap.size w).grown hgrow (Nat.le_refl _) (fun k hk => by cases hk)
 have hs1 : w.heap.size + 1 ≤ w1.heap.size := Nat.succ_le_of_lt (hown.lt w.heap.size rfl).2
 clear hgrow hi hz0 hz1 hz2
 go_loopw [4] (fun i wr => ∃ (k : Nat) (K : List MgA), k ≤ n ∧ i = .int .i64 k ∧ Hid (K.length = k) ∧ Hid (K.map (·.1) = (L.take k).map (·.1)) ∧ Hid (wr.ownsRow w.heap.size 82 9 (.slice (some ⟨w.heap.size, 0, none⟩) n n) n ((K ++ List.replicate (n - k) zMg).flatMap cM)) ∧ Hid (FOwn wr (w.heap.size + 1) (K.flatMap mrows)) ∧ Hid (w.heap.size + 1 ≤ wr.heap.size) ∧ Hid (Below w.heap.size w wr)) (fun i _ => n - (intOf i).toNat)
 case atStart => exact ⟨0, [], by omega, rfl, rfl, rfl, hown, FOwn.nil _ _, hs1, hb1⟩
 case round =>
  clear hown hb1 hs1
  obtain ⟨k, K, hk, rfl, HK, HM, HO, FA, HSZ, HB⟩ := hrel
  by_cases hlt : k < n
  ·have hlk : k < L.length := by rw [unhide HN]; exact hlt
   obtain ⟨b, off, ha, hblt, hc⟩ := (unhide HR).at (by rw [unhide HCL, unhide HN]; omega)
   subst ha
   have m1 := (row_msg hc k hlk).below (unhide HB) hblt
   obtain ⟨P, hP⟩ : ∃ P, P = L[k] := ⟨_, rfl⟩
   have HP := hide hP
   rw [← hP] at m1
   clear hP hc
   have hfit := unhide HF _ (List.getElem_mem hlk)
   have hrd := unhide HE _ (List.getElem_mem hlk)
   have HPn : Hid (P.1 = L[k].1) := by show _ = _; rw [unhide HP]
   rw [← unhide HP] at hfit hrd
   obtain ⟨f0, fs⟩ := hfit
   have E0 := hide (hrd.below (unhide HB))
   clear HP
   have HT : Hid ((L.take (k + 1)).map (·.1) = (L.take k).map (·.1) ++ [P.1]) := by show _ = _; rw [unhide HPn, List.take_add_one, List.getElem?_eq_getElem hlk]; first | rfl | (rw [List.map_append]; rfl)
   clear HPn
   obtain ⟨⟨kd, fr, dst, tm, ix, lt, cm, ok, l⟩, ea, ec⟩ := P
   obtain ⟨n0, hnn0⟩ : ∃ n0, l.length = n0 := ⟨_, rfl⟩
   have HN0 : Hid (l.length = n0) := hnn0
   unfold M9 at m1
   simp only [hnn0] at m1
   have F0 : Hid (n0 ≤ 1048576) := by show _ ≤ _; rw [← hnn0]; exact f0
   have i1 : (k : Int) < (n : Int) := by omega
   have i0' : (0 : Int) ≤ (k : Int) := by omega
   have HZ : Hid (w.heap.size ≤ wr.heap.size) := (unhide HB).size
   clear hnn0 f0 fs hrd HR HE HCL HF
   go_wp2_with fail
   refine (toMsg kd fr dst tm ix lt cm ok ea ec n0 l HN0 (unhide F0) _ (unhide E0)).mono ?_
   rintro e w2 ⟨g0, rfl, h0, hb2⟩
   have H2 := hide ((heldZ_of (unhide HO)).below hb2 (Nat.le_refl _)).own
   obtain ⟨m, hm⟩ : ∃ m, n - k = m + 1 := ⟨n - k - 1, by omega⟩
   have HU : ∀ j u, j < 9 → (cM zMg)[j]? = some u → ((K ++ List.replicate (n - k) zMg).flatMap cM)[k * 9 + j]? = some u := fun j u hj hu => by
    have hKk : K.length = k := unhide HK
    have hl : k < (K ++ List.replicate (n - k) zMg).length := by simp; omega
    rw [flat_at (c := cM) (z := 9) (fun p => rfl) _ k hl j hj, ← hu]
    subst hKk
    rw [List.getElem_append_right (Nat.le_refl _)]; simp
   have c0 : w2.cell? ⟨w.heap.size, k * 9, none⟩ = some (.int .i64 0) := ((unhide H2).cellAt (k * 9) (by omega)).trans (HU 0 _ (by decide) rfl)
   have f0 := (unhide H2).frozenAt (k * 9)
   have c1 : w2.cell? ⟨w.heap.size, k * 9 + 1, none⟩ = some (.int .i64 0) := ((unhide H2).cellAt (k * 9 + 1) (by omega)).trans (HU 1 _ (by decide) rfl)
   have f1 := (unhide H2).frozenAt (k * 9 + 1)
   have c2 : w2.cell? ⟨w.heap.size, k * 9 + 2, none⟩ = some (.int .i64 0) := ((unhide H2).cellAt (k * 9 + 2) (by omega)).trans (HU 2 _ (by decide) rfl)
   have f2 := (unhide H2).frozenAt (k * 9 + 2)
   have c3 : w2.cell? ⟨w.heap.size, k * 9 + 3, none⟩ = some (.int .i64 0) := ((unhide H2).cellAt (k * 9 + 3) (by omega)).trans (HU 3 _ (by decide) rfl)
   have f3 := (unhide H2).frozenAt (k * 9 + 3)
   have c4 : w2.cell? ⟨w.heap.size, k * 9 + 4, none⟩ = some (.int .i64 0) := ((unhide H2).cellAt (k * 9 + 4) (by omega)).trans (HU 4 _ (by decide) rfl)
   have f4 := (unhide H2).frozenAt (k * 9 + 4)
   have c5 : w2.cell? ⟨w.heap.size, k * 9 + 5, none⟩ = some (.int .i64 0) := ((unhide H2).cellAt (k * 9 + 5) (by omega)).trans (HU 5 _ (by decide) rfl)
   have f5 := (unhide H2).frozenAt (k * 9 + 5)
   have c6 : w2.cell? ⟨w.heap.size, k * 9 + 6, none⟩ = some (.int .i64 0) := ((unhide H2).cellAt (k * 9 + 6) (by omega)).trans (HU 6 _ (by decide) rfl)
   have f6 := (unhide H2).frozenAt (k * 9 + 6)
   have c7 : w2.cell? ⟨w.heap.size, k * 9 + 7, none⟩ = some (.bool false) := ((unhide H2).cellAt (k * 9 + 7) (by omega)).trans (HU 7 _ (by decide) rfl)
   have f7 := (unhide H2).frozenAt (k * 9 + 7)
   have c8 : w2.cell? ⟨w.heap.size, k * 9 + 8, none⟩ = some (.slice none 0 0) := ((unhide H2).cellAt (k * 9 + 8) (by omega)).trans (HU 8 _ (by decide) rfl)
   have f8 := (unhide H2).frozenAt (k * 9 + 8)
   have R0 := ((unhide H2).stored (k * 9) (.int .i64 kd)).1
   have R1 := (R0.stored (k * 9 + 1) (.int .i64 fr)).1
   have R2 := (R1.stored (k * 9 + 2) (.int .i64 dst)).1
   have R3 := (R2.stored (k * 9 + 3) (.int .i64 tm)).1
   have R4 := (R3.stored (k * 9 + 4) (.int .i64 ix)).1
   have R5 := (R4.stored (k * 9 + 5) (.int .i64 lt)).1
   have R6 := (R5.stored (k * 9 + 6) (.int .i64 cm)).1
   have R7 := (R6.stored (k * 9 + 7) (.bool ok)).1
   have R8 := (R7.stored (k * 9 + 8) (.slice (some ⟨g0, 0, none⟩) n0 n0)).1
   have HS : setsA ((K ++ List.replicate (n - k) zMg).flatMap cM) (k * 9) [.int .i64 kd, .int .i64 fr, .int .i64 dst, .int .i64 tm, .int .i64 ix, .int .i64 lt, .int .i64 cm, .bool ok, .slice (some ⟨g0, 0, none⟩) n0 n0] = ((K ++ [((⟨kd, fr, dst, tm, ix, lt, cm, ok, l⟩, some ⟨g0, 0, none⟩, n0) : MgA)]) ++ List.replicate m zMg).flatMap cM := by
    have hKk : K.length = k := unhide HK
    rw [setsA_put _ _ _ (by rw [flat_len (c := cM) (z := 9) (fun p => rfl)]; simp; omega), show [.int .i64 kd, .int .i64 fr, .int .i64 dst, .int .i64 tm, .int .i64 ix, .int .i64 lt, .int .i64 cm, .bool ok, .slice (some ⟨g0, 0, none⟩) n0 n0] = cM ((⟨kd, fr, dst, tm, ix, lt, cm, ok, l⟩, some ⟨g0, 0, none⟩, n0) : MgA) from by simp only [cM, sl, show l.length = n0 from unhide HN0], flat_put (c := cM) (z := 9) (fun p => rfl) _ k (by simp; omega), hm]
    subst hKk
    exact congrArg (fun x => List.flatMap cM x) (fill_set K zMg _ m)
   have HS2 : setsA ((K ++ List.replicate (n - k) zMg).flatMap cM) (k * 9) [.int .i64 kd, .int .i64 fr, .int .i64 dst, .int .i64 tm, .int .i64 ix, .int .i64 lt, .int .i64 cm, .bool ok, .slice (some ⟨g0, 0, none⟩) n0 n0] = ((K ++ [((⟨kd, fr, dst, tm, ix, lt, cm, ok, l⟩, some ⟨g0, 0, none⟩, n0) : MgA)]) ++ List.replicate (n - (k + 1)) zMg).flatMap cM := by rw [show n - (k + 1) = m from by omega]; exact HS
   have RZ := hide (own_eq R8 HS2)
   have FN : Hid (FOwn w2 wr.heap.size (mrows ((⟨kd, fr, dst, tm, ix, lt, cm, ok, l⟩, some ⟨g0, 0, none⟩, n0) : MgA))) := by
    show FOwn _ _ _
    unfold mrows sl
    simp only [show l.length = n0 from unhide HN0]
    exact FOwn.one (r := ⟨_, _, _, _, _⟩) h0
   have FA2 : Hid (FOwn w2 (w.heap.size + 1) ((K ++ [((⟨kd, fr, dst, tm, ix, lt, cm, ok, l⟩, some ⟨g0, 0, none⟩, n0) : MgA)]).flatMap mrows)) := by
    show FOwn _ _ _
    rw [List.flatMap_append, List.flatMap_singleton]
    exact ((unhide FA).below hb2).app (unhide FN) (unhide HSZ) fun r hr j hj => ((unhide FA).lt r hr j hj).2
   have HK2 : Hid ((K ++ [((⟨kd, fr, dst, tm, ix, lt, cm, ok, l⟩, some ⟨g0, 0, none⟩, n0) : MgA)]).length = k + 1) := by show _ = _; rw [List.length_append, show K.length = k from unhide HK]; rfl
   have HM2 : Hid ((K ++ [((⟨kd, fr, dst, tm, ix, lt, cm, ok, l⟩, some ⟨g0, 0, none⟩, n0) : MgA)]).map (·.1) = (L.take (k + 1)).map (·.1)) := by show _ = _; rw [unhide HT, ← unhide HM]; simp
   have HB2 := hide (((((((((((unhide HB).trans (hb2.mono (unhide HZ))).setCell (p := ⟨w.heap.size, k * 9, none⟩) (Nat.le_refl _) (.int .i64 kd)).setCell (p := ⟨w.heap.size, k * 9 + 1, none⟩) (Nat.le_refl _) (.int .i64 fr)).setCell (p := ⟨w.heap.size, k * 9 + 2, none⟩) (Nat.le_refl _) (.int .i64 dst)).setCell (p := ⟨w.heap.size, k * 9 + 3, none⟩) (Nat.le_refl _) (.int .i64 tm)).setCell (p := ⟨w.heap.size, k * 9 + 4, none⟩) (Nat.le_refl _) (.int .i64 ix)).setCell (p := ⟨w.heap.size, k * 9 + 5, none⟩) (Nat.le_refl _) (.int .i64 lt)).setCell (p := ⟨w.heap.size, k * 9 + 6, none⟩) (Nat.le_refl _) (.int .i64 cm)).setCell (p := ⟨w.heap.size, k * 9 + 7, none⟩) (Nat.le_refl _) (.bool ok)).setCell (p := ⟨w.heap.size, k * 9 + 8, none⟩) (Nat.le_refl _) (.slice (some ⟨g0, 0, none⟩) n0 n0))
   have FB2 := hide ((((((((((unhide FA2).setC (a := ⟨w.heap.size, k * 9, none⟩) (Nat.lt_succ_self _) (.int .i64 kd)).setC (a := ⟨w.heap.size, k * 9 + 1, none⟩) (Nat.lt_succ_self _) (.int .i64 fr)).setC (a := ⟨w.heap.size, k * 9 + 2, none⟩) (Nat.lt_succ_self _) (.int .i64 dst)).setC (a := ⟨w.heap.size, k * 9 + 3, none⟩) (Nat.lt_succ_self _) (.int .i64 tm)).setC (a := ⟨w.heap.size, k * 9 + 4, none⟩) (Nat.lt_succ_self _) (.int .i64 ix)).setC (a := ⟨w.heap.size, k * 9 + 5, none⟩) (Nat.lt_succ_self _) (.int .i64 lt)).setC (a := ⟨w.heap.size, k * 9 + 6, none⟩) (Nat.lt_succ_self _) (.int .i64 cm)).setC (a := ⟨w.heap.size, k * 9 + 7, none⟩) (Nat.lt_succ_self _) (.bool ok)).setC (a := ⟨w.heap.size, k * 9 + 8, none⟩) (Nat.lt_succ_self _) (.slice (some ⟨g0, 0, none⟩) n0 n0))
   have HSZ2 : Hid (w.heap.size + 1 ≤ w2.heap.size) := Nat.le_trans (unhide HSZ) hb2.size
   clear HU HS HS2 H2 R0 R1 R2 R3 R4 R5 R6 R7 R8 h0 hm hb2 FA2 FN FA HO HB HK HM HT m1 HSZ
   go_wp2_with fail
   go_roundw
   case rel => exact ⟨k + 1, _, by omega, by go_num, HK2, HM2, RZ, FB2, by simpa only [World.size_setCell] using HSZ2, HB2⟩
   case measure => simp [intOf]; omega
  ·obtain rfl : k = n := by omega
   have ho : wr.ownsRow w.heap.size 82 9 (.slice (some ⟨w.heap.size, 0, none⟩) k k) k (K.flatMap cM) := by have h := unhide HO; rw [Nat.sub_self] at h; simpa using h
   have hm : K.map (·.1) = L.map (·.1) := by have h := unhide HM; rw [List.take_of_length_le (by rw [unhide HN]; exact Nat.le_refl _)] at h; exact h
   have HO2 := hide ho
   have HM2 := hide hm
   clear ho hm HO HM
   go_wp2_with fail
   go_ret
   exact ⟨rfl, K, unhide HM2, unhide HO2, unhide FA, unhide HSZ, unhide HB⟩
end Go.Proofs.YtfogppnijdjakaaGreatDoor
