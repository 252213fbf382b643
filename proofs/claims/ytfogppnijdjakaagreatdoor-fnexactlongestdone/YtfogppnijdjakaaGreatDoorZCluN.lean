/- Rows of nodes in the law's own words: their size, their copies. -/
import Derived.Test.YtfogppnijdjakaaGreatDoorZG2
import Derived.Test.YtfogppnijdjakaaGreatDoorZNdL
import Derived.Deep.Cut
namespace Go.Proofs.YtfogppnijdjakaaGreatDoor
open Go.ChangeShapes Go.WideShapes Go.ChangeAt Go.RowKit
set_option linter.unusedVariables false
def zNd : NdA := ⟨nfZ, none, 0, none, 0, none, 0, none, 0⟩
def ndW (p : NdA) : Nat := p.n.l.length + p.n.lv.length + p.n.lx.length + p.n.lg.length
set_option maxHeartbeats 4000000 in
set_option maxRecDepth 100000 in
theorem szNodes (v : Value) (n : Nat) (hn : Hid (n ≤ maxLen)) (L : List NdA) (HN : Hid (L.length = n)) (Y : Nat) (hY : Y ≤ 1048576) (HF : Hid (∀ p ∈ L, NdA.fits maxLen p)) (w : World) (h : RRow cN nrows w v L) :
  Calls Tryz.prog 13 #[v, .int .i64 (Y : Int)] w fun e w' => ∃ x : Int, e = .returned (.int .i64 x) ∧ Below w.heap.size w w' ∧ (x = -1 ∨ ∃ z : Nat, x = (z : Int) ∧ z + n + (L.map ndW).sum ≤ Y ∧ ∀ p ∈ L, NdA.fits 1048576 p) := by
 obtain ⟨⟨a, cap, rfl, hr⟩, he⟩ := h
 have HR := hide hr
 have HE := hide he
 have HCL := hide (flat_len (c := cN) (z := 13) (fun p => rfl) L)
 have hl2 : (n : Int) ≤ 9223372036854775807 := by have := unhide hn; unfold maxLen at this; omega
 rw [unhide HN]
 clear hr he hn
 by_cases big : Y < n
 ·have b1 : (Y : Int) - (n : Int) < 0 := by omega
  go_enter Tryz.func13, Tryz.ntmps13
  go_wp2_with fail
  go_ret
  exact ⟨_, rfl, Below.refl _ _, .inl rfl⟩
 ·have hb : n ≤ Y := by omega
  go_enter Tryz.func13, Tryz.ntmps13
  go_wp2_with fail
  go_loopw [1, 5] (fun s i wr => ∃ (k y : Nat), k ≤ n ∧ i = .int .i64 k ∧ s = .int .i64 (y : Int) ∧ Hid (y + n + ((L.take k).map ndW).sum ≤ Y) ∧ Hid (∀ q (h : q < L.length), q < k → NdA.fits 1048576 L[q]) ∧ Hid (Below w.heap.size w wr)) (fun _ i _ => n - (intOf i).toNat)
  case atStart => exact ⟨0, Y - n, by omega, rfl, by go_num, by show _ ≤ _; simp; omega, fun q _ h => absurd h (Nat.not_lt_zero _), Below.refl _ _⟩
  case round =>
   obtain ⟨k, y, hk, rfl, rfl, HY, HQ, HB⟩ := hrel
   have hy : y + n ≤ Y := by have := unhide HY; omega
   by_cases hlt : k < n
   ·have hlk : k < L.length := by rw [unhide HN]; exact hlt
    obtain ⟨b, off, ha, hblt, hc⟩ := (unhide HR).at (by rw [unhide HCL, unhide HN]; omega)
    subst ha
    have m1 := (row_N13 hc k hlk).below (unhide HB) hblt
    obtain ⟨P, hP⟩ : ∃ P, P = L[k] := ⟨_, rfl⟩
    have HP := hide hP
    rw [← hP] at m1
    clear hP
    have hfit := unhide HF _ (List.getElem_mem hlk)
    have hrd := nd_rows (unhide HE _ (List.getElem_mem hlk))
    have HPk : Hid (∀ M, NdA.fits M P → NdA.fits M L[k]) := by rw [← unhide HP]; exact fun M h => h
    rw [← unhide HP] at hfit hrd
    obtain ⟨f0, fv, fx, fg, fs⟩ := hfit
    have E0 := hide (hrd.1.below (unhide HB))
    have HPw : Hid (ndW P = ndW L[k]) := by show _ = _; rw [unhide HP]
    clear HP
    obtain ⟨⟨id, nd, tm, vt, ro, up, l, cm, el, wt, lv, lx, lg⟩, ea, ec, va, vc, xa, xc, ga, gc⟩ := P
    obtain ⟨n0, hnn0⟩ : ∃ n0, l.length = n0 := ⟨_, rfl⟩
    have HN0 : Hid (l.length = n0) := hnn0
    obtain ⟨nv, hnnv⟩ : ∃ nv, lv.length = nv := ⟨_, rfl⟩
    have HNv : Hid (lv.length = nv) := hnnv
    obtain ⟨nx, hnnx⟩ : ∃ nx, lx.length = nx := ⟨_, rfl⟩
    have HNx : Hid (lx.length = nx) := hnnx
    obtain ⟨ng, hnng⟩ : ∃ ng, lg.length = ng := ⟨_, rfl⟩
    have HNg : Hid (lg.length = ng) := hnng
    unfold N13 at m1
    simp only [hnn0, hnnv, hnnx, hnng] at m1
    have F0 : Hid (n0 ≤ maxLen) := by show _ ≤ _; rw [← hnn0]; exact f0
    have Fv : Hid (nv ≤ maxLen) := by show _ ≤ _; rw [← hnnv]; exact fv
    have Fx : Hid (nx ≤ maxLen) := by show _ ≤ _; rw [← hnnx]; exact fx
    have Fg : Hid (ng ≤ maxLen) := by show _ ≤ _; rw [← hnng]; exact fg
    have FS : Hid (∀ k (h : k < l.length), l[k].2.size ≤ maxLen) := fs
    have i1 : (k : Int) < (n : Int) := by omega
    have i0 : (0 : Int) ≤ (k : Int) := by omega
    clear hc hnn0 hnnv hnnx hnng f0 fv fx fg fs hrd
    go_wp2_with fail
    refine (szNd id nd tm vt ro cm el wt up ea ec n0 l HN0 va vc nv lv HNv xa xc nx lx HNx ga gc ng lg HNg y (by omega) F0 Fv Fx Fg FS _ (unhide E0)).mono ?_
    rintro e w2 ⟨x, rfl, hb2, hx⟩
    have HB2 := hide ((unhide HB).trans (hb2.mono (unhide HB).size))
    clear hb2 HB m1
    rcases hx with rfl | ⟨z, rfl, hz, q0, qv, qx, qg, qs⟩
    ·go_wp2_with fail
     go_ret
     exact ⟨_, rfl, unhide HB2, .inl rfl⟩
    ·have hz0 : ¬ (z : Int) < 0 := by omega
     have hfk := unhide HPk 1048576 ⟨by rw [unhide HN0]; exact q0, by rw [unhide HNv]; exact qv, by rw [unhide HNx]; exact qx, by rw [unhide HNg]; exact qg, qs⟩
     have HQ2 : Hid (∀ q (h : q < L.length), q < k + 1 → NdA.fits 1048576 L[q]) := fun q h hq => by
      by_cases e : q = k
      ·subst e; exact hfk
      ·exact unhide HQ q h (by omega)
     have hw : ndW L[k] = n0 + nv + nx + ng := by rw [← unhide HPw]; show l.length + lv.length + lx.length + lg.length = _; rw [unhide HN0, unhide HNv, unhide HNx, unhide HNg]
     have HZY : Hid (z + n + ((L.take (k + 1)).map ndW).sum ≤ Y) := by
      show _ ≤ _
      have h1 := unhide HY
      rw [← List.take_append_getElem hlk, List.map_append, List.sum_append, List.map_singleton, List.sum_singleton, hw]
      omega
     clear hfk HQ HR HE HCL HPk HPw HY hw hz
     go_wp2_with fail
     go_roundw
     case rel => exact ⟨k + 1, z, by omega, by go_num, rfl, HZY, HQ2, HB2⟩
     case measure => simp [intOf]; omega
   ·have HQ2 : Hid (∀ p ∈ L, NdA.fits 1048576 p) := fun p hp => by
     obtain ⟨q, hq, rfl⟩ := List.getElem_of_mem hp
     exact unhide HQ q hq (by have := unhide HN; omega)
    go_wp2_with fail
    go_ret
    have hye := unhide HY
    rw [List.take_of_length_le (by have := unhide HN; omega)] at hye
    exact ⟨(y : Int), rfl, unhide HB, .inr ⟨y, rfl, hye, unhide HQ2⟩⟩
theorem Tryz.infNode : (Tryz.prog.info? 71).map (fun i => (i.zero, i.size, i.bytes)) = some (some (.agg #[.int .i64 0, .int .i64 0, .int .i64 0, .int .i64 0, .int .i64 0, .bool false, .slice none 0 0, .int .i64 0, .int .i64 0, .int .i64 0, .slice none 0 0, .slice none 0 0, .slice none 0 0]), 13, 168) := by kernel_rfl
set_option maxHeartbeats 4000000 in
set_option maxRecDepth 100000 in
theorem toNodes (v : Value) (n : Nat) (hn : n ≤ 1048576) (L : List NdA) (HN : Hid (L.length = n)) (HF : Hid (∀ p ∈ L, NdA.fits 1048576 p)) (w : World) (h : RRow cN nrows w v L) :
  Calls Tryz.prog 19 #[v] w fun e w' => e = .returned (.slice (some ⟨w.heap.size, 0, none⟩) n n) ∧ ∃ K : List NdA, K.map (·.n) = L.map (·.n) ∧ w'.ownsRow w.heap.size 71 13 (.slice (some ⟨w.heap.size, 0, none⟩) n n) n (K.flatMap cN) ∧ FOwn w' (w.heap.size + 1) (K.flatMap nrows) ∧ w.heap.size + 1 ≤ w'.heap.size ∧ Below w.heap.size w w' := by
 obtain ⟨i0, hi, hz0, hz1, hz2⟩ := info_parts Tryz.infNode
 obtain ⟨⟨a, cap, rfl, hr⟩, he⟩ := h
 have HR := hide hr
 have HE := hide he
 have HCL := hide (flat_len (c := cN) (z := 13) (fun p => rfl) L)
 rw [unhide HN]
 clear hr he
 go_enter Tryz.func19, Tryz.ntmps19
 go_wp2_with (at_make; refine wpList_make_full _ rfl _ _ 31 rfl w.heap.size 71 i0 (.agg #[.int .i64 0, .int .i64 0, .int .i64 0, .int .i64 0, .int .i64 0, .bool false, .slice none 0 0, .int .i64 0, .int .i64 0, .int .i64 0, .slice none 0 0, .slice none 0 0, .slice none 0 0]) 13 Tryz.underlying31 hi hz0 hz1 .i64 .i64 _ _ n rfl rfl rfl rfl (by rw [hz2]; omega) (by unfold maxLen; omega) (Nat.le_refl _) ?_; intro w1 hown hgrow)
 rw [show (Value.agg #[.int .i64 0, .int .i64 0, .int .i64 0, .int .i64 0, .int .i64 0, .bool false, .slice none 0 0, .int .i64 0, .int .i64 0, .int .i64 0, .slice none 0 0, .slice none 0 0, .slice none 0 0]).cells = #[.int .i64 0, .int .i64 0, .int .i64 0, .int .i64 0, .int .i64 0, .bool false, .slice none 0 0, .int .i64 0, .int .i64 0, .int .i64 0, .slice none 0 0, .slice none 0 0, .slice none 0 0] from rfl, made_flat (c := cN) (k := 13) (fun p => rfl) (by decide) zNd #[.int .i64 0, .int .i64 0, .int .i64 0, .int .i64 0, .int .i64 0, .bool false, .slice none 0 0, .int .i64 0, .int .i64 0, .int .i64 0, .slice none 0 0, .slice none 0 0, .slice none 0 0] rfl] at hown
 have hb1 := (Below.refl w.heap.size w).grown hgrow (Nat.le_refl _) (fun k hk => by cases hk)
 have hs1 : w.heap.size + 1 ≤ w1.heap.size := Nat.succ_le_of_lt (hown.lt w.heap.size rfl).2
 clear hgrow hi hz0 hz1 hz2
 go_loopw [4] (fun i wr => ∃ (k : Nat) (K : List NdA), k ≤ n ∧ i = .int .i64 k ∧ Hid (K.length = k) ∧ Hid (K.map (·.n) = (L.take k).map (·.n)) ∧ Hid (wr.ownsRow w.heap.size 71 13 (.slice (some ⟨w.heap.size, 0, none⟩) n n) n ((K ++ List.replicate (n - k) zNd).flatMap cN)) ∧ Hid (FOwn wr (w.heap.size + 1) (K.flatMap nrows)) ∧ Hid (w.heap.size + 1 ≤ wr.heap.size) ∧ Hid (Below w.heap.size w wr)) (fun i _ => n - (intOf i).toNat)
 case atStart => exact ⟨0, [], by omega, rfl, rfl, rfl, hown, FOwn.nil _ _, hs1, hb1⟩
 case round =>
  clear hown hb1 hs1
  obtain ⟨k, K, hk, rfl, HK, HM, HO, FA, HSZ, HB⟩ := hrel
  by_cases hlt : k < n
  ·have hlk : k < L.length := by rw [unhide HN]; exact hlt
   obtain ⟨b, off, ha, hblt, hc⟩ := (unhide HR).at (by rw [unhide HCL, unhide HN]; omega)
   subst ha
   have m1 := (row_N13 hc k hlk).below (unhide HB) hblt
   obtain ⟨P, hP⟩ : ∃ P, P = L[k] := ⟨_, rfl⟩
   have HP := hide hP
   rw [← hP] at m1
   clear hP hc
   have hfit := unhide HF _ (List.getElem_mem hlk)
   have hrd := nd_rows (unhide HE _ (List.getElem_mem hlk))
   have HPn : Hid (P.n = L[k].n) := by show _ = _; rw [unhide HP]
   rw [← unhide HP] at hfit hrd
   obtain ⟨f0, fv, fx, fg, fs⟩ := hfit
   have E0 := hide (hrd.1.below (unhide HB))
   have E1 := hide (hrd.2.1.below (unhide HB))
   have E2 := hide (hrd.2.2.1.below (unhide HB))
   have E3 := hide (hrd.2.2.2.below (unhide HB))
   clear HP
   have HT : Hid ((L.take (k + 1)).map (·.n) = (L.take k).map (·.n) ++ [P.n]) := by show _ = _; rw [unhide HPn, List.take_add_one, List.getElem?_eq_getElem hlk]; first | rfl | (rw [List.map_append]; rfl)
   clear HPn
   obtain ⟨⟨id, nd, tm, vt, ro, up, l, cm, el, wt, lv, lx, lg⟩, ea, ec, va, vc, xa, xc, ga, gc⟩ := P
   obtain ⟨n0, hnn0⟩ : ∃ n0, l.length = n0 := ⟨_, rfl⟩
   have HN0 : Hid (l.length = n0) := hnn0
   obtain ⟨nv, hnnv⟩ : ∃ nv, lv.length = nv := ⟨_, rfl⟩
   have HNv : Hid (lv.length = nv) := hnnv
   obtain ⟨nx, hnnx⟩ : ∃ nx, lx.length = nx := ⟨_, rfl⟩
   have HNx : Hid (lx.length = nx) := hnnx
   obtain ⟨ng, hnng⟩ : ∃ ng, lg.length = ng := ⟨_, rfl⟩
   have HNg : Hid (lg.length = ng) := hnng
   unfold N13 at m1
   simp only [hnn0, hnnv, hnnx, hnng] at m1
   have F0 : Hid (n0 ≤ 1048576) := by show _ ≤ _; rw [← hnn0]; exact f0
   have Fv : Hid (nv ≤ 1048576) := by show _ ≤ _; rw [← hnnv]; exact fv
   have Fx : Hid (nx ≤ 1048576) := by show _ ≤ _; rw [← hnnx]; exact fx
   have Fg : Hid (ng ≤ 1048576) := by show _ ≤ _; rw [← hnng]; exact fg
   have i1 : (k : Int) < (n : Int) := by omega
   have i0' : (0 : Int) ≤ (k : Int) := by omega
   have HZ : Hid (w.heap.size ≤ wr.heap.size) := (unhide HB).size
   clear hnn0 hnnv hnnx hnng f0 fv fx fg fs hrd HR HE HCL HF
   go_wp2_with fail
   refine (toNd id nd tm vt ro cm el wt up ea ec n0 l HN0 va vc nv lv HNv xa xc nx lx HNx ga gc ng lg HNg (unhide F0) (unhide Fv) (unhide Fx) (unhide Fg) _ (unhide E0) (unhide E1) (unhide E2) (unhide E3)).mono ?_
   rintro e w2 ⟨g0, gv, gx, gg, p1, p2, p3, rfl, h0, h1, h2, h3, l1, l2, l3, hb2⟩
   have H2 := hide ((heldZ_of (unhide HO)).below hb2 (Nat.le_refl _)).own
   obtain ⟨m, hm⟩ : ∃ m, n - k = m + 1 := ⟨n - k - 1, by omega⟩
   have HU : ∀ j u, j < 13 → (cN zNd)[j]? = some u → ((K ++ List.replicate (n - k) zNd).flatMap cN)[k * 13 + j]? = some u := fun j u hj hu => by
    have hKk : K.length = k := unhide HK
    have hl : k < (K ++ List.replicate (n - k) zNd).length := by simp; omega
    rw [flat_at (c := cN) (z := 13) (fun p => rfl) _ k hl j hj, ← hu]
    subst hKk
    rw [List.getElem_append_right (Nat.le_refl _)]; simp
   have c0 : w2.cell? ⟨w.heap.size, k * 13, none⟩ = some (.int .i64 0) := ((unhide H2).cellAt (k * 13) (by omega)).trans (HU 0 _ (by decide) rfl)
   have f0 := (unhide H2).frozenAt (k * 13)
   have c1 : w2.cell? ⟨w.heap.size, k * 13 + 1, none⟩ = some (.int .i64 0) := ((unhide H2).cellAt (k * 13 + 1) (by omega)).trans (HU 1 _ (by decide) rfl)
   have f1 := (unhide H2).frozenAt (k * 13 + 1)
   have c2 : w2.cell? ⟨w.heap.size, k * 13 + 2, none⟩ = some (.int .i64 0) := ((unhide H2).cellAt (k * 13 + 2) (by omega)).trans (HU 2 _ (by decide) rfl)
   have f2 := (unhide H2).frozenAt (k * 13 + 2)
   have c3 : w2.cell? ⟨w.heap.size, k * 13 + 3, none⟩ = some (.int .i64 0) := ((unhide H2).cellAt (k * 13 + 3) (by omega)).trans (HU 3 _ (by decide) rfl)
   have f3 := (unhide H2).frozenAt (k * 13 + 3)
   have c4 : w2.cell? ⟨w.heap.size, k * 13 + 4, none⟩ = some (.int .i64 0) := ((unhide H2).cellAt (k * 13 + 4) (by omega)).trans (HU 4 _ (by decide) rfl)
   have f4 := (unhide H2).frozenAt (k * 13 + 4)
   have c5 : w2.cell? ⟨w.heap.size, k * 13 + 5, none⟩ = some (.bool false) := ((unhide H2).cellAt (k * 13 + 5) (by omega)).trans (HU 5 _ (by decide) rfl)
   have f5 := (unhide H2).frozenAt (k * 13 + 5)
   have c6 : w2.cell? ⟨w.heap.size, k * 13 + 6, none⟩ = some (.slice none 0 0) := ((unhide H2).cellAt (k * 13 + 6) (by omega)).trans (HU 6 _ (by decide) rfl)
   have f6 := (unhide H2).frozenAt (k * 13 + 6)
   have c7 : w2.cell? ⟨w.heap.size, k * 13 + 7, none⟩ = some (.int .i64 0) := ((unhide H2).cellAt (k * 13 + 7) (by omega)).trans (HU 7 _ (by decide) rfl)
   have f7 := (unhide H2).frozenAt (k * 13 + 7)
   have c8 : w2.cell? ⟨w.heap.size, k * 13 + 8, none⟩ = some (.int .i64 0) := ((unhide H2).cellAt (k * 13 + 8) (by omega)).trans (HU 8 _ (by decide) rfl)
   have f8 := (unhide H2).frozenAt (k * 13 + 8)
   have c9 : w2.cell? ⟨w.heap.size, k * 13 + 9, none⟩ = some (.int .i64 0) := ((unhide H2).cellAt (k * 13 + 9) (by omega)).trans (HU 9 _ (by decide) rfl)
   have f9 := (unhide H2).frozenAt (k * 13 + 9)
   have c10 : w2.cell? ⟨w.heap.size, k * 13 + 10, none⟩ = some (.slice none 0 0) := ((unhide H2).cellAt (k * 13 + 10) (by omega)).trans (HU 10 _ (by decide) rfl)
   have f10 := (unhide H2).frozenAt (k * 13 + 10)
   have c11 : w2.cell? ⟨w.heap.size, k * 13 + 11, none⟩ = some (.slice none 0 0) := ((unhide H2).cellAt (k * 13 + 11) (by omega)).trans (HU 11 _ (by decide) rfl)
   have f11 := (unhide H2).frozenAt (k * 13 + 11)
   have c12 : w2.cell? ⟨w.heap.size, k * 13 + 12, none⟩ = some (.slice none 0 0) := ((unhide H2).cellAt (k * 13 + 12) (by omega)).trans (HU 12 _ (by decide) rfl)
   have f12 := (unhide H2).frozenAt (k * 13 + 12)
   have R0 := ((unhide H2).stored (k * 13) (.int .i64 id)).1
   have R1 := (R0.stored (k * 13 + 1) (.int .i64 nd)).1
   have R2 := (R1.stored (k * 13 + 2) (.int .i64 tm)).1
   have R3 := (R2.stored (k * 13 + 3) (.int .i64 vt)).1
   have R4 := (R3.stored (k * 13 + 4) (.int .i64 ro)).1
   have R5 := (R4.stored (k * 13 + 5) (.bool up)).1
   have R6 := (R5.stored (k * 13 + 6) (.slice (some ⟨g0, 0, none⟩) n0 n0)).1
   have R7 := (R6.stored (k * 13 + 7) (.int .i64 cm)).1
   have R8 := (R7.stored (k * 13 + 8) (.int .i64 el)).1
   have R9 := (R8.stored (k * 13 + 9) (.int .i64 wt)).1
   have R10 := (R9.stored (k * 13 + 10) (.slice (some ⟨gv, 0, none⟩) nv nv)).1
   have R11 := (R10.stored (k * 13 + 11) (.slice (some ⟨gx, 0, none⟩) nx nx)).1
   have R12 := (R11.stored (k * 13 + 12) (.slice (some ⟨gg, 0, none⟩) ng ng)).1
   have HS : setsA ((K ++ List.replicate (n - k) zNd).flatMap cN) (k * 13) [.int .i64 id, .int .i64 nd, .int .i64 tm, .int .i64 vt, .int .i64 ro, .bool up, .slice (some ⟨g0, 0, none⟩) n0 n0, .int .i64 cm, .int .i64 el, .int .i64 wt, .slice (some ⟨gv, 0, none⟩) nv nv, .slice (some ⟨gx, 0, none⟩) nx nx, .slice (some ⟨gg, 0, none⟩) ng ng] = ((K ++ [(⟨⟨id, nd, tm, vt, ro, up, l, cm, el, wt, lv, lx, lg⟩, some ⟨g0, 0, none⟩, n0, some ⟨gv, 0, none⟩, nv, some ⟨gx, 0, none⟩, nx, some ⟨gg, 0, none⟩, ng⟩ : NdA)]) ++ List.replicate m zNd).flatMap cN := by
    have hKk : K.length = k := unhide HK
    rw [setsA_put _ _ _ (by rw [flat_len (c := cN) (z := 13) (fun p => rfl)]; simp; omega), show [.int .i64 id, .int .i64 nd, .int .i64 tm, .int .i64 vt, .int .i64 ro, .bool up, .slice (some ⟨g0, 0, none⟩) n0 n0, .int .i64 cm, .int .i64 el, .int .i64 wt, .slice (some ⟨gv, 0, none⟩) nv nv, .slice (some ⟨gx, 0, none⟩) nx nx, .slice (some ⟨gg, 0, none⟩) ng ng] = cN (⟨⟨id, nd, tm, vt, ro, up, l, cm, el, wt, lv, lx, lg⟩, some ⟨g0, 0, none⟩, n0, some ⟨gv, 0, none⟩, nv, some ⟨gx, 0, none⟩, nx, some ⟨gg, 0, none⟩, ng⟩ : NdA) from by simp only [cN, show l.length = n0 from unhide HN0, show lv.length = nv from unhide HNv, show lx.length = nx from unhide HNx, show lg.length = ng from unhide HNg], flat_put (c := cN) (z := 13) (fun p => rfl) _ k (by simp; omega), hm]
    subst hKk
    exact congrArg (fun x => List.flatMap cN x) (fill_set K zNd _ m)
   have HS2 : setsA ((K ++ List.replicate (n - k) zNd).flatMap cN) (k * 13) [.int .i64 id, .int .i64 nd, .int .i64 tm, .int .i64 vt, .int .i64 ro, .bool up, .slice (some ⟨g0, 0, none⟩) n0 n0, .int .i64 cm, .int .i64 el, .int .i64 wt, .slice (some ⟨gv, 0, none⟩) nv nv, .slice (some ⟨gx, 0, none⟩) nx nx, .slice (some ⟨gg, 0, none⟩) ng ng] = ((K ++ [(⟨⟨id, nd, tm, vt, ro, up, l, cm, el, wt, lv, lx, lg⟩, some ⟨g0, 0, none⟩, n0, some ⟨gv, 0, none⟩, nv, some ⟨gx, 0, none⟩, nx, some ⟨gg, 0, none⟩, ng⟩ : NdA)]) ++ List.replicate (n - (k + 1)) zNd).flatMap cN := by rw [show n - (k + 1) = m from by omega]; exact HS
   have RZ := hide (own_eq R12 HS2)
   have FN : Hid (FOwn w2 wr.heap.size (nrows (⟨⟨id, nd, tm, vt, ro, up, l, cm, el, wt, lv, lx, lg⟩, some ⟨g0, 0, none⟩, n0, some ⟨gv, 0, none⟩, nv, some ⟨gx, 0, none⟩, nx, some ⟨gg, 0, none⟩, ng⟩ : NdA))) := by
    show FOwn _ _ _
    unfold nrows
    simp only [show l.length = n0 from unhide HN0, show lv.length = nv from unhide HNv, show lx.length = nx from unhide HNx, show lg.length = ng from unhide HNg]
    refine (FOwn.one (r := ⟨_, _, _, _, _⟩) h0.own).app (m := p1) (G := [_, _, _]) ((FOwn.one (r := ⟨_, _, _, _, _⟩) h1.own).app (m := p2) (G := [_, _]) ((FOwn.one (r := ⟨_, _, _, _, _⟩) h2.own).app (m := p3) (G := [_]) (FOwn.one (r := ⟨_, _, _, _, _⟩) h3.own) (by omega) ?_) (by omega) ?_) (by omega) ?_
    ·intro r hr j hj; obtain rfl := List.mem_singleton.1 hr; exact (h2.blk j hj).2
    ·intro r hr j hj; obtain rfl := List.mem_singleton.1 hr; exact (h1.blk j hj).2
    ·intro r hr j hj; obtain rfl := List.mem_singleton.1 hr; exact (h0.blk j hj).2
   have FA2 : Hid (FOwn w2 (w.heap.size + 1) ((K ++ [(⟨⟨id, nd, tm, vt, ro, up, l, cm, el, wt, lv, lx, lg⟩, some ⟨g0, 0, none⟩, n0, some ⟨gv, 0, none⟩, nv, some ⟨gx, 0, none⟩, nx, some ⟨gg, 0, none⟩, ng⟩ : NdA)]).flatMap nrows)) := by
    show FOwn _ _ _
    rw [List.flatMap_append, List.flatMap_singleton]
    exact ((unhide FA).below hb2).app (unhide FN) (unhide HSZ) fun r hr j hj => ((unhide FA).lt r hr j hj).2
   have HK2 : Hid ((K ++ [(⟨⟨id, nd, tm, vt, ro, up, l, cm, el, wt, lv, lx, lg⟩, some ⟨g0, 0, none⟩, n0, some ⟨gv, 0, none⟩, nv, some ⟨gx, 0, none⟩, nx, some ⟨gg, 0, none⟩, ng⟩ : NdA)]).length = k + 1) := by show _ = _; rw [List.length_append, show K.length = k from unhide HK]; rfl
   have HM2 : Hid ((K ++ [(⟨⟨id, nd, tm, vt, ro, up, l, cm, el, wt, lv, lx, lg⟩, some ⟨g0, 0, none⟩, n0, some ⟨gv, 0, none⟩, nv, some ⟨gx, 0, none⟩, nx, some ⟨gg, 0, none⟩, ng⟩ : NdA)]).map (·.n) = (L.take (k + 1)).map (·.n)) := by show _ = _; rw [unhide HT, ← unhide HM]; simp
   have HB2 := hide (((((((((((((((unhide HB).trans (hb2.mono (unhide HZ))).setCell (p := ⟨w.heap.size, k * 13, none⟩) (Nat.le_refl _) (.int .i64 id)).setCell (p := ⟨w.heap.size, k * 13 + 1, none⟩) (Nat.le_refl _) (.int .i64 nd)).setCell (p := ⟨w.heap.size, k * 13 + 2, none⟩) (Nat.le_refl _) (.int .i64 tm)).setCell (p := ⟨w.heap.size, k * 13 + 3, none⟩) (Nat.le_refl _) (.int .i64 vt)).setCell (p := ⟨w.heap.size, k * 13 + 4, none⟩) (Nat.le_refl _) (.int .i64 ro)).setCell (p := ⟨w.heap.size, k * 13 + 5, none⟩) (Nat.le_refl _) (.bool up)).setCell (p := ⟨w.heap.size, k * 13 + 6, none⟩) (Nat.le_refl _) (.slice (some ⟨g0, 0, none⟩) n0 n0)).setCell (p := ⟨w.heap.size, k * 13 + 7, none⟩) (Nat.le_refl _) (.int .i64 cm)).setCell (p := ⟨w.heap.size, k * 13 + 8, none⟩) (Nat.le_refl _) (.int .i64 el)).setCell (p := ⟨w.heap.size, k * 13 + 9, none⟩) (Nat.le_refl _) (.int .i64 wt)).setCell (p := ⟨w.heap.size, k * 13 + 10, none⟩) (Nat.le_refl _) (.slice (some ⟨gv, 0, none⟩) nv nv)).setCell (p := ⟨w.heap.size, k * 13 + 11, none⟩) (Nat.le_refl _) (.slice (some ⟨gx, 0, none⟩) nx nx)).setCell (p := ⟨w.heap.size, k * 13 + 12, none⟩) (Nat.le_refl _) (.slice (some ⟨gg, 0, none⟩) ng ng))
   have FB2 := hide ((((((((((((((unhide FA2).setC (a := ⟨w.heap.size, k * 13, none⟩) (Nat.lt_succ_self _) (.int .i64 id)).setC (a := ⟨w.heap.size, k * 13 + 1, none⟩) (Nat.lt_succ_self _) (.int .i64 nd)).setC (a := ⟨w.heap.size, k * 13 + 2, none⟩) (Nat.lt_succ_self _) (.int .i64 tm)).setC (a := ⟨w.heap.size, k * 13 + 3, none⟩) (Nat.lt_succ_self _) (.int .i64 vt)).setC (a := ⟨w.heap.size, k * 13 + 4, none⟩) (Nat.lt_succ_self _) (.int .i64 ro)).setC (a := ⟨w.heap.size, k * 13 + 5, none⟩) (Nat.lt_succ_self _) (.bool up)).setC (a := ⟨w.heap.size, k * 13 + 6, none⟩) (Nat.lt_succ_self _) (.slice (some ⟨g0, 0, none⟩) n0 n0)).setC (a := ⟨w.heap.size, k * 13 + 7, none⟩) (Nat.lt_succ_self _) (.int .i64 cm)).setC (a := ⟨w.heap.size, k * 13 + 8, none⟩) (Nat.lt_succ_self _) (.int .i64 el)).setC (a := ⟨w.heap.size, k * 13 + 9, none⟩) (Nat.lt_succ_self _) (.int .i64 wt)).setC (a := ⟨w.heap.size, k * 13 + 10, none⟩) (Nat.lt_succ_self _) (.slice (some ⟨gv, 0, none⟩) nv nv)).setC (a := ⟨w.heap.size, k * 13 + 11, none⟩) (Nat.lt_succ_self _) (.slice (some ⟨gx, 0, none⟩) nx nx)).setC (a := ⟨w.heap.size, k * 13 + 12, none⟩) (Nat.lt_succ_self _) (.slice (some ⟨gg, 0, none⟩) ng ng))
   have HSZ2 : Hid (w.heap.size + 1 ≤ w2.heap.size) := Nat.le_trans (unhide HSZ) hb2.size
   clear HU HS HS2 H2 R0 R1 R2 R3 R4 R5 R6 R7 R8 R9 R10 R11 R12 h0 h1 h2 h3 l1 l2 l3 hm hb2 FA2 FN FA HO HB HK HM HT m1 HSZ
   go_wp2_with fail
   go_roundw
   case rel => exact ⟨k + 1, _, by omega, by go_num, HK2, HM2, RZ, FB2, by simpa only [World.size_setCell] using HSZ2, HB2⟩
   case measure => simp [intOf]; omega
  ·obtain rfl : k = n := by omega
   have ho : wr.ownsRow w.heap.size 71 13 (.slice (some ⟨w.heap.size, 0, none⟩) k k) k (K.flatMap cN) := by have h := unhide HO; rw [Nat.sub_self] at h; simpa using h
   have hm : K.map (·.n) = L.map (·.n) := by have h := unhide HM; rw [List.take_of_length_le (by rw [unhide HN]; exact Nat.le_refl _)] at h; exact h
   have HO2 := hide ho
   have HM2 := hide hm
   clear ho hm HO HM
   go_wp2_with fail
   go_ret
   exact ⟨rfl, K, unhide HM2, unhide HO2, unhide FA, unhide HSZ, unhide HB⟩
set_option maxHeartbeats 4000000 in
set_option maxRecDepth 100000 in
theorem eqNodes (v1 v2 : Value) (n : Nat) (hn : n ≤ 1048576) (L1 L2 : List NdA) (HN1 : Hid (L1.length = n)) (HN2 : Hid (L2.length = n)) (HE : Hid (L1.map (·.n) = L2.map (·.n))) (HLE : Hid (∀ p ∈ L1, NdA.fits 1048576 p)) (w : World) (h1 : RRow cN nrows w v1 L1) (h2 : RRow cN nrows w v2 L2) :
  Calls Tryz.prog 25 #[v1, v2] w fun e w' => e = .returned (.bool true) ∧ Below w.heap.size w w' := by
 obtain ⟨⟨a, cap, rfl, hr1⟩, he1⟩ := h1
 obtain ⟨⟨c, cap2, rfl, hr2⟩, he2⟩ := h2
 have HR1 := hide hr1
 have HR2 := hide hr2
 have HE1 := hide he1
 have HE2 := hide he2
 rw [unhide HN1, unhide HN2]
 have nn : ((n : Int) != (n : Int)) = false := by simp
 clear hr1 hr2 he1 he2
 go_enter Tryz.func25, Tryz.ntmps25
 go_wp2_with fail
 go_loopw [5] (fun i wr => ∃ k : Nat, k ≤ n ∧ i = .int .i64 k ∧ Hid (Below w.heap.size w wr)) (fun i _ => n - (intOf i).toNat)
 case atStart => exact ⟨0, by omega, rfl, Below.refl _ _⟩
 case round =>
  obtain ⟨k, hk, rfl, HB⟩ := hrel
  by_cases hlt : k < n
  ·have hk1 : k < L1.length := by rw [unhide HN1]; exact hlt
   have hk2 : k < L2.length := by rw [unhide HN2]; exact hlt
   have he : L1[k].n = L2[k].n := by
    have e := congrArg (fun l => l[k]?) (unhide HE)
    simp only [List.getElem?_map, List.getElem?_eq_getElem hk1, List.getElem?_eq_getElem hk2] at e
    exact Option.some.inj e
   obtain ⟨b, off, rfl, hblt, hc1⟩ := (unhide HR1).at (by rw [flat_len (c := cN) (z := 13) (fun p => rfl) L1]; omega)
   obtain ⟨bd, og, rfl, hdlt, hc2⟩ := (unhide HR2).at (by rw [flat_len (c := cN) (z := 13) (fun p => rfl) L2]; omega)
   have m1 := (row_N13 hc1 k hk1).below (unhide HB) hblt
   have m2 := (row_N13 hc2 k hk2).below (unhide HB) hdlt
   have r1 := nd_rows (fun r hr => (unhide HE1 _ (List.getElem_mem hk1) r hr).below (unhide HB))
   have r2 := nd_rows (fun r hr => (unhide HE2 _ (List.getElem_mem hk2) r hr).below (unhide HB))
   have hne := unhide HLE _ (List.getElem_mem hk1)
   generalize L1[k] = p1 at he m1 r1 hne
   generalize L2[k] = p2 at he m2 r2
   obtain ⟨⟨id, nd, tm, vt, ro, up, l, cm, el, wt, lv, lx, lg⟩, ea1, ec1, va1, vc1, xa1, xc1, ga1, gc1⟩ := p1
   obtain ⟨g2, ea2, ec2, va2, vc2, xa2, xc2, ga2, gc2⟩ := p2
   simp only at he
   subst he
   obtain ⟨n0, hnn0⟩ : ∃ n0, l.length = n0 := ⟨_, rfl⟩
   obtain ⟨nv, hnnv⟩ : ∃ nv, lv.length = nv := ⟨_, rfl⟩
   obtain ⟨nx, hnnx⟩ : ∃ nx, lx.length = nx := ⟨_, rfl⟩
   obtain ⟨ng, hnng⟩ : ∃ ng, lg.length = ng := ⟨_, rfl⟩
   unfold N13 at m1 m2
   simp only [hnn0, hnnv, hnnx, hnng] at m1 m2
   have HN0 : Hid (l.length = n0) := hnn0
   have HNv : Hid (lv.length = nv) := hnnv
   have HNx : Hid (lx.length = nx) := hnnx
   have HNg : Hid (lg.length = ng) := hnng
   obtain ⟨f0, fv, fx, fg, fs⟩ := hne
   rw [hnn0] at f0; rw [hnnv] at fv; rw [hnnx] at fx; rw [hnng] at fg
   have E10 := hide r1.1
   have E1v := hide r1.2.1
   have E1x := hide r1.2.2.1
   have E1g := hide r1.2.2.2
   have E20 := hide r2.1
   have E2v := hide r2.2.1
   have E2x := hide r2.2.2.1
   have E2g := hide r2.2.2.2
   have hblt := Nat.lt_of_lt_of_le hblt (unhide HB).size
   have hdlt := Nat.lt_of_lt_of_le hdlt (unhide HB).size
   have i1 : (k : Int) < (n : Int) := by omega
   have i0 : (0 : Int) ≤ (k : Int) := by omega
   have K0 := And.intro m1 m2
   have TD : Hid (Below wr.heap.size wr wr.drew) := (Below.refl _ _).drew
   have KD : Hid (N13 wr b (off + k * 13) (⟨⟨id, nd, tm, vt, ro, up, l, cm, el, wt, lv, lx, lg⟩, ea1, ec1, va1, vc1, xa1, xc1, ga1, gc1⟩ : NdA) ∧ N13 wr bd (og + k * 13) (⟨⟨id, nd, tm, vt, ro, up, l, cm, el, wt, lv, lx, lg⟩, ea2, ec2, va2, vc2, xa2, xc2, ga2, gc2⟩ : NdA)) := by
    show _ ∧ _; unfold N13; simp only [hnn0, hnnv, hnnx, hnng]; exact ⟨m1, m2⟩
   clear hc1 hc2 hk1 hk2 hnn0 hnnv hnnx hnng r1 r2 m1 m2
   go_wp2_with fail
   refine wp_region_held_drew (S := fun w' => (w'.cell? ⟨b, off + k * 13, none⟩ = some (.int .i64 id) ∧ w'.cell? ⟨b, off + k * 13 + 1, none⟩ = some (.int .i64 nd) ∧ w'.cell? ⟨b, off + k * 13 + 2, none⟩ = some (.int .i64 tm) ∧ w'.cell? ⟨b, off + k * 13 + 3, none⟩ = some (.int .i64 vt) ∧ w'.cell? ⟨b, off + k * 13 + 4, none⟩ = some (.int .i64 ro) ∧ w'.cell? ⟨b, off + k * 13 + 5, none⟩ = some (.bool up) ∧ w'.cell? ⟨b, off + k * 13 + 6, none⟩ = some (.slice ea1 n0 ec1) ∧ w'.cell? ⟨b, off + k * 13 + 7, none⟩ = some (.int .i64 cm) ∧ w'.cell? ⟨b, off + k * 13 + 8, none⟩ = some (.int .i64 el) ∧ w'.cell? ⟨b, off + k * 13 + 9, none⟩ = some (.int .i64 wt) ∧ w'.cell? ⟨b, off + k * 13 + 10, none⟩ = some (.slice va1 nv vc1) ∧ w'.cell? ⟨b, off + k * 13 + 11, none⟩ = some (.slice xa1 nx xc1) ∧ w'.cell? ⟨b, off + k * 13 + 12, none⟩ = some (.slice ga1 ng gc1)) ∧ (w'.cell? ⟨bd, og + k * 13, none⟩ = some (.int .i64 id) ∧ w'.cell? ⟨bd, og + k * 13 + 1, none⟩ = some (.int .i64 nd) ∧ w'.cell? ⟨bd, og + k * 13 + 2, none⟩ = some (.int .i64 tm) ∧ w'.cell? ⟨bd, og + k * 13 + 3, none⟩ = some (.int .i64 vt) ∧ w'.cell? ⟨bd, og + k * 13 + 4, none⟩ = some (.int .i64 ro) ∧ w'.cell? ⟨bd, og + k * 13 + 5, none⟩ = some (.bool up) ∧ w'.cell? ⟨bd, og + k * 13 + 6, none⟩ = some (.slice ea2 n0 ec2) ∧ w'.cell? ⟨bd, og + k * 13 + 7, none⟩ = some (.int .i64 cm) ∧ w'.cell? ⟨bd, og + k * 13 + 8, none⟩ = some (.int .i64 el) ∧ w'.cell? ⟨bd, og + k * 13 + 9, none⟩ = some (.int .i64 wt) ∧ w'.cell? ⟨bd, og + k * 13 + 10, none⟩ = some (.slice va2 nv vc2) ∧ w'.cell? ⟨bd, og + k * 13 + 11, none⟩ = some (.slice xa2 nx xc2) ∧ w'.cell? ⟨bd, og + k * 13 + 12, none⟩ = some (.slice ga2 ng gc2))) (by kernel_rfl) K0 (fun hHeld => ?_)
   generalize wr.drew = wd at TD KD hHeld ⊢
   refine wtv 0 (oi := { dst := some 17, op := .move (.tmp 0), type := 31, pos := "exact.go:1992", after := #[], guard := none }) ?_
   refine wtv 1 (oi := { dst := some 18, op := .move (.tmp 5), type := 3, pos := "exact.go:1992", after := #[], guard := none }) ?_
   refine wtv 2 (oi := { dst := some 19, op := .indexAddr 31 (.tmp 17) (.tmp 18), type := 0, pos := "exact.go:1992", after := #[{ on := 0, ground := .data }, { on := 1, ground := .data }], guard := none }) ?_
   refine wtv 3 (oi := { dst := some 20, op := .load 71 (.tmp 19), type := 71, pos := "exact.go:1992", after := #[{ on := 2, ground := .data }], guard := none }) ?_
   refine wtv 4 (oi := { dst := some 21, op := .move (.tmp 1), type := 31, pos := "exact.go:1992", after := #[], guard := none }) ?_
   refine wtv 5 (oi := { dst := some 22, op := .move (.tmp 5), type := 3, pos := "exact.go:1992", after := #[], guard := none }) ?_
   refine wtv 6 (oi := { dst := some 23, op := .indexAddr 31 (.tmp 21) (.tmp 22), type := 0, pos := "exact.go:1992", after := #[{ on := 4, ground := .data }, { on := 5, ground := .data }], guard := none }) ?_
   refine wtv 7 (oi := { dst := some 24, op := .load 71 (.tmp 23), type := 71, pos := "exact.go:1992", after := #[{ on := 6, ground := .data }], guard := none }) ?_
   refine wpAnyH_ready (rs := [8]) (by kernel_rfl) (by simp) ?_
   refine AllReadyH.cons (o := { dst := some 25, op := .call { callee := .value (.func 49), args := #[.tmp 20, .tmp 24], argTypes := #[71, 71] }, type := 4, pos := "exact.go:1992", after := #[{ on := 3, ground := .data }, { on := 7, ground := .data }], guard := none }) rfl (fun K hK => ?_) AllReadyH.nil
   go_simp
   refine (eqNd id nd tm vt ro cm el wt up ea1 ea2 ec1 ec2 n0 l HN0 va1 va2 vc1 vc2 nv lv HNv xa1 xa2 xc1 xc2 nx lx HNx ga1 ga2 gc1 gc2 ng lg HNg f0 fv fx fg _ ((unhide E10).below (unhide TD)) ((unhide E1v).below (unhide TD)) ((unhide E1x).below (unhide TD)) ((unhide E1g).below (unhide TD)) ((unhide E20).below (unhide TD)) ((unhide E2v).below (unhide TD)) ((unhide E2x).below (unhide TD)) ((unhide E2g).below (unhide TD))).mono ?_
   rintro e w2 ⟨rfl, hb2⟩
   have T2 := hide ((unhide TD).trans (hb2.mono (unhide TD).size))
   have K2q := And.intro ((unhide KD).1.below (unhide T2) hblt) ((unhide KD).2.below (unhide T2) hdlt)
   unfold N13 at K2q
   simp only [show l.length = n0 from unhide HN0, show lv.length = nv from unhide HNv, show lx.length = nx from unhide HNx, show lg.length = ng from unhide HNg] at K2q
   have K2 := hide K2q
   clear K2q
   clear hb2
   go_wp2_with fail
   refine hK.out _ _ ?_ (fun hHeld8 => ?_)
   ·exact unhide K2
   clear hK K
   try simp only [Act.put, qqA, qqB, qqC]
   refine wtv 9 (oi := { dst := some 26, op := .unOp .not 4 (.tmp 25), type := 4, pos := "exact.go:1992", after := #[{ on := 8, ground := .data }], guard := none }) ?_
   refine wpAnyH_done (by kernel_rfl) ?_ _
   have B2 := hide ((unhide HB).trans ((unhide T2).mono (unhide HB).size))
   clear K0 TD KD K2 T2 HB hHeld hHeld8
   go_wp2_with fail
   go_roundw
   case rel => exact ⟨k + 1, by omega, by go_num, B2⟩
   case measure => simp [intOf]; omega
  ·obtain rfl : k = n := by omega
   go_wp2_with fail
   go_ret
   exact ⟨rfl, unhide HB⟩
end Go.Proofs.YtfogppnijdjakaaGreatDoor
