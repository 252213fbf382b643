/- l05OK, LayoutOK: what the specification and the program answer. -/
import Derived.Test.YtgnecacoehedkaaDoorZTofI
import Derived.Test.YtgnecacoehedkaaDoorZWkT
import Derived.Test.YtgnecacoehedkaaDoorZG21
import Derived.BigQuiet
namespace Go.Proofs.YtgnecacoehedkaaDoor
open Go.ChangeShapes Go.WideShapes Go.ChangeAt Go.RowKit
theorem below_drewN {B n : Nat} {w w' : World} (h : Below B w w') : Below B w (w'.drewN n) := ⟨h.os, h.tape, h.output, h.size, h.block⟩
/-- No pane among the first i parts stands twice. -/
def ndL (l : List Pt) (i : Nat) : Prop := ∀ (j k : Nat) (hj : j < l.length) (hk : k < j), j < i → ¬ l[j].pane = 0 → ¬ l[j].pane = (l[k]'(Nat.lt_trans hk hj)).pane
def ndR (l : List Pt) (i m : Nat) : Prop := ∀ (hi : i < l.length) (k : Nat) (hk : k < i), k < m → ¬ l[i].pane = 0 → ¬ l[i].pane = (l[k]'(Nat.lt_trans hk hi)).pane
theorem ndL_zero (l : List Pt) : ndL l 0 := fun _ _ _ _ h => by omega
theorem ndR_zero (l : List Pt) (i : Nat) : ndR l i 0 := fun _ _ _ h => by omega
theorem ndL_succ {l : List Pt} {i : Nat} (h : ndL l i) (h2 : ndR l i i) : ndL l (i + 1) := fun j k hj hk hji h0 => by
 by_cases e : j < i
 ·exact h j k hj hk e h0
 ·have : j = i := by omega
  subst this
  exact h2 hj k hk hk h0
theorem ndR_succ {l : List Pt} {i m : Nat} (hm : m < i) (hi : i < l.length) (h : ndR l i m) (h2 : ¬ (¬ l[i].pane = 0 ∧ l[i].pane = (l[m]'(Nat.lt_trans hm hi)).pane)) : ndR l i (m + 1) := fun hi' k hk hkm h0 => by
 by_cases e : k < m
 ·exact h hi' k hk e h0
 ·have : k = m := by omega
  subst this
  exact fun e => h2 ⟨h0, e⟩
theorem ndL_nodup {l : List Pt} : ndL l l.length ↔ ((l.map Pt.pane).filter (fun n => n != 0)).Nodup := by
 rw [List.Nodup, List.pairwise_filter, List.pairwise_map, List.pairwise_iff_getElem]
 constructor
 ·intro h i j hi hj hij h1 h2 e
  exact h j i hj hij hj (by simpa using h2) e.symm
 ·intro h j k hj hk _ h0 e
  exact h k j (by omega) hj hk (by rw [← e]; simpa using h0) (by simpa using h0) e.symm
theorem ok_size {l : List Pt} {W H : Int} (e : sizeB W H = false) : (tofS l W H).isSome = false := by rw [tofS_size e]; rfl
theorem ok_long {l : List Pt} {W H : Int} (e : ¬ (1 ≤ l.length ∧ l.length ≤ 11)) : (tofS l W H).isSome = false := by
 by_cases h : l.length ≤ 11
 ·have hl : l = [] := List.length_eq_zero_iff.1 (by omega)
  subst hl
  rw [tofS_none (by rw [prs]; rfl)]; rfl
 ·rw [tofS_long h]; rfl
theorem ok_wk {l : List Pt} {W H : Int} (hs : sizeB W H = true) (hl : l.length ≤ 11) (e : ¬ wk 12 l 0 W H = some l.length) : (tofS l W H).isSome = false := by
 cases hp : prs 12 l 0 with
 | none => rw [tofS_none hp]; rfl
 | some t =>
  rw [tofS_some hs hl hp]
  rw [if_neg]
  ·rfl
  ·rintro ⟨h1, h2, h3⟩
   apply e
   unfold wk
   rw [hp]
   simp only
   rw [if_pos h3, h1, Nat.zero_add]
theorem ok_nd {l : List Pt} {W H : Int} (hs : sizeB W H = true) (hl : l.length ≤ 11) (e : wk 12 l 0 W H = some l.length) : (tofS l W H).isSome = true ↔ ndL l l.length := by
 unfold wk at e
 cases hp : prs 12 l 0 with
 | none => rw [hp] at e; cases e
 | some t =>
  rw [hp] at e
  simp only at e
  split at e
  ·rename_i hf
   have hc : t.cnt = l.length := by injection e with e; omega
   obtain ⟨s1, s2, s3⟩ := prs_spec _ _ _ _ hp
   have hfl : l = t.flat 0 := by simpa [hc] using s2
   rw [tofS_some hs hl hp, ndL_nodup]
   rw [show ((l.map Pt.pane).filter (fun n => n != 0)) = t.panes from by rw [hfl]; exact flat_panes t 0 s3]
   constructor
   ·intro h
    split at h
    ·rename_i h2; exact h2.2.1
    ·cases h
   ·intro h
    rw [if_pos ⟨hc, h, hf⟩]; rfl
  ·cases e
set_option maxHeartbeats 2000000 in
set_option maxRecDepth 100000 in
theorem sl05ok (a : Option Addr) (cap L : Nat) (l : List Pt) (HLL : Hid (l.length = L)) (hl : L ≤ 1048576) (W H : Int) (R : Bool) (HRR : Hid (R = (tofS l W H).isSome)) (w : World) (hr : RowV w a (cPt l)) :
  Calls Tryd.prog 15 #[.agg #[.slice a L cap], .int .i64 W, .int .i64 H] w fun e w' => e = .returned (.bool R) ∧ Below w.heap.size w w' := by
 have HB0 := hide (Go.Joins.below_alloc1 w (.cells #[.slice a L cap] 26))
 have BA := hide (BF.new w #[.slice a L cap] 26)
 have HR := hide hr
 clear hr
 cases hs : sizeB W H with
 | false =>
  have hRf : R = false := (unhide HRR).trans (ok_size hs)
  clear HRR
  subst hRf
  go_enter Tryd.func15, Tryd.ntmps15
  go_wp2_with (go_at_call 33; refine (ssize W H _).mono ?_; rintro e w1 ⟨rfl, rfl⟩; rw [hs])
  go_ret
  exact ⟨rfl, unhide HB0⟩
 | true =>
  cases hL : inB (L : Int) 1 11 with
  | false =>
   have hRf : R = false := (unhide HRR).trans (ok_long (by rw [unhide HLL]; intro h; have h2 : inB (L : Int) 1 11 = true := in_yes (by omega); rw [hL] at h2; cases h2))
   clear HRR
   subst hRf
   go_enter Tryd.func15, Tryd.ntmps15
   go_wp2_with (first | (go_at_call 33; refine (ssize W H _).mono ?_; rintro e w1 ⟨rfl, rfl⟩; rw [hs]) | (go_at_call 21; refine (sin (L : Int) 1 11 _).mono ?_; rintro e w1 ⟨rfl, rfl⟩; rw [hL]))
   go_ret
   exact ⟨rfl, unhide HB0⟩
  | true =>
   have hL11 : L ≤ 11 := by have : (1 : Int) ≤ L ∧ (L : Int) ≤ 11 := of_decide_eq_true hL; omega
   obtain ⟨hW1, hW2, hH1, hH2⟩ : 2 ≤ W ∧ W ≤ 24 ∧ 2 ≤ H ∧ H ≤ 10 := of_decide_eq_true hs
   obtain ⟨R1, hR1⟩ : ∃ R1, R1 = wk 12 l 0 W H := ⟨_, rfl⟩
   have T := hide (swalk a cap l L HLL hL11 12 0 W H R1 _ hR1 ((unhide HR).below (unhide HB0)) (by omega) (by omega) (by omega) (by omega) (by omega) (by omega))
   have HR1 := hide hR1
   clear hR1
   go_enter Tryd.func15, Tryd.ntmps15
   go_wp2_with (first | (go_at_call 33; refine (ssize W H _).mono ?_; rintro e w1 ⟨rfl, rfl⟩; rw [hs]) | (go_at_call 21; refine (sin (L : Int) 1 11 _).mono ?_; rintro e w1 ⟨rfl, rfl⟩; rw [hL]))
   refine (unhide T).mono ?_
   clear T
   rintro e w2 ⟨h2, hb2⟩
   have HB2 := hide ((unhide HB0).trans (hb2.mono (unhide HB0).size))
   have A2 := hide ((unhide BA).below hb2)
   have a2 := (unhide A2).S
   clear hb2
   cases R1 with
   | none =>
    obtain ⟨x, rfl⟩ := h2
    have hRf : R = false := (unhide HRR).trans (ok_wk hs (by rw [unhide HLL]; exact hL11) (by rw [← unhide HR1]; simp))
    clear HRR
    subst hRf
    go_wp2_with fail
    go_ret
    exact ⟨rfl, unhide HB2⟩
   | some n =>
    have h3 : e = .returned (.tuple #[.int .i64 (n : Int), .bool true]) := h2
    subst h3
    clear h2
    by_cases hn : n = L
    ·subst hn
     have HND := hide (ok_nd hs (by rw [unhide HLL]; exact hL11) (by rw [← unhide HR1, unhide HLL]))
     have hl11 : n ≤ 11 := hL11
     clear hL hL11 hs HR1
     go_wp2_with fail
     go_loopw [9] (fun i wr => ∃ j : Nat, j ≤ n ∧ i = .int .i64 j ∧ Hid (ndL l j) ∧ Hid (Below w2.heap.size w2 wr)) (fun i _ => n - (intOf i).toNat)
     case atStart => exact ⟨0, by omega, rfl, ndL_zero l, Below.refl _ _⟩
     case round =>
      obtain ⟨j, hj, rfl, HN, HB⟩ := hrel
      have A3 := hide ((unhide A2).below (unhide HB))
      have a3 := (unhide A3).S
      by_cases hlt : j < n
      ·have hlt' : (j : Int) < (n : Int) := by omega
       have hj0 : (0 : Int) ≤ (j : Int) := by omega
       have hj1 : (j : Int) ≤ 11 := by omega
       have hjl : j < l.length := by rw [unhide HLL]; exact hlt
       obtain ⟨b, off, ha, hblt, hc⟩ := (unhide HR).at (by rw [cPt_len, unhide HLL]; omega)
       subst ha
       have HC := hide hc
       have hb2 : b < w2.heap.size := Nat.lt_of_lt_of_le hblt (unhide HB2).size
       obtain ⟨u, hu⟩ : ∃ u, u = l[j].pane := ⟨_, rfl⟩
       have HU := hide hu
       clear hc hu a2
       go_wp2_with fail
       go_loopw [10] (fun i wq => ∃ m : Nat, m ≤ j ∧ i = .int .i64 m ∧ Hid (ndR l j m) ∧ Hid (Below w2.heap.size w2 wq)) (fun i _ => j - (intOf i).toNat)
       case atStart => exact ⟨0, by omega, rfl, ndR_zero l j, HB⟩
       case round =>
        obtain ⟨m, hm, rfl, HM, HQ⟩ := hrel
        have A4 := hide ((unhide A2).below (unhide HQ))
        have a4 := (unhide A4).S
        clear a3
        by_cases hmj : m < j
        ·have hmj' : (m : Int) < (j : Int) := by omega
         have hmn' : (m : Int) < (n : Int) := by omega
         have hm0 : (0 : Int) ≤ (m : Int) := by omega
         have hml : m < l.length := Nat.lt_trans hmj (hjl)
         obtain ⟨v, hv⟩ : ∃ v, v = l[m].pane := ⟨_, rfl⟩
         have x0 := (rowPt (unhide HC) j (hjl)).1
         have z0 := (rowPt (unhide HC) m hml).1
         rw [← unhide HU] at x0
         rw [← hv] at z0
         have x1 : wr.cell? ⟨b, off + j * 5, none⟩ = some (.int .i64 u) := ((unhide HQ).cell (p := ⟨b, off + j * 5, none⟩) hb2).trans (((unhide HB2).cell (p := ⟨b, off + j * 5, none⟩) hblt).trans x0)
         have z1 : wr.cell? ⟨b, off + m * 5, none⟩ = some (.int .i64 v) := ((unhide HQ).cell (p := ⟨b, off + m * 5, none⟩) hb2).trans (((unhide HB2).cell (p := ⟨b, off + m * 5, none⟩) hblt).trans z0)
         clear x0 z0
         by_cases hu0 : u = 0
         ·subst hu0
          have HM2 := hide (ndR_succ hmj hjl (unhide HM) (fun h => h.1 (unhide HU).symm))
          clear hv
          go_wp2_with fail
          go_quiet (fail)
          go_wp2_with fail
          go_roundw
          case rel => exact ⟨m + 1, by omega, by go_num, HM2, below_drewN (unhide HQ)⟩
          case measure => simp [intOf]; omega
         ·have t1 : (u != 0) = true := by simpa using hu0
          by_cases huv : u = v
          ·have t2 : (u == u) = true := by simp
           have hRf : R = false := by
            have h1 := unhide HND
            have h2 : ¬ ndL l l.length := fun h => h j m hjl hmj hjl (by rw [← unhide HU]; exact hu0) (by rw [← unhide HU, ← hv]; exact huv)
            rw [unhide HRR]
            cases h3 : (tofS l W H).isSome with
            | false => rfl
            | true => exact absurd (h1.1 h3) h2
           clear HRR HND hv
           subst hRf huv
           clear hu0
           go_wp2_with fail
           go_quiet (fail)
           go_wp2_with fail
           go_ret
           exact ⟨rfl, (unhide HB2).trans ((below_drewN (unhide HQ)).mono (unhide HB2).size)⟩
          ·have t2 : (u == v) = false := by simpa using huv
           have HM2 := hide (ndR_succ hmj hjl (unhide HM) (fun h => huv (by rw [unhide HU, hv]; exact h.2)))
           clear hv
           go_wp2_with fail
           go_quiet (fail)
           go_wp2_with fail
           go_roundw
           case rel => exact ⟨m + 1, by omega, by go_num, HM2, below_drewN (unhide HQ)⟩
           case measure => simp [intOf]; omega
        ·have em : m = j := by omega
         have HN2 := hide (ndL_succ (unhide HN) (by have := unhide HM; rw [em] at this; exact this))
         go_wp2_with fail
         go_roundw
         case rel => exact ⟨j + 1, by omega, by go_num, HN2, HQ⟩
         case measure => simp [intOf]; omega
      ·have ej : j = n := by omega
       have hRt : R = true := by
        rw [unhide HRR]
        have h1 := unhide HN
        rw [ej, ← unhide HLL] at h1
        exact (unhide HND).2 h1
       clear HRR HND
       subst hRt
       go_wp2_with fail
       go_ret
       exact ⟨rfl, (unhide HB2).trans ((unhide HB).mono (unhide HB2).size)⟩
    ·have hRf : R = false := (unhide HRR).trans (ok_wk hs (by rw [unhide HLL]; exact hL11) (by rw [← unhide HR1, unhide HLL]; intro h; injection h with h; exact hn h))
     have hne : ¬ (n : Int) = (L : Int) := by omega
     clear HRR
     subst hRf
     go_wp2_with fail
     go_ret
     exact ⟨rfl, unhide HB2⟩
end Go.Proofs.YtgnecacoehedkaaDoor
