/- slices.Contains over integers, allDiffer: what the program answers. -/
import Derived.Test.YtgnecacoehedkaaDoorZOfI
namespace Go.Proofs.YtgnecacoehedkaaDoor
open Go.ChangeShapes Go.WideShapes Go.ChangeAt Go.RowKit
theorem cI_at (l : List Int) (k : Nat) (h : k < l.length) : (cI l)[k]? = some (.int .i64 l[k]) := by simp [cI, List.getElem?_eq_getElem h]
theorem mem_take_succ {l : List Int} {n : Int} {j : Nat} (h : j < l.length) (h1 : n ∉ l.take j) (h2 : ¬ n = l[j]) : n ∉ l.take (j + 1) := by
 rw [List.take_succ_eq_append_getElem h]
 simp only [List.mem_append, List.mem_singleton]
 rintro (h3 | h3)
 ·exact h1 h3
 ·exact h2 h3
set_option maxHeartbeats 400000 in
set_option maxRecDepth 100000 in
theorem iindex (a : Option Addr) (cap L : Nat) (l : List Int) (n : Int) (HL : Hid (l.length = L)) (hl : L ≤ 1000) (w : World) (hr : RowV w a (cI l)) :
  Calls Tryd.prog 60 #[.slice a L cap, .int .i64 n] w fun e w' => ∃ k : Int, e = .returned (.int .i64 k) ∧ -1 ≤ k ∧ decide (0 ≤ k) = decide (n ∈ l) ∧ w' = w := by
 have HR := hide hr
 clear hr
 go_enter Tryd.func60, Tryd.ntmps60
 go_wp2_with fail
 go_loopw [8] (fun i wr => ∃ j : Nat, j ≤ L ∧ i = .int .i64 j ∧ wr = w ∧ Hid (n ∉ l.take j)) (fun i _ => L - (intOf i).toNat)
 case atStart => exact ⟨0, by omega, rfl, rfl, by show n ∉ _; simp⟩
 case round =>
  obtain ⟨j, hj, rfl, rfl, HM⟩ := hrel
  by_cases hlt : j < L
  ·have hjl : j < l.length := by rw [unhide HL]; exact hlt
   obtain ⟨b, off, ha, hblt, hc⟩ := (unhide HR).at (by rw [cI_len, unhide HL]; omega)
   subst ha
   have x0 := hc j _ (cI_at l j hjl)
   obtain ⟨u, hu⟩ : ∃ u, u = l[j] := ⟨_, rfl⟩
   rw [← hu] at x0
   have hlt' : (j : Int) < (L : Int) := by omega
   have hj0 : (0 : Int) ≤ (j : Int) := by omega
   by_cases hn : n = u
   ·have HV : Hid (decide ((0 : Int) ≤ (j : Int)) = decide (n ∈ l)) := by
     show _ = _
     rw [decide_eq_true (by omega), decide_eq_true]
     rw [hn, hu]; exact List.getElem_mem hjl
    clear hc hu hjl HR
    subst hn
    go_wp2_with fail
    go_ret
    exact ⟨_, rfl, by omega, unhide HV, rfl⟩
   ·have HV := hide (mem_take_succ hjl (unhide HM) (by rw [← hu]; exact hn))
    clear hc hu hjl HR
    go_wp2_with fail
    go_roundw
    case rel => exact ⟨j + 1, by omega, by go_num, by first | rfl | trivial, HV⟩
    case measure => simp [intOf]; omega
  ·have ej : j = L := by omega
   have HV : Hid (decide ((0 : Int) ≤ -1) = decide (n ∈ l)) := by
    show _ = _
    have := unhide HM
    rw [List.take_of_length_le (by rw [unhide HL]; omega)] at this
    rw [decide_eq_false this]; decide
   go_wp2_with fail
   go_ret
   exact ⟨_, rfl, by omega, unhide HV, rfl⟩
set_option maxHeartbeats 400000 in
set_option maxRecDepth 100000 in
theorem icontains (a : Option Addr) (cap L : Nat) (l : List Int) (n : Int) (R : Bool) (HRR : Hid (R = decide (n ∈ l))) (HL : Hid (l.length = L)) (hl : L ≤ 1000) (w : World) (hr : RowV w a (cI l)) :
  Calls Tryd.prog 41 #[.slice a L cap, .int .i64 n] w fun e w' => e = .returned (.bool R) ∧ w' = w := by
 go_enter Tryd.func41, Tryd.ntmps41
 go_wp2_with fail
 refine (iindex a cap L l n HL hl w hr).mono ?_
 rintro e w1 ⟨k, rfl, hk, hd, rfl⟩
 have hR : R = decide (0 ≤ k) := (unhide HRR).trans hd.symm
 clear HRR hd
 subst hR
 go_wp2_with fail
 go_ret
 exact ⟨rfl, rfl⟩
theorem nodup_take_succ {l : List Int} {j : Nat} (h : j < l.length) (h1 : (l.take j).Nodup) (h2 : l[j] ∉ l.take j) : (l.take (j + 1)).Nodup := by
 rw [List.take_succ_eq_append_getElem h, List.nodup_append]
 refine ⟨h1, by simp, fun x hx y hy e => ?_⟩
 simp only [List.mem_singleton] at hy
 rw [e, hy] at hx
 exact h2 hx
theorem nodup_not {l : List Int} {j : Nat} (h : j < l.length) (h2 : l[j] ∈ l.take j) : ¬ l.Nodup := fun hn => by
 have h3 : (l.take (j + 1)).Nodup := hn.sublist (List.take_sublist _ _)
 rw [List.take_succ_eq_append_getElem h, List.nodup_append] at h3
 exact h3.2.2 _ h2 _ (by simp) rfl
set_option maxHeartbeats 400000 in
set_option maxRecDepth 100000 in
theorem idiffer (a : Option Addr) (cap L : Nat) (l : List Int) (R : Bool) (HRR : Hid (R = decide l.Nodup)) (HL : Hid (l.length = L)) (hl : L ≤ 1000) (hcap : L ≤ cap) (w : World) (hr : RowV w a (cI l)) :
  Calls Tryd.prog 38 #[.slice a L cap] w fun e w' => e = .returned (.bool R) ∧ w' = w := by
 have HR := hide hr
 clear hr
 go_enter Tryd.func38, Tryd.ntmps38
 go_wp2_with fail
 go_loopw [7] (fun i wr => ∃ j : Nat, j ≤ L ∧ i = .int .i64 j ∧ wr = w ∧ Hid (l.take j).Nodup) (fun i _ => L - (intOf i).toNat)
 case atStart => exact ⟨0, by omega, rfl, rfl, by show (l.take 0).Nodup; simp⟩
 case round =>
  obtain ⟨j, hj, rfl, rfl, HM⟩ := hrel
  by_cases hlt : j < L
  ·have hjl : j < l.length := by rw [unhide HL]; exact hlt
   obtain ⟨b, off, ha, hblt, hc⟩ := (unhide HR).at (by rw [cI_len, unhide HL]; omega)
   subst ha
   have x0 := hc j _ (cI_at l j hjl)
   have HRT : Hid (RowV wr (some ⟨b, off, none⟩) (cI (l.take j))) := .inr ⟨b, off, rfl, hblt, fun i u hu => hc i u (by
    have hi : i < j := by have := (List.getElem?_eq_some_iff.1 hu).1; rw [cI_len, List.length_take] at this; omega
    rw [cI_at _ i (by rw [List.length_take]; omega)] at hu
    rw [cI_at _ i (by omega), ← hu, List.getElem_take])⟩
   have HLT : Hid ((l.take j).length = j) := by show _ = _; rw [List.length_take]; omega
   obtain ⟨u, hu⟩ : ∃ u, u = l[j] := ⟨_, rfl⟩
   rw [← hu] at x0
   have hlt' : (j : Int) < (L : Int) := by omega
   have hj0 : (0 : Int) ≤ (j : Int) := by omega
   have hj1 : (j : Int) ≤ (cap : Int) := by omega
   have hj2 : j ≤ cap := by omega
   have hj3 : j ≤ 1000 := by omega
   by_cases hm : u ∈ l.take j
   ·have hR : R = false := by rw [unhide HRR]; exact decide_eq_false (nodup_not hjl (by rw [← hu]; exact hm))
    have T := hide (icontains (some ⟨b, off, none⟩) cap j (l.take j) u true (decide_eq_true hm).symm HLT hj3 wr (unhide HRT))
    clear hc hu hjl HR HRR hm
    subst hR
    go_wp2_with fail
    refine (unhide T).mono ?_
    rintro e w1 ⟨rfl, rfl⟩
    go_wp2_with fail
    go_ret
    exact ⟨rfl, rfl⟩
   ·have HV := hide (nodup_take_succ hjl (unhide HM) (by rw [← hu]; exact hm))
    have T := hide (icontains (some ⟨b, off, none⟩) cap j (l.take j) u false (decide_eq_false hm).symm HLT hj3 wr (unhide HRT))
    clear hc hu hjl HR HRR hm
    go_wp2_with fail
    refine (unhide T).mono ?_
    rintro e w1 ⟨rfl, rfl⟩
    go_wp2_with fail
    go_roundw
    case rel => exact ⟨j + 1, by omega, by go_num, by first | rfl | trivial, HV⟩
    case measure => simp [intOf]; omega
  ·have hR : R = true := by
    rw [unhide HRR]
    have := unhide HM
    rw [List.take_of_length_le (by rw [unhide HL]; omega)] at this
    exact decide_eq_true this
   clear HRR
   subst hR
   go_wp2_with fail
   go_ret
   exact ⟨rfl, rfl⟩
end Go.Proofs.YtgnecacoehedkaaDoor
