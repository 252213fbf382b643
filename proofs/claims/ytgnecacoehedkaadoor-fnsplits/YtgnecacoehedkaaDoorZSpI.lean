/- (*tree).is, (*tree).splitOf: what the program answers. -/
import Derived.Test.YtgnecacoehedkaaDoorZSpM
import Derived.Test.YtgnecacoehedkaaDoorZTreI
import Derived.BigQuiet
namespace Go.Proofs.YtgnecacoehedkaaDoor
open Go.ChangeShapes Go.WideShapes Go.ChangeAt Go.RowKit
theorem iis (t : Tr) (n : Int) (b : Nat) (bs : List Nat) (R : Bool) (hR : R = t.is n) (w : World) (ht : TreeAt iBx w t b bs) : Calls Tryd.prog 52 #[.pointer (some ⟨b, 0, none⟩), .int .i64 n] w fun e w' => e = .returned (.bool R) ∧ w' = w := by
 cases t using Tr.ind with
 | pane m =>
  obtain ⟨rfl, hbf⟩ := ht
  have c0 : w.cell? ⟨b, 0, none⟩ = some (.int .i64 m) := hbf.S 0
  have HBF := hide hbf
  have hR' : R = (m == n) := hR
  clear hbf hR
  subst hR'
  go_enter Tryd.func52, Tryd.ntmps52
  go_wp2_with fail
  refine (ipane_pane b m _ (unhide HBF)).mono ?_
  rintro e w1 ⟨rfl, rfl⟩
  go_wp2_with fail
  go_ret
  exact ⟨rfl, rfl⟩
 | split r s l t _ _ =>
  obtain ⟨bl, br, Ls, Rs, rfl, hbf, htl, htr⟩ := ht
  have HBF := hide hbf
  have hR' : R = false := hR
  clear hbf htl htr hR
  subst hR'
  go_enter Tryd.func52, Tryd.ntmps52
  go_wp2_with fail
  refine (ipane_split b r s bl br _ (unhide HBF)).mono ?_
  rintro e w1 ⟨rfl, rfl⟩
  go_wp2_with fail
  go_ret
  exact ⟨rfl, rfl⟩
theorem below_drewN2 {B n : Nat} {w w' : World} (h : Below B w w') : Below B w (w'.drewN n) := ⟨h.os, h.tape, h.output, h.size, h.block⟩
def spT (w : World) (t : Tr) (b : Nat) (bs : List Nat) (n : Int) (e : Ending) : Prop :=
 if spC t n = 0 then ∃ sb ob, e = .returned (.tuple #[.pointer (some ⟨sb, 0, none⟩), .pointer (some ⟨ob, 0, none⟩), .int .i64 0]) ∧ MoveOK iBx w t b bs n sb ∧ KillOK iBx w t b bs n sb ob
 else e = .returned (.tuple #[.pointer none, .pointer none, .int .i64 (spC t n)])
theorem spT_yes {w : World} {t : Tr} {b : Nat} {bs : List Nat} {n : Int} {e : Ending} (h : spC t n = 0) (h2 : ∃ sb ob, e = .returned (.tuple #[.pointer (some ⟨sb, 0, none⟩), .pointer (some ⟨ob, 0, none⟩), .int .i64 0]) ∧ MoveOK iBx w t b bs n sb ∧ KillOK iBx w t b bs n sb ob) : spT w t b bs n e := by unfold spT; rw [if_pos h]; exact h2
theorem spT_no {w : World} {t : Tr} {b : Nat} {bs : List Nat} {n c : Int} {e : Ending} (h : spC t n = c) (hc : ¬ c = 0) (h2 : e = .returned (.tuple #[.pointer none, .pointer none, .int .i64 c])) : spT w t b bs n e := by unfold spT; rw [if_neg (by rw [h]; exact hc), h]; exact h2
set_option maxHeartbeats 1000000 in
set_option maxRecDepth 100000 in
theorem isplitof (n : Int) : ∀ (t : Tr) (b : Nat) (bs : List Nat) (w : World), TreeAt iBx w t b bs → bs.Nodup → t.szok → t.panes.Nodup →
  Calls Tryd.prog 25 #[.pointer (some ⟨b, 0, none⟩), .int .i64 n] w fun e w' => spT w' t b bs n e ∧ Below w.heap.size w w' := by
 intro t
 induction t using Tr.ind with
 | pane m =>
  intro b bs w ht hnd hsz hpn
  have HT := hide ht
  obtain ⟨rfl, hbf⟩ := ht
  have HBF := hide hbf
  clear hbf
  by_cases hm : (Tr.pane m).is n = true
  ·go_enter Tryd.func25, Tryd.ntmps25
   go_wp2_with fail
   refine (iis (.pane m) n b [b] true hm.symm _ (unhide HT)).mono ?_
   rintro e w1 ⟨rfl, rfl⟩
   go_wp2_with fail
   go_ret3
   exact ⟨spT_no (c := 17) (by unfold spC; rw [if_pos hm]) (by decide) rfl, Below.refl _ _⟩
  ·have hm' : (Tr.pane m).is n = false := by simpa using hm
   have hc : spC (.pane m) n = 5 := by unfold spC; rw [if_neg hm, if_neg (fun h => hm (pane_is h))]
   have HC := hide hc
   clear hc hm
   go_enter Tryd.func25, Tryd.ntmps25
   go_wp2_with fail
   refine (iis (.pane m) n b [b] false hm'.symm _ (unhide HT)).mono ?_
   rintro e w1 ⟨rfl, rfl⟩
   go_wp2_with fail
   refine (ipane_pane b m _ (unhide HBF)).mono ?_
   rintro e w2 ⟨rfl, rfl⟩
   go_wp2_with fail
   go_ret3
   exact ⟨spT_no (c := 5) (unhide HC) (by decide) rfl, Below.refl _ _⟩
 | split r s l t ihl ihr =>
  intro b bs w ht hnd hsz hpn
  have HT := hide ht
  obtain ⟨bl, br, Ls, Rs, rfl, hbf, htl, htr⟩ := ht
  have HND := hide hnd
  rw [List.nodup_cons, List.mem_append, List.nodup_append] at hnd
  simp only [Tr.panes] at hpn
  rw [List.nodup_append] at hpn
  obtain ⟨hs1, hs2, hs3⟩ := hsz
  have HBF := hide hbf
  have HTL := hide htl
  have HTR := hide htr
  have c3 : w.cell? ⟨b, 3, none⟩ = some (.pointer (some ⟨bl, 0, none⟩)) := hbf.S 3
  have c4 : w.cell? ⟨b, 4, none⟩ = some (.pointer (some ⟨br, 0, none⟩)) := hbf.S 4
  have T1 := hide (ihl bl Ls w htl hnd.2.1 hs2 hpn.1)
  have T2 := hide (fun w0 (h0 : TreeAt iBx w0 t br Rs) => ihr br Rs w0 h0 hnd.2.2.1 hs3 hpn.2.1)
  have HP := hide hpn.2.2
  have HS1 := hide hs1
  have hc0 : ∀ x : Int, x = 0 → spC (Tr.split r s l t) n = x → spC (Tr.split r s l t) n = 0 := fun x h h2 => h2.trans h
  clear hc0 hbf htl htr ihl ihr hnd hs1 hs2 hs3 hpn
  by_cases h1 : l.is n = true
  ·have HC : Hid (spC (.split r s l t) n = 0) := by show _ = _; unfold spC; rw [if_neg (by simp [Tr.is]), if_pos (by simp [Tr.panes, is_mem h1])]
   have HM := hide (fun w0 (hb0 : Below w.heap.size w w0) => moveOK_here (unhide HND) (unhide HS1) ((unhide HBF).below hb0) ((unhide HTL).below hb0) ((unhide HTR).below hb0) (.inl h1))
   have HK := hide (fun w0 (hb0 : Below w.heap.size w w0) => killOK_left (unhide HND) ((unhide HBF).below hb0) ((unhide HTR).below hb0) h1)
   go_enter Tryd.func25, Tryd.ntmps25
   go_wp2_with fail
   refine (iis (.split r s l t) n b _ false rfl _ (unhide HT)).mono ?_
   rintro e w1 ⟨rfl, rfl⟩
   go_wp2_with fail
   refine (ipane_split b r s bl br _ (unhide HBF)).mono ?_
   rintro e w2 ⟨rfl, rfl⟩
   go_wp2_with fail
   refine (iis l n bl _ true h1.symm _ (unhide HTL)).mono ?_
   rintro e w3 ⟨rfl, rfl⟩
   go_wp2_with fail
   go_quiet (fail)
   go_wp2_with fail
   go_ret3
   exact ⟨spT_yes (unhide HC) ⟨_, _, rfl, unhide HM _ (below_drewN2 (Below.refl _ _)), unhide HK _ (below_drewN2 (Below.refl _ _))⟩, below_drewN2 (Below.refl _ _)⟩
  ·have h1' : l.is n = false := by simpa using h1
   by_cases h2 : t.is n = true
   ·have HC : Hid (spC (.split r s l t) n = 0) := by show _ = _; unfold spC; rw [if_neg (by simp [Tr.is]), if_pos (by simp [Tr.panes, is_mem h2])]
    have HM := hide (fun w0 (hb0 : Below w.heap.size w w0) => moveOK_here (unhide HND) (unhide HS1) ((unhide HBF).below hb0) ((unhide HTL).below hb0) ((unhide HTR).below hb0) (.inr h2))
    have HK := hide (fun w0 (hb0 : Below w.heap.size w w0) => killOK_right (unhide HND) ((unhide HBF).below hb0) ((unhide HTL).below hb0) h1 h2)
    clear h1
    go_enter Tryd.func25, Tryd.ntmps25
    go_wp2_with fail
    refine (iis (.split r s l t) n b _ false rfl _ (unhide HT)).mono ?_
    rintro e w1 ⟨rfl, rfl⟩
    go_wp2_with fail
    refine (ipane_split b r s bl br _ (unhide HBF)).mono ?_
    rintro e w2 ⟨rfl, rfl⟩
    go_wp2_with fail
    refine (iis l n bl _ false h1'.symm _ (unhide HTL)).mono ?_
    rintro e w3 ⟨rfl, rfl⟩
    go_wp2_with fail
    refine (iis t n br _ true h2.symm _ (unhide HTR)).mono ?_
    rintro e w4 ⟨rfl, rfl⟩
    go_wp2_with fail
    go_quiet (fail)
    go_wp2_with fail
    go_ret3
    exact ⟨spT_yes (unhide HC) ⟨_, _, rfl, unhide HM _ (below_drewN2 (Below.refl _ _)), unhide HK _ (below_drewN2 (Below.refl _ _))⟩, below_drewN2 (Below.refl _ _)⟩
   ·have h2' : t.is n = false := by simpa using h2
    by_cases hm : n ∈ l.panes
    ·have hmt : n ∉ t.panes := fun h => unhide HP n hm n h rfl
     have HC : Hid (spC (.split r s l t) n = 0) := by show _ = _; unfold spC; rw [if_neg (by simp [Tr.is]), if_pos (by simp [Tr.panes, hm])]
     have hcl : spC l n = 0 := by unfold spC; rw [if_neg h1, if_pos hm]
     have HM := hide (fun w0 (hb0 : Below w.heap.size w w0) sb (h : MoveOK iBx w0 l bl Ls n sb) => moveOK_left (r := r) (s := s) (unhide HND) ((unhide HBF).below hb0) ((unhide HTR).below hb0) h1 h2 hm h)
     have HK := hide (fun w0 (hb0 : Below w.heap.size w w0) sb ob (h : KillOK iBx w0 l bl Ls n sb ob) => killOK_inl (r := r) (s := s) (unhide HND) ((unhide HBF).below hb0) ((unhide HTR).below hb0) h1 h2 hmt h)
     have HCL := hide hcl
     clear h1 h2 hm hmt hcl
     go_enter Tryd.func25, Tryd.ntmps25
     go_wp2_with fail
     refine (iis (.split r s l t) n b _ false rfl _ (unhide HT)).mono ?_
     rintro e w1 ⟨rfl, rfl⟩
     go_wp2_with fail
     refine (ipane_split b r s bl br _ (unhide HBF)).mono ?_
     rintro e w2 ⟨rfl, rfl⟩
     go_wp2_with fail
     refine (iis l n bl _ false h1'.symm _ (unhide HTL)).mono ?_
     rintro e w3 ⟨rfl, rfl⟩
     go_wp2_with fail
     refine (iis t n br _ false h2'.symm _ (unhide HTR)).mono ?_
     rintro e w4 ⟨rfl, rfl⟩
     go_wp2_with fail
     refine (unhide T1).mono ?_
     rintro e w5 ⟨h5, hb5⟩
     unfold spT at h5
     rw [if_pos (unhide HCL)] at h5
     obtain ⟨sb, ob, rfl, hmv, hkl⟩ := h5
     have HM2 := hide (unhide HM _ hb5 sb hmv)
     have HK2 := hide (unhide HK _ hb5 sb ob hkl)
     have HB5 := hide hb5
     clear hmv hkl hb5
     go_wp2_with fail
     go_ret3
     exact ⟨spT_yes (unhide HC) ⟨_, _, rfl, unhide HM2, unhide HK2⟩, unhide HB5⟩
    ·have hcl : spC l n = 5 := by unfold spC; rw [if_neg h1, if_neg hm]
     have HCL := hide hcl
     have HM := hide (fun w0 (hb0 : Below w.heap.size w w0) sb (h : MoveOK iBx w0 t br Rs n sb) => moveOK_right (r := r) (s := s) (unhide HND) ((unhide HBF).below hb0) ((unhide HTL).below hb0) h1 h2 hm h)
     have HK := hide (fun w0 (hb0 : Below w.heap.size w w0) sb ob (h : KillOK iBx w0 t br Rs n sb ob) => killOK_inr (r := r) (s := s) (unhide HND) ((unhide HBF).below hb0) ((unhide HTL).below hb0) h1 h2 hm h)
     have hcs : spC (.split r s l t) n = spC t n := by
      unfold spC
      rw [if_neg (by simp [Tr.is]), if_neg h2]
      simp only [Tr.panes, List.mem_append, hm, false_or]
     have HCS := hide hcs
     obtain ⟨C, hC⟩ : ∃ C, C = spC t n := ⟨_, rfl⟩
     have hC2 : C = 0 ∨ C = 5 := by rw [hC]; unfold spC; rw [if_neg h2]; split <;> simp
     have HC := hide hC
     clear h1 h2 hm hcl hcs hC
     go_enter Tryd.func25, Tryd.ntmps25
     go_wp2_with fail
     refine (iis (.split r s l t) n b _ false rfl _ (unhide HT)).mono ?_
     rintro e w1 ⟨rfl, rfl⟩
     go_wp2_with fail
     refine (ipane_split b r s bl br _ (unhide HBF)).mono ?_
     rintro e w2 ⟨rfl, rfl⟩
     go_wp2_with fail
     refine (iis l n bl _ false h1'.symm _ (unhide HTL)).mono ?_
     rintro e w3 ⟨rfl, rfl⟩
     go_wp2_with fail
     refine (iis t n br _ false h2'.symm _ (unhide HTR)).mono ?_
     rintro e w4 ⟨rfl, rfl⟩
     go_wp2_with fail
     refine (unhide T1).mono ?_
     rintro e w5 ⟨h5, hb5⟩
     unfold spT at h5
     rw [unhide HCL, if_neg (by decide)] at h5
     subst h5
     have HB5 := hide hb5
     have d4 : w5.cell? ⟨b, 4, none⟩ = some (.pointer (some ⟨br, 0, none⟩)) := (hb5.cell (p := ⟨b, 4, none⟩) (unhide HBF).lt).trans c4
     have HT5 := hide ((unhide HTR).below hb5)
     clear hb5 c3 c4
     go_wp2_with fail
     refine (unhide T2 w5 (unhide HT5)).mono ?_
     rintro e w6 ⟨h6, hb6⟩
     have HB6 := hide ((unhide HB5).trans (hb6.mono (unhide HB5).size))
     clear hb6
     unfold spT at h6
     rcases hC2 with hC2 | hC2
     ·have hz : spC t n = 0 := (unhide HC).symm.trans hC2
      rw [if_pos hz] at h6
      obtain ⟨sb, ob, rfl, hmv, hkl⟩ := h6
      have HM2 := hide (unhide HM _ (unhide HB6) sb hmv)
      have HK2 := hide (unhide HK _ (unhide HB6) sb ob hkl)
      have HCC : Hid (spC (.split r s l t) n = 0) := (unhide HCS).trans hz
      clear hz hC2 hmv hkl
      go_wp2_with fail
      go_ret3
      exact ⟨spT_yes (unhide HCC) ⟨_, _, rfl, unhide HM2, unhide HK2⟩, unhide HB6⟩
     ·have hz : spC t n = 5 := (unhide HC).symm.trans hC2
      rw [hz, if_neg (by decide)] at h6
      subst h6
      have HCC : Hid (spC (.split r s l t) n = 5) := (unhide HCS).trans hz
      clear hz hC2
      go_wp2_with fail
      go_ret3
      exact ⟨spT_no (unhide HCC) (by decide) rfl, unhide HB6⟩
end Go.Proofs.YtgnecacoehedkaaDoor
