/- (*tree).is, (*tree).splitOf: what the program answers. -/
import Derived.Test.YtpkogblbkndnlaaSpM
import Derived.Test.YtpkogblbkndnlaaTreI
import Derived.BigQuiet
namespace Go.Proofs.Ytpkogblbkndnlaa
open Go.ChangeShapes Go.WideShapes Go.ChangeAt Go.RowKit
theorem iis (t : Tr) (n : Int) (b : Nat) (bs : List Nat) (R : Bool) (hR : R = t.is n) (w : World) (ht : TreeAt iBx w t b bs) : Calls Try.prog 48 #[.pointer (some ⟨b, 0, none⟩), .int .i64 n] w fun e w' => e = .returned (.bool R) ∧ w' = w := by
  cases t using Tr.ind with
  | pane m =>
    obtain ⟨rfl, hbf⟩ := ht
    have c0 : w.cell? ⟨b, 0, none⟩ = some (.int .i64 m) := hbf.S 0
    have HBF := hide hbf
    have hR' : R = (m == n) := hR
    clear hbf hR
    subst hR'
    go_enter Try.func48, Try.ntmps48
    go_wp2_with fail
    refine (ipane_pane b m _ (unhide HBF)).mono ?_
    rintro e w1 ⟨rfl, rfl⟩
    go_wp2_with fail
    go_ret
    exact ⟨rfl, rfl⟩
  | split r s l t _ _ =>
    obtain ⟨bl, br, Ls, Rs, rfl, hbf, htl, htr⟩ := ht
    have HBF := hide hbf
    have hR' : R = false := hR
    clear hbf htl htr hR
    subst hR'
    go_enter Try.func48, Try.ntmps48
    go_wp2_with fail
    refine (ipane_split b r s bl br _ (unhide HBF)).mono ?_
    rintro e w1 ⟨rfl, rfl⟩
    go_wp2_with fail
    go_ret
    exact ⟨rfl, rfl⟩
theorem below_drewN2 {B n : Nat} {w w' : World} (h : Below B w w') : Below B w (w'.drewN n) := ⟨h.os, h.tape, h.output, h.size, h.block⟩
def spT (w : World) (t : Tr) (b : Nat) (bs : List Nat) (n : Int) (e : Ending) : Prop :=
  if spC t n = 0 then ∃ sb ob, e = .returned (.tuple #[.pointer (some ⟨sb, 0, none⟩), .pointer (some ⟨ob, 0, none⟩), .int .i64 0]) ∧ MoveOK iBx w t b bs n sb ∧ KillOK iBx w t b bs n sb ob
  else e = .returned (.tuple #[.pointer none, .pointer none, .int .i64 (spC t n)])
theorem spT_yes {w : World} {t : Tr} {b : Nat} {bs : List Nat} {n : Int} {e : Ending} (h : spC t n = 0) (h2 : ∃ sb ob, e = .returned (.tuple #[.pointer (some ⟨sb, 0, none⟩), .pointer (some ⟨ob, 0, none⟩), .int .i64 0]) ∧ MoveOK iBx w t b bs n sb ∧ KillOK iBx w t b bs n sb ob) : spT w t b bs n e := by unfold spT; rw [if_pos h]; exact h2
theorem spT_no {w : World} {t : Tr} {b : Nat} {bs : List Nat} {n c : Int} {e : Ending} (h : spC t n = c) (hc : ¬ c = 0) (h2 : e = .returned (.tuple #[.pointer none, .pointer none, .int .i64 c])) : spT w t b bs n e := by unfold spT; rw [if_neg (by rw [h]; exact hc), h]; exact h2
end Go.Proofs.Ytpkogblbkndnlaa
