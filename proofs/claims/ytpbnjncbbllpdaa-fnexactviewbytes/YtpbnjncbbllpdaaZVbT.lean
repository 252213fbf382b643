/- ViewBytes: what the specification answers, put together. -/
import Derived.Test.YtpbnjncbbllpdaaZVbS
import Derived.Test.YtpbnjncbbllpdaaZG39
namespace Go.Proofs.Ytpbnjncbbllpdaa
open Go.ChangeShapes Go.WideShapes Go.ChangeAt Go.RowKit
set_option linter.unusedVariables false
theorem vb_ex (nb fr : Int) (fu : Bool) (vw vh : Int) (l : List Rw) : ∃ Q r c, VbIs nb fr fu vw vh l Q r c := ⟨_, _, _, rfl, rfl, rfl⟩
theorem vb_len {nb fr : Int} {fu : Bool} {vw vh : Int} {l : List Rw} {Q : Bool} {r : List UInt8} {c : Int} (h : VbIs nb fr fu vw vh l Q r c) : r.length ≤ 1048576 := by
  obtain ⟨h1, h2, -⟩ := h
  cases Q with
  | false => rw [h2]; simp
  | true =>
    obtain ⟨s1, s2, s3⟩ := vb_short h1.symm
    rw [h2, if_pos rfl, (fb_ok (by omega) s2 s3).1, List.length_append]
    have e : (be (vbF nb fr fu vw vh l).length 1).length = 1 := by simp [be]
    unfold fsum at s3
    omega
set_option maxHeartbeats 1000000 in
set_option maxRecDepth 100000 in
theorem svb (nb fr : Int) (fu : Bool) (vw vh : Int) (a : Option Addr) (cap n : Nat) (l : List Rw) (HN : Hid (l.length = n)) (hn : n ≤ 1048576) (HS : Hid (∀ k (h : k < l.length), l[k].2.size ≤ 1048576)) (Q : Bool) (r : List UInt8) (c : Int) (HI : Hid (VbIs nb fr fu vw vh l Q r c)) (w : World) (hr : RowV w a (cE l)) :
    Calls Try.prog 5 #[.agg #[.int .i64 nb, .int .i64 fr, .bool fu, .int .i64 vw, .int .i64 vh, .slice a n cap]] w fun e w' => ∃ a' cap', e = .returned (.tuple #[.slice a' r.length cap', .int .i64 c]) ∧ RowIn w' w.heap.size w'.heap.size a' (B8 r) ∧ Below w.heap.size w w' := by
  have B0 := hide (Go.Joins.below_alloc1 w (.cells #[.int .i64 nb, .int .i64 fr, .bool fu, .int .i64 vw, .int .i64 vh, .slice a n cap] 31))
  have A0 := hide (BF.new w #[.int .i64 nb, .int .i64 fr, .bool fu, .int .i64 vw, .int .i64 vh, .slice a n cap] 31)
  have HR := hide hr
  have HNI := hide hn
  have HQ := hide (unhide HI).1
  have HRR := hide (unhide HI).2.1
  have hC := (unhide HI).2.2
  clear hr hn HI
  cases Q with
  | false =>
    obtain rfl : c = 1 := hC
    obtain rfl : r = [] := unhide HRR
    go_enter Try.func5, Try.ntmps5
    go_wp2_with (go_at_call 14; refine (svwok nb fr fu vw vh a cap n l HN (unhide HNI) HS false HQ _ ((unhide HR).below (unhide B0))).mono ?_; rintro e w2 ⟨rfl, hb2⟩; have HB2 := hide ((unhide B0).trans (hb2.mono (unhide B0).size)); clear hb2)
    go_ret2
    exact ⟨_, _, rfl, ⟨.inl rfl, fun b off h => by injection h with h; injection h with h1 h2; have := (unhide HB2).size; subst h1; simp; omega, Nat.le_refl _⟩, (unhide HB2).alloc (unhide HB2).size _⟩
  | true =>
    obtain rfl : c = 0 := hC
    have HRL : Hid (r = fbL (vbF nb fr fu vw vh l)) := unhide HRR
    have HT := hide (fun w3 => to_in w3 r)
    go_enter Try.func5, Try.ntmps5
    go_wp2_with (first | (go_at_call 14; refine (svwok nb fr fu vw vh a cap n l HN (unhide HNI) HS true HQ _ ((unhide HR).below (unhide B0))).mono ?_; rintro e w2 ⟨rfl, hb2⟩; have HB2 := hide ((unhide B0).trans (hb2.mono (unhide B0).size)); have ka2 := ((unhide A0).below hb2).S; clear hb2) | (go_at_call 15; refine (sl11bytes nb fr fu vw vh a cap n l HN HQ r HRL _ ((unhide HR).below (unhide HB2))).mono ?_; rintro e w3 ⟨rfl, hb3⟩; have HB3 := hide ((unhide HB2).trans (hb3.mono (unhide HB2).size)); obtain ⟨w4, cap4, hrun, hin, hbel⟩ := unhide HT w3; have HIN := hide hin; have HB4 := hide ((unhide HB3).trans (hbel.mono (unhide HB3).size)); have HZ3 := hide (unhide HB3).size; clear hb3 hin hbel ka2))
    go_ret2
    exact ⟨_, _, rfl, ⟨(unhide HIN).row, fun b off h => by have := (unhide HIN).blk b off h; have := unhide HZ3; omega, (unhide HIN).le⟩, unhide HB4⟩
end Go.Proofs.Ytpbnjncbbllpdaa
