/- A tick: what the specification answers. -/
import Derived.Test.YtjlajpnhcphngaaZSsS
import Derived.Test.YtjlajpnhcphngaaZG35
import Derived.BigQuiet
namespace Go.Proofs.Ytjlajpnhcphngaa
open Go.ChangeShapes Go.WideShapes Go.ChangeAt Go.RowKit
set_option linter.unusedVariables false
theorem mn_comm (x y : Int) : mn y x = mn x y := by unfold mn; split <;> split <;> omega
attribute [local go_sem ↓] run_mn
set_option maxHeartbeats 4000000 in
set_option maxRecDepth 100000 in
theorem stick_tell (P lo : Nat) (id : Int) (nd : Nat) (tm vt : Int) (c : Nat) (el wt : Int) (up : Bool) (a : Option Addr) (cap n : Nat) (av : Option Addr) (cv nv : Nat) (ax : Option Addr) (cx nx : Nat) (ag : Option Addr) (cg ng : Nat) (bo co : Nat) (l : List Ent) (HN : Hid (l.length = n)) (hn : n ≤ 60) (hnc : n ≤ cap) (hnd : nd ≤ 5) (hcn : c ≤ n) (hel : 0 ≤ el ∧ el ≤ 1000) (E1 : Int) (HE1 : Hid (E1 = mn (el + 1) 1000)) (dr : Nat) (h2 : (2 : Int) ≤ E1) (lx : List Int) (J : Nat → Nat) (HJ : Hid (∀ t (h : t < lx.length), lx[t] = (J t : Int) + 1 ∧ J t ≤ n)) (hnx : Hid (lx.length = nx)) (hnn : Hid (nx = nd)) (w : World) (hP : BF P #[.int .i64 id, .int .i64 (nd : Int), .int .i64 tm, .int .i64 vt, .int .i64 2, .bool up, .slice a n cap, .int .i64 (c : Int), .int .i64 el, .int .i64 wt, .slice av nv cv, .slice ax nx cx, .slice ag ng cg, .slice (some ⟨bo, 0, none⟩) 0 co] w) (hlo : lo ≤ P) (hO : w.ownsRow lo 54 9 (.slice (some ⟨bo, 0, none⟩) 0 co) 0 []) (hbo : bo ≠ P) (hr : RowV w a (cE l)) (hrx : RowV w ax (cI lx)) (hoa : OffA P none a) (hox : OffA P none ax) (hoa2 : OffA P (some bo) a) (hox2 : OffA P (some bo) ax) :
    Calls Try.prog 37 #[.pointer (some ⟨P, 0, none⟩), .int .i64 (dr : Int)] w fun e w' => ∃ a1 n1 c1 L1, e = .returned (.tuple #[]) ∧ BF P #[.int .i64 id, .int .i64 (nd : Int), .int .i64 tm, .int .i64 vt, .int .i64 2, .bool up, .slice a n cap, .int .i64 (c : Int), .int .i64 0, .int .i64 wt, .slice av nv cv, .slice ax nx cx, .slice ag ng cg, .slice a1 n1 c1] w' ∧ MOwn w' lo (.slice a1 n1 c1) L1 ∧ L1.map (·.1) = tls id tm (c : Int) l J nd ∧ Two P (some bo) w w' := by
  have ew : IntKind.i64.wrap (el + 1) = el + 1 := wrapi _ (by omega) (by omega)
  have hmn : mn 1000 (el + 1) = E1 := (mn_comm _ _).trans (unhide HE1).symm
  obtain ⟨w1, hw1⟩ : ∃ w1, w1 = w.setCell ⟨P, 8, none⟩ (.int .i64 E1) := ⟨_, rfl⟩
  have P1 : Hid (BF P #[.int .i64 id, .int .i64 (nd : Int), .int .i64 tm, .int .i64 vt, .int .i64 2, .bool up, .slice a n cap, .int .i64 (c : Int), .int .i64 E1, .int .i64 wt, .slice av nv cv, .slice ax nx cx, .slice ag ng cg, .slice (some ⟨bo, 0, none⟩) 0 co] w1) := by rw [hw1]; exact hP.set 8 (by simp) _
  have T1 : Hid (Two P none w w1) := by rw [hw1]; exact (Two.of_below (Below.refl _ _)).set
  have S1 : Hid (w1.heap.size = w.heap.size) := by show _ = _; rw [hw1]; simp
  have HW1 := hide hw1
  have kp := hP.S
  have kpf := hP.F
  have PW : Hid (P < w.heap.size) := hP.lt
  clear hP hw1
  go_enter Try.func37, Try.ntmps37
  go_upto_region 1 with fail
  rw [← unhide HW1]
  clear kp kpf HW1 ew hmn
  have kp := (unhide P1).S
  obtain ⟨w2, hw2⟩ : ∃ w2, w2 = w1.setCell ⟨P, 8, none⟩ (.int .i64 0) := ⟨_, rfl⟩
  have P2 : Hid (BF P #[.int .i64 id, .int .i64 (nd : Int), .int .i64 tm, .int .i64 vt, .int .i64 2, .bool up, .slice a n cap, .int .i64 (c : Int), .int .i64 0, .int .i64 wt, .slice av nv cv, .slice ax nx cx, .slice ag ng cg, .slice (some ⟨bo, 0, none⟩) 0 co] w2) := by rw [hw2]; exact (unhide P1).set 8 (by simp) _
  have T2 : Hid (Two P none w w2) := by rw [hw2]; exact (unhide T1).set
  have kpf := (unhide P1).F
  have HW2 := hide hw2
  have T := hide (sall P id nd tm vt 2 c 0 wt up a cap n av cv nv ax cx nx ag cg ng (some ⟨bo, 0, none⟩) 0 co lo [] rfl (by decide) l HN (by omega) lx J HJ hnx hnd hnn hnc w2 (unhide P2) ⟨own_twoS hO (unhide T2) (fun h => hbo (Option.some.inj h)), (fun p hp => by cases hp), List.Pairwise.nil, (fun p hp => by cases hp)⟩ (by have := (unhide P2).lt; omega) (fun h => hbo (Option.some.inj h)) (fun x hx => by cases hx) (hr.two (unhide T2) hoa) (hrx.two (unhide T2) hox) hoa2 hox2)
  have T0 : (2 == 2) = true := rfl
  clear hw2 hr hrx hoa hox hoa2 hox2 hO
  go_upto_region 4 with fail
  rw [← unhide HW2]
  clear kp kpf HW2 P1 T1 S1
  go_wp2_with fail
  refine (unhide T).mono ?_
  clear T
  rintro e w3 ⟨a1, n1, c1, L1, rfl, hP3, hM3, hL3, hT3⟩
  rw [List.nil_append] at hM3
  have FIN := hide (And.intro hP3 (And.intro hM3 (And.intro hL3 (Two.trans ⟨(unhide T2).os, (unhide T2).tape, (unhide T2).output, (unhide T2).size, fun k hk h1 _ => (unhide T2).block k hk h1 (fun e => by cases e)⟩ hT3 (fun j _ e => e)))))
  clear hP3 hM3 hL3 hT3 P2 T2
  go_wp2_with fail
  obtain ⟨f1, f2, f3, f4⟩ := unhide FIN
  refine bodyPost_ret (v := .tuple #[]) (by simp [results, Try.results37, go_sem]) rfl ⟨a1, n1, c1, L1, rfl, f1, f2, f3, f4⟩
set_option maxHeartbeats 4000000 in
set_option maxRecDepth 100000 in
theorem stick_rest (P lo : Nat) (id : Int) (nd : Nat) (tm vt : Int) (c : Nat) (el wt : Int) (up : Bool) (a : Option Addr) (cap n : Nat) (av : Option Addr) (cv nv : Nat) (ax : Option Addr) (cx nx : Nat) (ag : Option Addr) (cg ng : Nat) (bo co : Nat) (l : List Ent) (HN : Hid (l.length = n)) (hn : n ≤ 60) (hnc : n ≤ cap) (hnd : nd ≤ 5) (hcn : c ≤ n) (hel : 0 ≤ el ∧ el ≤ 1000) (E1 : Int) (HE1 : Hid (E1 = mn (el + 1) 1000)) (dr : Nat) (h2 : ¬ (2 : Int) ≤ E1) (w : World) (hP : BF P #[.int .i64 id, .int .i64 (nd : Int), .int .i64 tm, .int .i64 vt, .int .i64 2, .bool up, .slice a n cap, .int .i64 (c : Int), .int .i64 el, .int .i64 wt, .slice av nv cv, .slice ax nx cx, .slice ag ng cg, .slice (some ⟨bo, 0, none⟩) 0 co] w)  :
    Calls Try.prog 37 #[.pointer (some ⟨P, 0, none⟩), .int .i64 (dr : Int)] w fun e w' => e = .returned (.tuple #[]) ∧ BF P #[.int .i64 id, .int .i64 (nd : Int), .int .i64 tm, .int .i64 vt, .int .i64 2, .bool up, .slice a n cap, .int .i64 (c : Int), .int .i64 E1, .int .i64 wt, .slice av nv cv, .slice ax nx cx, .slice ag ng cg, .slice (some ⟨bo, 0, none⟩) 0 co] w' ∧ Two P none w w' := by
  have ew : IntKind.i64.wrap (el + 1) = el + 1 := wrapi _ (by omega) (by omega)
  have hmn : mn 1000 (el + 1) = E1 := (mn_comm _ _).trans (unhide HE1).symm
  obtain ⟨w1, hw1⟩ : ∃ w1, w1 = w.setCell ⟨P, 8, none⟩ (.int .i64 E1) := ⟨_, rfl⟩
  have P1 : Hid (BF P #[.int .i64 id, .int .i64 (nd : Int), .int .i64 tm, .int .i64 vt, .int .i64 2, .bool up, .slice a n cap, .int .i64 (c : Int), .int .i64 E1, .int .i64 wt, .slice av nv cv, .slice ax nx cx, .slice ag ng cg, .slice (some ⟨bo, 0, none⟩) 0 co] w1) := by rw [hw1]; exact hP.set 8 (by simp) _
  have T1 : Hid (Two P none w w1) := by rw [hw1]; exact (Two.of_below (Below.refl _ _)).set
  have S1 : Hid (w1.heap.size = w.heap.size) := by show _ = _; rw [hw1]; simp
  have HW1 := hide hw1
  have kp := hP.S
  have kpf := hP.F
  have PW : Hid (P < w.heap.size) := hP.lt
  clear hP hw1
  go_enter Try.func37, Try.ntmps37
  go_upto_region 1 with fail
  rw [← unhide HW1]
  clear kp kpf HW1 ew hmn
  have kp := (unhide P1).S
  have HP1 := P1
  go_wp2_with fail
  refine bodyPost_ret (v := .tuple #[]) (by simp [results, Try.results37, go_sem]) rfl ⟨rfl, unhide P1, unhide T1⟩
set_option maxHeartbeats 4000000 in
set_option maxRecDepth 100000 in
theorem stick_wait (P lo : Nat) (id : Int) (nd : Nat) (tm vt ro : Int) (c : Nat) (el wt : Int) (up : Bool) (a : Option Addr) (cap n : Nat) (av : Option Addr) (cv nv : Nat) (ax : Option Addr) (cx nx : Nat) (ag : Option Addr) (cg ng : Nat) (bo co : Nat) (l : List Ent) (HN : Hid (l.length = n)) (hn : n ≤ 60) (hnc : n ≤ cap) (hnd : nd ≤ 5) (hcn : c ≤ n) (hel : 0 ≤ el ∧ el ≤ 1000) (E1 : Int) (HE1 : Hid (E1 = mn (el + 1) 1000)) (dr : Nat) (hro : ¬ ro = 2) (h2 : ¬ wt ≤ E1) (w : World) (hP : BF P #[.int .i64 id, .int .i64 (nd : Int), .int .i64 tm, .int .i64 vt, .int .i64 ro, .bool up, .slice a n cap, .int .i64 (c : Int), .int .i64 el, .int .i64 wt, .slice av nv cv, .slice ax nx cx, .slice ag ng cg, .slice (some ⟨bo, 0, none⟩) 0 co] w)  :
    Calls Try.prog 37 #[.pointer (some ⟨P, 0, none⟩), .int .i64 (dr : Int)] w fun e w' => e = .returned (.tuple #[]) ∧ BF P #[.int .i64 id, .int .i64 (nd : Int), .int .i64 tm, .int .i64 vt, .int .i64 ro, .bool up, .slice a n cap, .int .i64 (c : Int), .int .i64 E1, .int .i64 wt, .slice av nv cv, .slice ax nx cx, .slice ag ng cg, .slice (some ⟨bo, 0, none⟩) 0 co] w' ∧ Two P none w w' := by
  have ew : IntKind.i64.wrap (el + 1) = el + 1 := wrapi _ (by omega) (by omega)
  have hmn : mn 1000 (el + 1) = E1 := (mn_comm _ _).trans (unhide HE1).symm
  obtain ⟨w1, hw1⟩ : ∃ w1, w1 = w.setCell ⟨P, 8, none⟩ (.int .i64 E1) := ⟨_, rfl⟩
  have P1 : Hid (BF P #[.int .i64 id, .int .i64 (nd : Int), .int .i64 tm, .int .i64 vt, .int .i64 ro, .bool up, .slice a n cap, .int .i64 (c : Int), .int .i64 E1, .int .i64 wt, .slice av nv cv, .slice ax nx cx, .slice ag ng cg, .slice (some ⟨bo, 0, none⟩) 0 co] w1) := by rw [hw1]; exact hP.set 8 (by simp) _
  have T1 : Hid (Two P none w w1) := by rw [hw1]; exact (Two.of_below (Below.refl _ _)).set
  have S1 : Hid (w1.heap.size = w.heap.size) := by show _ = _; rw [hw1]; simp
  have HW1 := hide hw1
  have kp := hP.S
  have kpf := hP.F
  have PW : Hid (P < w.heap.size) := hP.lt
  clear hP hw1
  go_enter Try.func37, Try.ntmps37
  go_upto_region 1 with fail
  rw [← unhide HW1]
  clear kp kpf HW1 ew hmn
  have kp := (unhide P1).S
  have d0 : (ro == 2) = false := by simpa using hro
  have d2 : decide (wt ≤ E1) = false := decide_eq_false h2
  go_wp2_with fail
  go_quiet (fail)
  have P2 := hide ((unhide P1).below (bdnA (Below.refl _ _) nq))
  have T2 : Hid (Two P none w (w1.drewN nq)) := (unhide T1).trans (Two.of_below (bdnA (Below.refl _ _) nq)) (fun j _ e => e)
  generalize w1.drewN nq = w2 at P2 T2 ⊢
  clear P1 T1 kp S1
  have kp := (unhide P2).S
  go_wp2_with fail
  go_end0
  exact ⟨rfl, unhide P2, unhide T2⟩
set_option maxHeartbeats 4000000 in
set_option maxRecDepth 100000 in
theorem stick_late (P lo : Nat) (id : Int) (nd : Nat) (tm vt ro : Int) (c : Nat) (el wt : Int) (up : Bool) (a : Option Addr) (cap n : Nat) (av : Option Addr) (cv nv : Nat) (ax : Option Addr) (cx nx : Nat) (ag : Option Addr) (cg ng : Nat) (bo co : Nat) (l : List Ent) (HN : Hid (l.length = n)) (hn : n ≤ 60) (hnc : n ≤ cap) (hnd : nd ≤ 5) (hcn : c ≤ n) (hel : 0 ≤ el ∧ el ≤ 1000) (E1 : Int) (HE1 : Hid (E1 = mn (el + 1) 1000)) (dr : Nat) (hro : ¬ ro = 2) (h2 : wt ≤ E1) (h3 : ¬ tm < 1000) (w : World) (hP : BF P #[.int .i64 id, .int .i64 (nd : Int), .int .i64 tm, .int .i64 vt, .int .i64 ro, .bool up, .slice a n cap, .int .i64 (c : Int), .int .i64 el, .int .i64 wt, .slice av nv cv, .slice ax nx cx, .slice ag ng cg, .slice (some ⟨bo, 0, none⟩) 0 co] w)  :
    Calls Try.prog 37 #[.pointer (some ⟨P, 0, none⟩), .int .i64 (dr : Int)] w fun e w' => e = .returned (.tuple #[]) ∧ BF P #[.int .i64 id, .int .i64 (nd : Int), .int .i64 tm, .int .i64 vt, .int .i64 ro, .bool up, .slice a n cap, .int .i64 (c : Int), .int .i64 E1, .int .i64 wt, .slice av nv cv, .slice ax nx cx, .slice ag ng cg, .slice (some ⟨bo, 0, none⟩) 0 co] w' ∧ Two P none w w' := by
  have ew : IntKind.i64.wrap (el + 1) = el + 1 := wrapi _ (by omega) (by omega)
  have hmn : mn 1000 (el + 1) = E1 := (mn_comm _ _).trans (unhide HE1).symm
  obtain ⟨w1, hw1⟩ : ∃ w1, w1 = w.setCell ⟨P, 8, none⟩ (.int .i64 E1) := ⟨_, rfl⟩
  have P1 : Hid (BF P #[.int .i64 id, .int .i64 (nd : Int), .int .i64 tm, .int .i64 vt, .int .i64 ro, .bool up, .slice a n cap, .int .i64 (c : Int), .int .i64 E1, .int .i64 wt, .slice av nv cv, .slice ax nx cx, .slice ag ng cg, .slice (some ⟨bo, 0, none⟩) 0 co] w1) := by rw [hw1]; exact hP.set 8 (by simp) _
  have T1 : Hid (Two P none w w1) := by rw [hw1]; exact (Two.of_below (Below.refl _ _)).set
  have S1 : Hid (w1.heap.size = w.heap.size) := by show _ = _; rw [hw1]; simp
  have HW1 := hide hw1
  have kp := hP.S
  have kpf := hP.F
  have PW : Hid (P < w.heap.size) := hP.lt
  clear hP hw1
  go_enter Try.func37, Try.ntmps37
  go_upto_region 1 with fail
  rw [← unhide HW1]
  clear kp kpf HW1 ew hmn
  have kp := (unhide P1).S
  have d0 : (ro == 2) = false := by simpa using hro
  have d2 : decide (wt ≤ E1) = true := decide_eq_true h2
  have d3 : decide (tm < 1000) = false := decide_eq_false h3
  go_wp2_with fail
  go_quiet (fail)
  have P2 := hide ((unhide P1).below (bdnA (Below.refl _ _) nq))
  have T2 : Hid (Two P none w (w1.drewN nq)) := (unhide T1).trans (Two.of_below (bdnA (Below.refl _ _) nq)) (fun j _ e => e)
  generalize w1.drewN nq = w2 at P2 T2 ⊢
  clear P1 T1 kp S1
  have kp := (unhide P2).S
  go_wp2_with fail
  go_end0
  exact ⟨rfl, unhide P2, unhide T2⟩
set_option maxHeartbeats 4000000 in
set_option maxRecDepth 100000 in
theorem stick_many (P lo : Nat) (id : Int) (nd : Nat) (tm vt ro : Int) (c : Nat) (el wt : Int) (up : Bool) (a : Option Addr) (cap n : Nat) (av : Option Addr) (cv nv : Nat) (bx cx bg cg : Nat) (bo co : Nat) (l : List Ent) (HN : Hid (l.length = n)) (hn : n ≤ 60) (hnc : n ≤ cap) (hnd : nd ≤ 5) (hcn : c ≤ n) (hel : 0 ≤ el ∧ el ≤ 1000) (E1 : Int) (HE1 : Hid (E1 = mn (el + 1) 1000)) (dr : Nat) (lx lg : List Int) (HNx : Hid (lx.length = nd)) (HNg : Hid (lg.length = nd)) (hdr : dr ≤ 1000000) (htm : 0 ≤ tm ∧ tm ≤ 1000) (t1 : Int) (HT1 : Hid (t1 = tm + 1)) (TT : Int) (HT : Hid (TT = tAt l n)) (h5 : 2 ≤ nd) (hro : ¬ ro = 2) (h2 : wt ≤ E1) (h3 : tm < 1000) (w : World) (hP : BF P #[.int .i64 id, .int .i64 (nd : Int), .int .i64 tm, .int .i64 vt, .int .i64 ro, .bool up, .slice a n cap, .int .i64 (c : Int), .int .i64 el, .int .i64 wt, .slice av nv cv, .slice (some ⟨bx, 0, none⟩) nd cx, .slice (some ⟨bg, 0, none⟩) nd cg, .slice (some ⟨bo, 0, none⟩) 0 co] w) (hlo : lo ≤ P) (hE : w.ownsRow lo 68 2 (.slice a n cap) n (cE l)) (hX : w.ownsRow lo 3 1 (.slice (some ⟨bx, 0, none⟩) nd cx) nd (cI lx)) (hG : w.ownsRow lo 3 1 (.slice (some ⟨bg, 0, none⟩) nd cg) nd (cI lg)) (hO : w.ownsRow lo 54 9 (.slice (some ⟨bo, 0, none⟩) 0 co) 0 []) (hEP : (Value.slice a n cap).ownBlock ≠ some P) (hNP : bx ≠ P ∧ bg ≠ P ∧ bo ≠ P) (hXG : bx ≠ bg) :
    Calls Try.prog 37 #[.pointer (some ⟨P, 0, none⟩), .int .i64 (dr : Int)] w fun e w' => ∃ gV a1 n1 c1 L1, e = .returned (.tuple #[]) ∧ BF P #[.int .i64 id, .int .i64 (nd : Int), .int .i64 t1, .int .i64 id, .int .i64 1, .bool up, .slice a n cap, .int .i64 (c : Int), .int .i64 0, .int .i64 (5 + (dr : Int) % 8), .slice (some ⟨gV, 0, none⟩) 1 1, .slice (some ⟨bx, 0, none⟩) nd cx, .slice (some ⟨bg, 0, none⟩) nd cg, .slice a1 n1 c1] w' ∧ w'.ownsRow lo 68 2 (.slice a n cap) n (cE l) ∧ w'.ownsRow lo 3 1 (.slice (some ⟨gV, 0, none⟩) 1 1) 1 (cI [id]) ∧ w'.ownsRow lo 3 1 (.slice (some ⟨bx, 0, none⟩) nd cx) nd (cI lx) ∧ w'.ownsRow lo 3 1 (.slice (some ⟨bg, 0, none⟩) nd cg) nd (cI lg) ∧ MOwn w' lo (.slice a1 n1 c1) L1 ∧ L1.map (·.1) = asks id t1 n TT nd ∧ Below lo w w' := by
  have ew : IntKind.i64.wrap (el + 1) = el + 1 := wrapi _ (by omega) (by omega)
  have hmn : mn 1000 (el + 1) = E1 := (mn_comm _ _).trans (unhide HE1).symm
  obtain ⟨w1, hw1⟩ : ∃ w1, w1 = w.setCell ⟨P, 8, none⟩ (.int .i64 E1) := ⟨_, rfl⟩
  have P1 : Hid (BF P #[.int .i64 id, .int .i64 (nd : Int), .int .i64 tm, .int .i64 vt, .int .i64 ro, .bool up, .slice a n cap, .int .i64 (c : Int), .int .i64 E1, .int .i64 wt, .slice av nv cv, .slice (some ⟨bx, 0, none⟩) nd cx, .slice (some ⟨bg, 0, none⟩) nd cg, .slice (some ⟨bo, 0, none⟩) 0 co] w1) := by rw [hw1]; exact hP.set 8 (by simp) _
  have T1 : Hid (Two P none w w1) := by rw [hw1]; exact (Two.of_below (Below.refl _ _)).set
  have S1 : Hid (w1.heap.size = w.heap.size) := by show _ = _; rw [hw1]; simp
  have HW1 := hide hw1
  have kp := hP.S
  have kpf := hP.F
  have PW : Hid (P < w.heap.size) := hP.lt
  clear hP hw1
  go_enter Try.func37, Try.ntmps37
  go_upto_region 1 with fail
  rw [← unhide HW1]
  clear kp kpf HW1 ew hmn
  have kp := (unhide P1).S
  have d0 : (ro == 2) = false := by simpa using hro
  have d2 : decide (wt ≤ E1) = true := decide_eq_true h2
  have d3 : decide (tm < 1000) = true := decide_eq_true h3
  go_wp2_with fail
  go_quiet (fail)
  have P2 := hide ((unhide P1).below (bdnA (Below.refl _ _) nq))
  have T2 : Hid (Two P none w (w1.drewN nq)) := (unhide T1).trans (Two.of_below (bdnA (Below.refl _ _) nq)) (fun j _ e => e)
  generalize w1.drewN nq = w2 at P2 T2 ⊢
  clear P1 T1 kp S1
  have kp := (unhide P2).S
  have T := hide (sstand_many P lo id nd tm vt ro c E1 wt up a cap n av cv nv bx cx bg cg bo co l HN hn hnc hnd hcn lx lg HNx HNg dr hdr htm t1 HT1 TT HT h5 w2 (unhide P2) hlo (own_twoS hE (unhide T2) hEP) (own_twoS hX (unhide T2) (fun h => hNP.1 (Option.some.inj h))) (own_twoS hG (unhide T2) (fun h => hNP.2.1 (Option.some.inj h))) (own_twoS hO (unhide T2) (fun h => hNP.2.2 (Option.some.inj h))) hEP hNP hXG)
  have B2 : Hid (Below lo w w2) := below_two (Below.refl _ _) (unhide T2) (by have := unhide PW; omega) hlo (fun j e => by cases e)
  clear hE hX hG hO hEP hNP hXG
  go_wp2_with fail
  refine (unhide T).mono ?_
  clear T
  rintro e w3 ⟨gV, a1, n1, c1, L1, rfl, f1, f2, f3, f4, f5, f6, f7, f8⟩
  have FIN := hide (And.intro f1 (And.intro f2 (And.intro f3 (And.intro f4 (And.intro f5 (And.intro f6 (And.intro f7 ((unhide B2).trans f8))))))))
  clear f1 f2 f3 f4 f5 f6 f7 f8 B2
  go_wp2_with fail
  go_end0
  obtain ⟨f1, f2, f3, f4, f5, f6, f7, f8⟩ := unhide FIN
  exact ⟨gV, a1, n1, c1, L1, rfl, f1, f2, f3, f4, f5, f6, f7, f8⟩
set_option maxHeartbeats 4000000 in
set_option maxRecDepth 100000 in
theorem stick_one (P lo : Nat) (id : Int) (nd : Nat) (tm vt ro : Int) (c : Nat) (el wt : Int) (up : Bool) (a : Option Addr) (cap n : Nat) (av : Option Addr) (cv nv : Nat) (bx cx bg cg : Nat) (bo co : Nat) (l : List Ent) (HN : Hid (l.length = n)) (hn : n ≤ 60) (hnc : n ≤ cap) (hnd : nd ≤ 5) (hcn : c ≤ n) (hel : 0 ≤ el ∧ el ≤ 1000) (E1 : Int) (HE1 : Hid (E1 = mn (el + 1) 1000)) (dr : Nat) (lx lg : List Int) (HNx : Hid (lx.length = nd)) (HNg : Hid (lg.length = nd)) (hdr : dr ≤ 1000000) (htm : 0 ≤ tm ∧ tm ≤ 1000) (t1 : Int) (HT1 : Hid (t1 = tm + 1)) (h5 : nd = 1) (hlog : logB t1 1 l = true) (hro : ¬ ro = 2) (h2 : wt ≤ E1) (h3 : tm < 1000) (w : World) (hP : BF P #[.int .i64 id, .int .i64 (nd : Int), .int .i64 tm, .int .i64 vt, .int .i64 ro, .bool up, .slice a n cap, .int .i64 (c : Int), .int .i64 el, .int .i64 wt, .slice av nv cv, .slice (some ⟨bx, 0, none⟩) nd cx, .slice (some ⟨bg, 0, none⟩) nd cg, .slice (some ⟨bo, 0, none⟩) 0 co] w) (hlo : lo ≤ P) (hE : w.ownsRow lo 68 2 (.slice a n cap) n (cE l)) (hX : w.ownsRow lo 3 1 (.slice (some ⟨bx, 0, none⟩) nd cx) nd (cI lx)) (hG : w.ownsRow lo 3 1 (.slice (some ⟨bg, 0, none⟩) nd cg) nd (cI lg)) (hO : w.ownsRow lo 54 9 (.slice (some ⟨bo, 0, none⟩) 0 co) 0 []) (hEP : (Value.slice a n cap).ownBlock ≠ some P) (hNP : bx ≠ P ∧ bg ≠ P ∧ bo ≠ P) (hXG : bx ≠ bg) :
    Calls Try.prog 37 #[.pointer (some ⟨P, 0, none⟩), .int .i64 (dr : Int)] w fun e w' => ∃ ea ec gV a1 n1 c1 L1, e = .returned (.tuple #[]) ∧ BF P #[.int .i64 id, .int .i64 (nd : Int), .int .i64 t1, .int .i64 id, .int .i64 2, .bool up, .slice ea (ldL t1 l).length ec, .int .i64 ((advN id t1 nd (ldL t1 l) (List.replicate nd (0 : Int)) c (ldL t1 l).length : Nat) : Int), .int .i64 0, .int .i64 (5 + (dr : Int) % 8), .slice (some ⟨gV, 0, none⟩) 1 1, .slice (some ⟨bx, 0, none⟩) nd cx, .slice (some ⟨bg, 0, none⟩) nd cg, .slice a1 n1 c1] w' ∧ w'.ownsRow lo 68 2 (.slice ea (ldL t1 l).length ec) (ldL t1 l).length (cE (ldL t1 l)) ∧ w'.ownsRow lo 3 1 (.slice (some ⟨gV, 0, none⟩) 1 1) 1 (cI [id]) ∧ w'.ownsRow lo 3 1 (.slice (some ⟨bx, 0, none⟩) nd cx) nd (cI (List.replicate nd ((n : Int) + 1))) ∧ w'.ownsRow lo 3 1 (.slice (some ⟨bg, 0, none⟩) nd cg) nd (cI (List.replicate nd (0 : Int))) ∧ MOwn w' lo (.slice a1 n1 c1) L1 ∧ L1.map (·.1) = tls id t1 ((advN id t1 nd (ldL t1 l) (List.replicate nd (0 : Int)) c (ldL t1 l).length : Nat) : Int) (ldL t1 l) (fun _ => n) nd ∧ Below lo w w' := by
  have ew : IntKind.i64.wrap (el + 1) = el + 1 := wrapi _ (by omega) (by omega)
  have hmn : mn 1000 (el + 1) = E1 := (mn_comm _ _).trans (unhide HE1).symm
  obtain ⟨w1, hw1⟩ : ∃ w1, w1 = w.setCell ⟨P, 8, none⟩ (.int .i64 E1) := ⟨_, rfl⟩
  have P1 : Hid (BF P #[.int .i64 id, .int .i64 (nd : Int), .int .i64 tm, .int .i64 vt, .int .i64 ro, .bool up, .slice a n cap, .int .i64 (c : Int), .int .i64 E1, .int .i64 wt, .slice av nv cv, .slice (some ⟨bx, 0, none⟩) nd cx, .slice (some ⟨bg, 0, none⟩) nd cg, .slice (some ⟨bo, 0, none⟩) 0 co] w1) := by rw [hw1]; exact hP.set 8 (by simp) _
  have T1 : Hid (Two P none w w1) := by rw [hw1]; exact (Two.of_below (Below.refl _ _)).set
  have S1 : Hid (w1.heap.size = w.heap.size) := by show _ = _; rw [hw1]; simp
  have HW1 := hide hw1
  have kp := hP.S
  have kpf := hP.F
  have PW : Hid (P < w.heap.size) := hP.lt
  clear hP hw1
  go_enter Try.func37, Try.ntmps37
  go_upto_region 1 with fail
  rw [← unhide HW1]
  clear kp kpf HW1 ew hmn
  have kp := (unhide P1).S
  have d0 : (ro == 2) = false := by simpa using hro
  have d2 : decide (wt ≤ E1) = true := decide_eq_true h2
  have d3 : decide (tm < 1000) = true := decide_eq_true h3
  go_wp2_with fail
  go_quiet (fail)
  have P2 := hide ((unhide P1).below (bdnA (Below.refl _ _) nq))
  have T2 : Hid (Two P none w (w1.drewN nq)) := (unhide T1).trans (Two.of_below (bdnA (Below.refl _ _) nq)) (fun j _ e => e)
  generalize w1.drewN nq = w2 at P2 T2 ⊢
  clear P1 T1 kp S1
  have kp := (unhide P2).S
  have T := hide (sstand_one P lo id nd tm vt ro c E1 wt up a cap n av cv nv bx cx bg cg bo co l HN hn hnc hnd hcn lx lg HNx HNg dr hdr htm t1 HT1 h5 hlog w2 (unhide P2) hlo (own_twoS hE (unhide T2) hEP) (own_twoS hX (unhide T2) (fun h => hNP.1 (Option.some.inj h))) (own_twoS hG (unhide T2) (fun h => hNP.2.1 (Option.some.inj h))) (own_twoS hO (unhide T2) (fun h => hNP.2.2 (Option.some.inj h))) hEP hNP hXG)
  have B2 : Hid (Below lo w w2) := below_two (Below.refl _ _) (unhide T2) (by have := unhide PW; omega) hlo (fun j e => by cases e)
  clear hE hX hG hO hEP hNP hXG
  go_wp2_with fail
  refine (unhide T).mono ?_
  clear T
  rintro e w3 ⟨ea, ec, gV, a1, n1, c1, L1, rfl, f1, f2, f3, f4, f5, f6, f7, f8⟩
  have FIN := hide (And.intro f1 (And.intro f2 (And.intro f3 (And.intro f4 (And.intro f5 (And.intro f6 (And.intro f7 ((unhide B2).trans f8))))))))
  clear f1 f2 f3 f4 f5 f6 f7 f8 B2
  go_wp2_with fail
  go_end0
  obtain ⟨f1, f2, f3, f4, f5, f6, f7, f8⟩ := unhide FIN
  exact ⟨ea, ec, gV, a1, n1, c1, L1, rfl, f1, f2, f3, f4, f5, f6, f7, f8⟩
end Go.Proofs.Ytjlajpnhcphngaa
