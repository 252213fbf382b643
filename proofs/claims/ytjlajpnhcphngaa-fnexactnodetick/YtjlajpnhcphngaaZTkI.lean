/- A tick: what the program answers. -/
import Derived.Test.YtjlajpnhcphngaaZSdI
import Derived.Test.YtjlajpnhcphngaaZG35
import Derived.BigQuiet
namespace Go.Proofs.Ytjlajpnhcphngaa
open Go.ChangeShapes Go.WideShapes Go.ChangeAt Go.RowKit
set_option linter.unusedVariables false
theorem bdnT {B : Nat} {a w : World} (h : Below B a w) (n : Nat) : Below B a (w.drewN n) := ⟨h.os, h.tape, h.output, h.size, h.block⟩
attribute [local go_sem ↓] run_mn
set_option maxHeartbeats 4000000 in
set_option maxRecDepth 100000 in
theorem itick_tell (P lo : Nat) (id : Int) (nd : Nat) (tm vt : Int) (c : Nat) (el wt : Int) (up : Bool) (a : Option Addr) (cap n : Nat) (av : Option Addr) (cv nv : Nat) (ax : Option Addr) (cx nx : Nat) (ag : Option Addr) (cg ng : Nat) (l : List Ent) (HN : Hid (l.length = n)) (hn : n ≤ 60) (hnc : n ≤ cap) (hnd : nd ≤ 5) (hnd1 : 1 ≤ nd) (hcn : c ≤ n) (hel : 0 ≤ el ∧ el ≤ 1000) (E1 : Int) (HE1 : Hid (E1 = mn (el + 1) 1000)) (dr : Nat) (h2 : (2 : Int) ≤ E1) (lx : List Int) (J : Nat → Nat) (HJ : Hid (∀ t (h : t < lx.length), lx[t] = (J t : Int) + 1 ∧ J t ≤ n)) (hnx : Hid (lx.length = nx)) (hnn : Hid (nx = nd)) (w : World) (hP : BF P #[.int .i64 id, .int .i64 (nd : Int), .int .i64 tm, .int .i64 vt, .int .i64 2, .bool up, .slice a n cap, .int .i64 (c : Int), .int .i64 el, .int .i64 wt, .slice av nv cv, .slice ax nx cx, .slice ag ng cg] w) (hr : RowV w a (cE l)) (hrx : RowV w ax (cI lx)) (hoa : OffA P none a) (hox : OffA P none ax) :
    Calls Try.prog 25 #[.pointer (some ⟨P, 0, none⟩), .int .i64 (dr : Int)] w fun e w' => ∃ vm LL, e = .returned vm ∧ BF P #[.int .i64 id, .int .i64 (nd : Int), .int .i64 tm, .int .i64 vt, .int .i64 2, .bool up, .slice a n cap, .int .i64 (c : Int), .int .i64 0, .int .i64 wt, .slice av nv cv, .slice ax nx cx, .slice ag ng cg] w' ∧ LL.map (·.1) = tls id tm (c : Int) l J nd ∧ MOwn w' w.heap.size vm LL ∧ Two P none w w' := by
  have ew : IntKind.i64.wrap (el + 1) = el + 1 := wrapi _ (by omega) (by omega)
  have hmn : mn (el + 1) 1000 = E1 := (unhide HE1).symm
  obtain ⟨w1, hw1⟩ : ∃ w1, w1 = w.setCell ⟨P, 8, none⟩ (.int .i64 E1) := ⟨_, rfl⟩
  have P1 : Hid (BF P #[.int .i64 id, .int .i64 (nd : Int), .int .i64 tm, .int .i64 vt, .int .i64 2, .bool up, .slice a n cap, .int .i64 (c : Int), .int .i64 E1, .int .i64 wt, .slice av nv cv, .slice ax nx cx, .slice ag ng cg] w1) := by rw [hw1]; exact hP.set 8 (by simp) _
  have T1 : Hid (Two P none w w1) := by rw [hw1]; exact (Two.of_below (Below.refl _ _)).set
  have S1 : Hid (w1.heap.size = w.heap.size) := by show _ = _; rw [hw1]; simp
  have HW1 := hide hw1
  have kp := hP.S
  have kpf := hP.F
  have PW : Hid (P < w.heap.size) := hP.lt
  clear hP hw1
  go_enter Try.func25, Try.ntmps25
  go_upto_region 2 with fail
  rw [← unhide HW1]
  clear kp kpf HW1 ew hmn
  have kp := (unhide P1).S
  obtain ⟨w2, hw2⟩ : ∃ w2, w2 = w1.setCell ⟨P, 8, none⟩ (.int .i64 0) := ⟨_, rfl⟩
  have P2 : Hid (BF P #[.int .i64 id, .int .i64 (nd : Int), .int .i64 tm, .int .i64 vt, .int .i64 2, .bool up, .slice a n cap, .int .i64 (c : Int), .int .i64 0, .int .i64 wt, .slice av nv cv, .slice ax nx cx, .slice ag ng cg] w2) := by rw [hw2]; exact (unhide P1).set 8 (by simp) _
  have T2 : Hid (Two P none w w2) := by rw [hw2]; exact (unhide T1).set
  have S2 : Hid (w2.heap.size = w.heap.size) := by show _ = _; rw [hw2, ← unhide S1]; simp
  have kpf := (unhide P1).F
  have HW2 := hide hw2
  have T := hide (itellall id nd tm vt 2 (c : Int) 0 wt up a cap n av cv nv ax cx nx ag cg ng l HN (by omega) lx J HJ hnx hnd hnn hnc w2 (hr.two (unhide T2) hoa) (hrx.two (unhide T2) hox))
  have T0 : (2 == 2) = true := rfl
  clear hw2 hr hrx hoa hox
  go_upto_region 4 with fail
  rw [← unhide HW2]
  clear kp kpf HW2 P1 T1 S1
  have kp := (unhide P2).S
  go_wp2_with fail
  refine (unhide T).mono ?_
  clear T
  rintro e w3 ⟨vm, LL, rfl, hL, hM, hb⟩
  rw [unhide S2] at hM
  have FIN := hide (And.intro ((unhide P2).below hb) (And.intro hM ((unhide T2).trans (Two.of_below hb) (fun j _ e => e))))
  have HLL := hide hL
  obtain ⟨am, cm9, rfl, -⟩ := ownZ_rowV hM.row
  clear hb hM hL P2 T2 kp
  go_wp2_with fail
  go_ret
  exact ⟨_, LL, rfl, (unhide FIN).1, unhide HLL, (unhide FIN).2.1, (unhide FIN).2.2⟩
set_option maxHeartbeats 4000000 in
set_option maxRecDepth 100000 in
theorem itick_rest (P lo : Nat) (id : Int) (nd : Nat) (tm vt : Int) (c : Nat) (el wt : Int) (up : Bool) (a : Option Addr) (cap n : Nat) (av : Option Addr) (cv nv : Nat) (ax : Option Addr) (cx nx : Nat) (ag : Option Addr) (cg ng : Nat) (l : List Ent) (HN : Hid (l.length = n)) (hn : n ≤ 60) (hnc : n ≤ cap) (hnd : nd ≤ 5) (hnd1 : 1 ≤ nd) (hcn : c ≤ n) (hel : 0 ≤ el ∧ el ≤ 1000) (E1 : Int) (HE1 : Hid (E1 = mn (el + 1) 1000)) (dr : Nat) (h2 : ¬ (2 : Int) ≤ E1) (w : World) (hP : BF P #[.int .i64 id, .int .i64 (nd : Int), .int .i64 tm, .int .i64 vt, .int .i64 2, .bool up, .slice a n cap, .int .i64 (c : Int), .int .i64 el, .int .i64 wt, .slice av nv cv, .slice ax nx cx, .slice ag ng cg] w)  :
    Calls Try.prog 25 #[.pointer (some ⟨P, 0, none⟩), .int .i64 (dr : Int)] w fun e w' => e = .returned (.slice none 0 0) ∧ BF P #[.int .i64 id, .int .i64 (nd : Int), .int .i64 tm, .int .i64 vt, .int .i64 2, .bool up, .slice a n cap, .int .i64 (c : Int), .int .i64 E1, .int .i64 wt, .slice av nv cv, .slice ax nx cx, .slice ag ng cg] w' ∧ Two P none w w' := by
  have ew : IntKind.i64.wrap (el + 1) = el + 1 := wrapi _ (by omega) (by omega)
  have hmn : mn (el + 1) 1000 = E1 := (unhide HE1).symm
  obtain ⟨w1, hw1⟩ : ∃ w1, w1 = w.setCell ⟨P, 8, none⟩ (.int .i64 E1) := ⟨_, rfl⟩
  have P1 : Hid (BF P #[.int .i64 id, .int .i64 (nd : Int), .int .i64 tm, .int .i64 vt, .int .i64 2, .bool up, .slice a n cap, .int .i64 (c : Int), .int .i64 E1, .int .i64 wt, .slice av nv cv, .slice ax nx cx, .slice ag ng cg] w1) := by rw [hw1]; exact hP.set 8 (by simp) _
  have T1 : Hid (Two P none w w1) := by rw [hw1]; exact (Two.of_below (Below.refl _ _)).set
  have S1 : Hid (w1.heap.size = w.heap.size) := by show _ = _; rw [hw1]; simp
  have HW1 := hide hw1
  have kp := hP.S
  have kpf := hP.F
  have PW : Hid (P < w.heap.size) := hP.lt
  clear hP hw1
  go_enter Try.func25, Try.ntmps25
  go_upto_region 2 with fail
  rw [← unhide HW1]
  clear kp kpf HW1 ew hmn
  have kp := (unhide P1).S
  have d1 : ((2 : Int) != 2) = false := by decide
  go_wp2_with fail
  go_quiet (fail)
  have P2 := hide ((unhide P1).below (bdnT (Below.refl _ _) nq))
  have T2 : Hid (Two P none w (w1.drewN nq)) := (unhide T1).trans (Two.of_below (bdnT (Below.refl _ _) nq)) (fun j _ e => e)
  have S2 : Hid ((w1.drewN nq).heap.size = w.heap.size) := S1
  generalize w1.drewN nq = w2 at P2 T2 S2 ⊢
  clear P1 T1 kp S1
  have kp := (unhide P2).S
  go_wp2_with fail
  go_ret
  exact ⟨rfl, unhide P2, unhide T2⟩
set_option maxHeartbeats 4000000 in
set_option maxRecDepth 100000 in
theorem itick_wait (P lo : Nat) (id : Int) (nd : Nat) (tm vt ro : Int) (c : Nat) (el wt : Int) (up : Bool) (a : Option Addr) (cap n : Nat) (av : Option Addr) (cv nv : Nat) (ax : Option Addr) (cx nx : Nat) (ag : Option Addr) (cg ng : Nat) (l : List Ent) (HN : Hid (l.length = n)) (hn : n ≤ 60) (hnc : n ≤ cap) (hnd : nd ≤ 5) (hnd1 : 1 ≤ nd) (hcn : c ≤ n) (hel : 0 ≤ el ∧ el ≤ 1000) (E1 : Int) (HE1 : Hid (E1 = mn (el + 1) 1000)) (dr : Nat) (hro : ¬ ro = 2) (h2 : ¬ wt ≤ E1) (w : World) (hP : BF P #[.int .i64 id, .int .i64 (nd : Int), .int .i64 tm, .int .i64 vt, .int .i64 ro, .bool up, .slice a n cap, .int .i64 (c : Int), .int .i64 el, .int .i64 wt, .slice av nv cv, .slice ax nx cx, .slice ag ng cg] w)  :
    Calls Try.prog 25 #[.pointer (some ⟨P, 0, none⟩), .int .i64 (dr : Int)] w fun e w' => e = .returned (.slice none 0 0) ∧ BF P #[.int .i64 id, .int .i64 (nd : Int), .int .i64 tm, .int .i64 vt, .int .i64 ro, .bool up, .slice a n cap, .int .i64 (c : Int), .int .i64 E1, .int .i64 wt, .slice av nv cv, .slice ax nx cx, .slice ag ng cg] w' ∧ Two P none w w' := by
  have ew : IntKind.i64.wrap (el + 1) = el + 1 := wrapi _ (by omega) (by omega)
  have hmn : mn (el + 1) 1000 = E1 := (unhide HE1).symm
  obtain ⟨w1, hw1⟩ : ∃ w1, w1 = w.setCell ⟨P, 8, none⟩ (.int .i64 E1) := ⟨_, rfl⟩
  have P1 : Hid (BF P #[.int .i64 id, .int .i64 (nd : Int), .int .i64 tm, .int .i64 vt, .int .i64 ro, .bool up, .slice a n cap, .int .i64 (c : Int), .int .i64 E1, .int .i64 wt, .slice av nv cv, .slice ax nx cx, .slice ag ng cg] w1) := by rw [hw1]; exact hP.set 8 (by simp) _
  have T1 : Hid (Two P none w w1) := by rw [hw1]; exact (Two.of_below (Below.refl _ _)).set
  have S1 : Hid (w1.heap.size = w.heap.size) := by show _ = _; rw [hw1]; simp
  have HW1 := hide hw1
  have kp := hP.S
  have kpf := hP.F
  have PW : Hid (P < w.heap.size) := hP.lt
  clear hP hw1
  go_enter Try.func25, Try.ntmps25
  go_upto_region 2 with fail
  rw [← unhide HW1]
  clear kp kpf HW1 ew hmn
  have kp := (unhide P1).S
  have d0 : (ro == 2) = false := by simpa using hro
  have d1 : (ro != 2) = true := by simpa using hro
  have d2 : decide (wt ≤ E1) = false := decide_eq_false h2
  go_wp2_with fail
  go_quiet (fail)
  have P2 := hide ((unhide P1).below (bdnT (Below.refl _ _) nq))
  have T2 : Hid (Two P none w (w1.drewN nq)) := (unhide T1).trans (Two.of_below (bdnT (Below.refl _ _) nq)) (fun j _ e => e)
  have S2 : Hid ((w1.drewN nq).heap.size = w.heap.size) := S1
  generalize w1.drewN nq = w2 at P2 T2 S2 ⊢
  clear P1 T1 kp S1
  have kp := (unhide P2).S
  go_wp2_with fail
  go_ret
  exact ⟨rfl, unhide P2, unhide T2⟩
set_option maxHeartbeats 4000000 in
set_option maxRecDepth 100000 in
theorem itick_late (P lo : Nat) (id : Int) (nd : Nat) (tm vt ro : Int) (c : Nat) (el wt : Int) (up : Bool) (a : Option Addr) (cap n : Nat) (av : Option Addr) (cv nv : Nat) (ax : Option Addr) (cx nx : Nat) (ag : Option Addr) (cg ng : Nat) (l : List Ent) (HN : Hid (l.length = n)) (hn : n ≤ 60) (hnc : n ≤ cap) (hnd : nd ≤ 5) (hnd1 : 1 ≤ nd) (hcn : c ≤ n) (hel : 0 ≤ el ∧ el ≤ 1000) (E1 : Int) (HE1 : Hid (E1 = mn (el + 1) 1000)) (dr : Nat) (hro : ¬ ro = 2) (h2 : wt ≤ E1) (h3 : ¬ tm < 1000) (w : World) (hP : BF P #[.int .i64 id, .int .i64 (nd : Int), .int .i64 tm, .int .i64 vt, .int .i64 ro, .bool up, .slice a n cap, .int .i64 (c : Int), .int .i64 el, .int .i64 wt, .slice av nv cv, .slice ax nx cx, .slice ag ng cg] w)  :
    Calls Try.prog 25 #[.pointer (some ⟨P, 0, none⟩), .int .i64 (dr : Int)] w fun e w' => e = .returned (.slice none 0 0) ∧ BF P #[.int .i64 id, .int .i64 (nd : Int), .int .i64 tm, .int .i64 vt, .int .i64 ro, .bool up, .slice a n cap, .int .i64 (c : Int), .int .i64 E1, .int .i64 wt, .slice av nv cv, .slice ax nx cx, .slice ag ng cg] w' ∧ Two P none w w' := by
  have ew : IntKind.i64.wrap (el + 1) = el + 1 := wrapi _ (by omega) (by omega)
  have hmn : mn (el + 1) 1000 = E1 := (unhide HE1).symm
  obtain ⟨w1, hw1⟩ : ∃ w1, w1 = w.setCell ⟨P, 8, none⟩ (.int .i64 E1) := ⟨_, rfl⟩
  have P1 : Hid (BF P #[.int .i64 id, .int .i64 (nd : Int), .int .i64 tm, .int .i64 vt, .int .i64 ro, .bool up, .slice a n cap, .int .i64 (c : Int), .int .i64 E1, .int .i64 wt, .slice av nv cv, .slice ax nx cx, .slice ag ng cg] w1) := by rw [hw1]; exact hP.set 8 (by simp) _
  have T1 : Hid (Two P none w w1) := by rw [hw1]; exact (Two.of_below (Below.refl _ _)).set
  have S1 : Hid (w1.heap.size = w.heap.size) := by show _ = _; rw [hw1]; simp
  have HW1 := hide hw1
  have kp := hP.S
  have kpf := hP.F
  have PW : Hid (P < w.heap.size) := hP.lt
  clear hP hw1
  go_enter Try.func25, Try.ntmps25
  go_upto_region 2 with fail
  rw [← unhide HW1]
  clear kp kpf HW1 ew hmn
  have kp := (unhide P1).S
  have d0 : (ro == 2) = false := by simpa using hro
  have d1 : (ro != 2) = true := by simpa using hro
  have d2 : decide (wt ≤ E1) = true := decide_eq_true h2
  have d3 : decide (tm < 1000) = false := decide_eq_false h3
  go_wp2_with fail
  go_quiet (fail)
  have P2 := hide ((unhide P1).below (bdnT (Below.refl _ _) nq))
  have T2 : Hid (Two P none w (w1.drewN nq)) := (unhide T1).trans (Two.of_below (bdnT (Below.refl _ _) nq)) (fun j _ e => e)
  have S2 : Hid ((w1.drewN nq).heap.size = w.heap.size) := S1
  generalize w1.drewN nq = w2 at P2 T2 S2 ⊢
  clear P1 T1 kp S1
  have kp := (unhide P2).S
  go_wp2_with fail
  go_ret
  exact ⟨rfl, unhide P2, unhide T2⟩
set_option maxHeartbeats 4000000 in
set_option maxRecDepth 100000 in
theorem itick_many (P lo : Nat) (id : Int) (nd : Nat) (tm vt ro : Int) (c : Nat) (el wt : Int) (up : Bool) (a : Option Addr) (cap n : Nat) (av : Option Addr) (cv nv : Nat) (ax : Option Addr) (cx nx : Nat) (ag : Option Addr) (cg ng : Nat) (l : List Ent) (HN : Hid (l.length = n)) (hn : n ≤ 60) (hnc : n ≤ cap) (hnd : nd ≤ 5) (hnd1 : 1 ≤ nd) (hcn : c ≤ n) (hel : 0 ≤ el ∧ el ≤ 1000) (E1 : Int) (HE1 : Hid (E1 = mn (el + 1) 1000)) (dr : Nat) (hdr : dr ≤ 1000000) (htm : 0 ≤ tm ∧ tm ≤ 1000) (t1 : Int) (HT1 : Hid (t1 = tm + 1)) (TT : Int) (HT : Hid (TT = tAt l n)) (h5 : 2 ≤ nd) (hro : ¬ ro = 2) (h2 : wt ≤ E1) (h3 : tm < 1000) (w : World) (hP : BF P #[.int .i64 id, .int .i64 (nd : Int), .int .i64 tm, .int .i64 vt, .int .i64 ro, .bool up, .slice a n cap, .int .i64 (c : Int), .int .i64 el, .int .i64 wt, .slice av nv cv, .slice ax nx cx, .slice ag ng cg] w) (hlo : lo ≤ P) (hE : w.ownsRow lo 68 2 (.slice a n cap) n (cE l)) (hEP : (Value.slice a n cap).ownBlock ≠ some P) :
    Calls Try.prog 25 #[.pointer (some ⟨P, 0, none⟩), .int .i64 (dr : Int)] w fun e w' => ∃ gV vm LL lom, e = .returned vm ∧ BF P #[.int .i64 id, .int .i64 (nd : Int), .int .i64 t1, .int .i64 id, .int .i64 1, .bool up, .slice a n cap, .int .i64 (c : Int), .int .i64 0, .int .i64 (5 + (dr : Int) % 8), .slice (some ⟨gV, 0, none⟩) 1 1, .slice ax nx cx, .slice ag ng cg] w' ∧ w'.ownsRow w.heap.size 3 1 (.slice (some ⟨gV, 0, none⟩) 1 1) 1 [.int .i64 id] ∧ (P < lom ∧ gV < lom ∧ w.heap.size ≤ lom) ∧ LL.map (·.1) = asks id t1 n TT nd ∧ MOwn w' lom vm LL ∧ Two P none w w' := by
  have ew : IntKind.i64.wrap (el + 1) = el + 1 := wrapi _ (by omega) (by omega)
  have hmn : mn (el + 1) 1000 = E1 := (unhide HE1).symm
  obtain ⟨w1, hw1⟩ : ∃ w1, w1 = w.setCell ⟨P, 8, none⟩ (.int .i64 E1) := ⟨_, rfl⟩
  have P1 : Hid (BF P #[.int .i64 id, .int .i64 (nd : Int), .int .i64 tm, .int .i64 vt, .int .i64 ro, .bool up, .slice a n cap, .int .i64 (c : Int), .int .i64 E1, .int .i64 wt, .slice av nv cv, .slice ax nx cx, .slice ag ng cg] w1) := by rw [hw1]; exact hP.set 8 (by simp) _
  have T1 : Hid (Two P none w w1) := by rw [hw1]; exact (Two.of_below (Below.refl _ _)).set
  have S1 : Hid (w1.heap.size = w.heap.size) := by show _ = _; rw [hw1]; simp
  have HW1 := hide hw1
  have kp := hP.S
  have kpf := hP.F
  have PW : Hid (P < w.heap.size) := hP.lt
  clear hP hw1
  go_enter Try.func25, Try.ntmps25
  go_upto_region 2 with fail
  rw [← unhide HW1]
  clear kp kpf HW1 ew hmn
  have kp := (unhide P1).S
  have d0 : (ro == 2) = false := by simpa using hro
  have d1 : (ro != 2) = true := by simpa using hro
  have d2 : decide (wt ≤ E1) = true := decide_eq_true h2
  have d3 : decide (tm < 1000) = true := decide_eq_true h3
  go_wp2_with fail
  go_quiet (fail)
  have P2 := hide ((unhide P1).below (bdnT (Below.refl _ _) nq))
  have T2 : Hid (Two P none w (w1.drewN nq)) := (unhide T1).trans (Two.of_below (bdnT (Below.refl _ _) nq)) (fun j _ e => e)
  have S2 : Hid ((w1.drewN nq).heap.size = w.heap.size) := S1
  generalize w1.drewN nq = w2 at P2 T2 S2 ⊢
  clear P1 T1 kp S1
  have kp := (unhide P2).S
  have T := hide (istand_many P lo id nd tm vt ro c E1 wt up a cap n av cv nv ax cx nx ag cg ng l HN hn hnc hnd hnd1 hcn dr hdr htm t1 HT1 TT HT h5 w2 (unhide P2) hlo (own_two hE (unhide T2) hEP) hEP)
  clear hE hEP hlo
  go_wp2_with fail
  refine (unhide T).mono ?_
  clear T
  rintro e w3 ⟨gV, vm, LL, lom, rfl, f1, f2, f3, f4, f5, f6⟩
  rw [unhide S2] at f2 f3
  obtain ⟨am, cm9, rfl, -⟩ := ownZ_rowV f5.row
  have FIN := hide (And.intro f1 (And.intro f2 (And.intro f3 (And.intro f4 (And.intro f5 ((unhide T2).trans f6 (fun j _ e => e)))))))
  clear f1 f2 f3 f4 f5 f6
  go_wp2_with fail
  go_ret
  obtain ⟨f1, f2, f3, f4, f5, f6⟩ := unhide FIN
  exact ⟨gV, _, LL, lom, rfl, f1, f2, f3, f4, f5, f6⟩
set_option maxHeartbeats 4000000 in
set_option maxRecDepth 100000 in
theorem itick_one (P lo : Nat) (id : Int) (nd : Nat) (tm vt ro : Int) (c : Nat) (el wt : Int) (up : Bool) (a : Option Addr) (cap n : Nat) (av : Option Addr) (cv nv : Nat) (ax : Option Addr) (cx nx : Nat) (ag : Option Addr) (cg ng : Nat) (l : List Ent) (HN : Hid (l.length = n)) (hn : n ≤ 60) (hnc : n ≤ cap) (hnd : nd ≤ 5) (hnd1 : 1 ≤ nd) (hcn : c ≤ n) (hel : 0 ≤ el ∧ el ≤ 1000) (E1 : Int) (HE1 : Hid (E1 = mn (el + 1) 1000)) (dr : Nat) (hdr : dr ≤ 1000000) (htm : 0 ≤ tm ∧ tm ≤ 1000) (t1 : Int) (HT1 : Hid (t1 = tm + 1)) (h5 : nd = 1) (hro : ¬ ro = 2) (h2 : wt ≤ E1) (h3 : tm < 1000) (w : World) (hP : BF P #[.int .i64 id, .int .i64 (nd : Int), .int .i64 tm, .int .i64 vt, .int .i64 ro, .bool up, .slice a n cap, .int .i64 (c : Int), .int .i64 el, .int .i64 wt, .slice av nv cv, .slice ax nx cx, .slice ag ng cg] w) (hlo : lo ≤ P) (hE : w.ownsRow lo 68 2 (.slice a n cap) n (cE l)) (hEP : (Value.slice a n cap).ownBlock ≠ some P) :
    Calls Try.prog 25 #[.pointer (some ⟨P, 0, none⟩), .int .i64 (dr : Int)] w fun e w' => ∃ ea ec gN gM gV vm LL lom, e = .returned vm ∧ BF P #[.int .i64 id, .int .i64 (nd : Int), .int .i64 t1, .int .i64 id, .int .i64 2, .bool up, .slice ea (ldL t1 l).length ec, .int .i64 ((advN id t1 nd (ldL t1 l) (List.replicate nd (0 : Int)) c (ldL t1 l).length : Nat) : Int), .int .i64 0, .int .i64 (5 + (dr : Int) % 8), .slice (some ⟨gV, 0, none⟩) 1 1, .slice (some ⟨gN, 0, none⟩) nd nd, .slice (some ⟨gM, 0, none⟩) nd nd] w' ∧ w'.ownsRow lo 68 2 (.slice ea (ldL t1 l).length ec) (ldL t1 l).length (cE (ldL t1 l)) ∧ w'.ownsRow w.heap.size 3 1 (.slice (some ⟨gV, 0, none⟩) 1 1) 1 [.int .i64 id] ∧ w'.ownsRow w.heap.size 3 1 (.slice (some ⟨gN, 0, none⟩) nd nd) nd (cI (List.replicate nd ((n : Int) + 1))) ∧ w'.ownsRow w.heap.size 3 1 (.slice (some ⟨gM, 0, none⟩) nd nd) nd (cI (List.replicate nd (0 : Int))) ∧ (gN ≠ gM ∧ gV ≠ gN ∧ gV ≠ gM) ∧ (∀ j, (Value.slice ea (ldL t1 l).length ec).ownBlock = some j → j ≠ P) ∧ (P < lom ∧ (∀ j, (Value.slice ea (ldL t1 l).length ec).ownBlock = some j → j < lom) ∧ gN < lom ∧ gM < lom ∧ gV < lom ∧ w.heap.size ≤ lom) ∧ LL.map (·.1) = tls id t1 ((advN id t1 nd (ldL t1 l) (List.replicate nd (0 : Int)) c (ldL t1 l).length : Nat) : Int) (ldL t1 l) (fun _ => n) nd ∧ MOwn w' lom vm LL ∧ Two P (Value.slice a n cap).ownBlock w w' := by
  have ew : IntKind.i64.wrap (el + 1) = el + 1 := wrapi _ (by omega) (by omega)
  have hmn : mn (el + 1) 1000 = E1 := (unhide HE1).symm
  obtain ⟨w1, hw1⟩ : ∃ w1, w1 = w.setCell ⟨P, 8, none⟩ (.int .i64 E1) := ⟨_, rfl⟩
  have P1 : Hid (BF P #[.int .i64 id, .int .i64 (nd : Int), .int .i64 tm, .int .i64 vt, .int .i64 ro, .bool up, .slice a n cap, .int .i64 (c : Int), .int .i64 E1, .int .i64 wt, .slice av nv cv, .slice ax nx cx, .slice ag ng cg] w1) := by rw [hw1]; exact hP.set 8 (by simp) _
  have T1 : Hid (Two P none w w1) := by rw [hw1]; exact (Two.of_below (Below.refl _ _)).set
  have S1 : Hid (w1.heap.size = w.heap.size) := by show _ = _; rw [hw1]; simp
  have HW1 := hide hw1
  have kp := hP.S
  have kpf := hP.F
  have PW : Hid (P < w.heap.size) := hP.lt
  clear hP hw1
  go_enter Try.func25, Try.ntmps25
  go_upto_region 2 with fail
  rw [← unhide HW1]
  clear kp kpf HW1 ew hmn
  have kp := (unhide P1).S
  have d0 : (ro == 2) = false := by simpa using hro
  have d1 : (ro != 2) = true := by simpa using hro
  have d2 : decide (wt ≤ E1) = true := decide_eq_true h2
  have d3 : decide (tm < 1000) = true := decide_eq_true h3
  go_wp2_with fail
  go_quiet (fail)
  have P2 := hide ((unhide P1).below (bdnT (Below.refl _ _) nq))
  have T2 : Hid (Two P none w (w1.drewN nq)) := (unhide T1).trans (Two.of_below (bdnT (Below.refl _ _) nq)) (fun j _ e => e)
  have S2 : Hid ((w1.drewN nq).heap.size = w.heap.size) := S1
  generalize w1.drewN nq = w2 at P2 T2 S2 ⊢
  clear P1 T1 kp S1
  have kp := (unhide P2).S
  have T := hide (istand_one P lo id nd tm vt ro c E1 wt up a cap n av cv nv ax cx nx ag cg ng l HN hn hnc hnd hnd1 hcn dr hdr htm t1 HT1 h5 w2 (unhide P2) hlo (own_two hE (unhide T2) hEP) hEP)
  clear hE hEP hlo
  go_wp2_with fail
  refine (unhide T).mono ?_
  clear T
  rintro e w3 ⟨ea, ec, gN, gM, gV, vm, LL, lom, rfl, g1, g2, g3, g4, g5, g6, g7, g8, g9, g10, g11⟩
  rw [unhide S2] at g3 g4 g5 g8
  obtain ⟨am, cm9, rfl, -⟩ := ownZ_rowV g10.row
  have t12 : Two P (Value.slice a n cap).ownBlock w w3 := Two.trans ⟨(unhide T2).os, (unhide T2).tape, (unhide T2).output, (unhide T2).size, fun k hk h1 _ => (unhide T2).block k hk h1 (fun e => by cases e)⟩ g11 (fun j _ e => e)
  have FIN := hide (And.intro g1 (And.intro g2 (And.intro g3 (And.intro g4 (And.intro g5 (And.intro g6 (And.intro g7 (And.intro g8 (And.intro g9 (And.intro g10 t12))))))))))
  clear g1 g2 g3 g4 g5 g6 g7 g8 g9 g10 g11 t12
  go_wp2_with fail
  go_ret
  obtain ⟨g1, g2, g3, g4, g5, g6, g7, g8, g9, g10, g11⟩ := unhide FIN
  exact ⟨ea, ec, gN, gM, gV, _, LL, lom, rfl, g1, g2, g3, g4, g5, g6, g7, g8, g9, g10, g11⟩
end Go.Proofs.Ytjlajpnhcphngaa
