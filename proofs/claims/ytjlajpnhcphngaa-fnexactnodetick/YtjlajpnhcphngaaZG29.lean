/- Texts put together: AlS AdS. -/
import Derived.Test.YtjlajpnhcphngaaZTeS
import Derived.Test.YtjlajpnhcphngaaZAdI
import Derived.BigQuiet
/- The specification's all. -/
namespace Go.Proofs.Ytjlajpnhcphngaa
open Go.ChangeShapes Go.WideShapes Go.ChangeAt Go.RowKit
set_option linter.unusedVariables false
set_option maxHeartbeats 4000000 in
set_option maxRecDepth 100000 in
theorem sall (P : Nat) (id : Int) (nd : Nat) (tm vt ro : Int) (c : Nat) (el wt : Int) (up : Bool) (a : Option Addr) (cap n : Nat) (av : Option Addr) (cv nv : Nat) (ax : Option Addr) (cx nx : Nat) (ag : Option Addr) (cg ng : Nat) (ao : Option Addr) (no co : Nat) (lo : Nat) (L : List MgA) (HNO : Hid (L.length = no)) (hno : no ≤ 900) (l : List Ent) (HN : Hid (l.length = n)) (hn : n ≤ 1048576) (lx : List Int) (J : Nat → Nat) (HJ : Hid (∀ t (h : t < lx.length), lx[t] = (J t : Int) + 1 ∧ J t ≤ n)) (hnx : Hid (lx.length = nx)) (hnd : nd ≤ 5) (hnn : Hid (nx = nd)) (hcap : n ≤ cap) (w : World) (hP : BF P #[.int .i64 id, .int .i64 (nd : Int), .int .i64 tm, .int .i64 vt, .int .i64 ro, .bool up, .slice a n cap, .int .i64 (c : Int), .int .i64 el, .int .i64 wt, .slice av nv cv, .slice ax nx cx, .slice ag ng cg, .slice ao no co] w) (hM : MOwn w lo (.slice ao no co) L) (hlo : lo ≤ w.heap.size) (hOPo : (Value.slice ao no co).ownBlock ≠ some P) (hOPl : ∀ x ∈ L, (sl x).ownBlock ≠ some P) (hr : RowV w a (cE l)) (hrx : RowV w ax (cI lx)) (hoa : OffA P (Value.slice ao no co).ownBlock a) (hox : OffA P (Value.slice ao no co).ownBlock ax) :
    Calls Try.prog 53 #[.pointer (some ⟨P, 0, none⟩)] w fun e w' => ∃ a1 n1 c1 L1, e = .returned (.tuple #[]) ∧ BF P #[.int .i64 id, .int .i64 (nd : Int), .int .i64 tm, .int .i64 vt, .int .i64 ro, .bool up, .slice a n cap, .int .i64 (c : Int), .int .i64 el, .int .i64 wt, .slice av nv cv, .slice ax nx cx, .slice ag ng cg, .slice a1 n1 c1] w' ∧ MOwn w' lo (.slice a1 n1 c1) (L ++ L1) ∧ L1.map (·.1) = tls id tm (c : Int) l J nd ∧ Two P (Value.slice ao no co).ownBlock w w' := by
  have HR := hide hr
  have HRX := hide hrx
  have HOA := hide hoa
  have HOX := hide hox
  have HOP := hide hOPo
  have HLO := hide hlo
  have HPL : Hid (P < w.heap.size) := hP.lt
  have A0 := hide hP
  have M0 := hide hM
  have L0 := hide hOPl
  clear hr hrx hoa hox hP hM hOPl hOPo hlo
  go_enter Try.func53, Try.ntmps53
  go_wp2_with fail
  go_loopw [2] (fun i wr => ∃ (k a1 : _) (n1 c1 : Nat) (L1 : List MgA), k ≤ nd ∧ n1 ≤ no + k ∧ i = .int .i64 (k : Nat) ∧ Hid ((L ++ L1).length = n1) ∧ Hid (L1.map (·.1) = tls id tm (c : Int) l J k) ∧ Hid (BF P #[.int .i64 id, .int .i64 (nd : Int), .int .i64 tm, .int .i64 vt, .int .i64 ro, .bool up, .slice a n cap, .int .i64 (c : Int), .int .i64 el, .int .i64 wt, .slice av nv cv, .slice ax nx cx, .slice ag ng cg, .slice a1 n1 c1] wr) ∧ Hid (MOwn wr lo (.slice a1 n1 c1) (L ++ L1)) ∧ Hid (∀ x ∈ L ++ L1, (sl x).ownBlock ≠ some P) ∧ Hid (Two P (Value.slice ao no co).ownBlock w wr) ∧ Hid (∀ j, (Value.slice a1 n1 c1).ownBlock = some j → (Value.slice ao no co).ownBlock = some j ∨ w.heap.size ≤ j)) (fun i _ => nd - (intOf i).toNat)
  case atStart => exact ⟨0, ao, no, co, [], by omega, by omega, rfl, by rw [List.append_nil]; exact HNO, rfl, A0, by rw [List.append_nil]; exact M0, by rw [List.append_nil]; exact L0, Two.of_below (Below.refl _ _), fun j hj => .inl hj⟩
  case round =>
    clear A0 M0 L0
    obtain ⟨k, a1, n1, c1, L1, hk, hn1, rfl, HN1, HL, A1, M1, LP, T1, F1⟩ := hrel
    have ka := (unhide A1).S
    by_cases hlt : k < nd
    · have i1 : (k : Int) < (nd : Int) := by omega
      by_cases hid : (k : Int) = id
      · have z1 : ((k : Int) != id) = false := by simpa using hid
        have HL2 : Hid (L1.map (·.1) = tls id tm (c : Int) l J (k + 1)) := by show _ = _; rw [tls_self hid]; exact unhide HL
        clear hid HL
        go_wp2_with fail
        go_roundw
        case rel => exact ⟨k + 1, a1, n1, c1, L1, by omega, by omega, by go_num, HN1, HL2, A1, M1, LP, T1, F1⟩
        case measure => simp [intOf]; omega
      · have z1 : ((k : Int) != id) = true := by simpa using hid
        have hkx : k < lx.length := by rw [unhide hnx, unhide hnn]; exact hlt
        have hjj := unhide HJ k hkx
        have o1 : (Value.slice a1 n1 c1).ownBlock ≠ some P := fun e => by
          rcases unhide F1 P e with h | h
          · exact unhide HOP h
          · have := unhide HPL; omega
        have T := hide (stell P id nd tm vt ro c el wt up a cap n av cv nv ax cx nx ag cg ng a1 n1 c1 lo (L ++ L1) HN1 (by omega) l HN hn lx k (J k) hkx hjj.1 (unhide hnx) hjj.2 hcap wr (unhide A1) (unhide M1) (Nat.le_trans (unhide HLO) (unhide T1).size) o1 (unhide LP) ((unhide HR).two (unhide T1) (unhide HOA)) ((unhide HRX).two (unhide T1) (unhide HOX)))
        have HL2 : Hid (L1.map (·.1) ++ [tellM id tm (c : Int) l J k] = tls id tm (c : Int) l J (k + 1)) := by show _ = _; rw [tls_snoc hid, unhide HL]
        clear hid hkx hjj HL o1
        go_wp2_with fail
        refine (unhide T).mono ?_
        clear T
        rintro e w2 ⟨g7, c7, p, rfl, hP2, hM2, hp2, hT2, hF2, hO2⟩
        have A2 := hide hP2
        have M2 : Hid (MOwn w2 lo (.slice (some ⟨g7, 0, none⟩) (n1 + 1) c7) (L ++ (L1 ++ [p]))) := by rw [← List.append_assoc]; exact hM2
        have LP2 : Hid (∀ x ∈ L ++ (L1 ++ [p]), (sl x).ownBlock ≠ some P) := by rw [← List.append_assoc]; exact hO2
        have HP2 : Hid ((L1 ++ [p]).map (·.1) = tls id tm (c : Int) l J (k + 1)) := by show _ = _; rw [List.map_append, ← unhide HL2, List.map_cons, List.map_nil, hp2]; rfl
        have T2 : Hid (Two P (Value.slice ao no co).ownBlock w w2) := (unhide T1).trans hT2 (fun j hj e => by rcases unhide F1 j e with h | h; exact h; omega)
        have F2 : Hid (∀ j, (Value.slice (some ⟨g7, 0, none⟩) (n1 + 1) c7).ownBlock = some j → (Value.slice ao no co).ownBlock = some j ∨ w.heap.size ≤ j) := fun j hj => by
          have e : g7 = j := Option.some.inj hj
          subst e
          rcases hF2 with h | h
          · exact unhide F1 _ h
          · exact .inr (Nat.le_trans (unhide T1).size h)
        have HN2 : Hid ((L ++ (L1 ++ [p])).length = n1 + 1) := by show _ = _; rw [← List.append_assoc, List.length_append, unhide HN1]; rfl
        clear hP2 hM2 hp2 hT2 hF2 hO2 A1 M1 LP T1 F1 ka HL2
        go_wp2_with fail
        go_roundw
        case rel => exact ⟨k + 1, _, n1 + 1, c7, L1 ++ [p], by omega, by omega, by go_num, HN2, HP2, A2, M2, LP2, T2, F2⟩
        case measure => simp [intOf]; omega
    · obtain rfl : k = nd := by omega
      go_wp2_with fail
      go_end0
      exact ⟨a1, n1, c1, L1, rfl, unhide A1, unhide M1, unhide HL, unhide T1⟩
end Go.Proofs.Ytjlajpnhcphngaa

/- To advance: what the specification answers. -/
namespace Go.Proofs.Ytjlajpnhcphngaa
open Go.ChangeShapes Go.WideShapes Go.ChangeAt Go.RowKit
set_option linter.unusedVariables false
theorem bdnA {B : Nat} {a w : World} (h : Below B a w) (n : Nat) : Below B a (w.drewN n) := ⟨h.os, h.tape, h.output, h.size, h.block⟩
theorem adv_low {id tm : Int} {nd : Nat} {l : List Ent} {lg : List Int} {c : Nat} : ∀ k, (∀ j, 0 < j → j ≤ k → tAt l j ≠ tm) → advN id tm nd l lg c k = c
  | 0, _ => rfl
  | k + 1, h => by
    by_cases h1 : k + 1 ≤ c
    · exact advN_end h1
    · rw [advN_miss h1 (fun h2 => h (k + 1) (by omega) (Nat.le_refl _) h2.1)]
      exact adv_low k (fun j h0 hj => h j h0 (by omega))
set_option maxHeartbeats 4000000 in
set_option maxRecDepth 100000 in
theorem sbit1 (b : Bool) (w : World) : Calls Try.prog 71 #[.bool b] w fun e w' => e = .returned (.int .i64 (if b then 1 else 0)) ∧ w' = w := by
  cases b <;> (go_enter Try.func71, Try.ntmps71; go_wp2_with fail; go_ret; exact ⟨rfl, rfl⟩)
set_option maxHeartbeats 4000000 in
set_option maxRecDepth 100000 in
theorem sadvance (P : Nat) (id : Int) (nd : Nat) (tm vt ro : Int) (c : Nat) (el wt : Int) (up : Bool) (a : Option Addr) (cap n : Nat) (av : Option Addr) (cv nv : Nat) (ax : Option Addr) (cx nx : Nat) (ag : Option Addr) (cg ng : Nat) (ov : Value) (l : List Ent) (HN : Hid (l.length = n)) (hn : n ≤ 1048576) (lg : List Int) (HNg : Hid (lg.length = ng)) (hng : Hid (ng = nd)) (hnd : nd ≤ 5) (hc : c ≤ n) (HM : Hid (∀ k, k ≤ n → tAt l k ≠ tm → ∀ j, 0 < j → j ≤ k → tAt l j ≠ tm)) (w : World) (hP : BF P #[.int .i64 id, .int .i64 (nd : Int), .int .i64 tm, .int .i64 vt, .int .i64 ro, .bool up, .slice a n cap, .int .i64 (c : Int), .int .i64 el, .int .i64 wt, .slice av nv cv, .slice ax nx cx, .slice ag ng cg, ov] w) (hr : RowV w a (cE l)) (hrg : RowV w ag (cI lg)) :
    Calls Try.prog 68 #[.pointer (some ⟨P, 0, none⟩)] w fun e w' => e = .returned (.tuple #[]) ∧ BF P #[.int .i64 id, .int .i64 (nd : Int), .int .i64 tm, .int .i64 vt, .int .i64 ro, .bool up, .slice a n cap, .int .i64 ((advN id tm nd l lg c n : Nat) : Int), .int .i64 el, .int .i64 wt, .slice av nv cv, .slice ax nx cx, .slice ag ng cg, ov] w' ∧ w.grownBy w' (some P) := by
  have HRr := hide hr
  have HRg := hide hrg
  have A0 := hide hP
  have ka := hP.S
  clear hr hrg hP
  go_enter Try.func68, Try.ntmps68
  go_wp2_with fail
  clear ka
  go_loopw [2] (fun i wr => ∃ (k : Nat), k ≤ n ∧ i = .int .i64 k ∧ Hid (advN id tm nd l lg c k = advN id tm nd l lg c n) ∧ Hid (BF P #[.int .i64 id, .int .i64 (nd : Int), .int .i64 tm, .int .i64 vt, .int .i64 ro, .bool up, .slice a n cap, .int .i64 (c : Int), .int .i64 el, .int .i64 wt, .slice av nv cv, .slice ax nx cx, .slice ag ng cg, ov] wr) ∧ Hid (Below w.heap.size w wr)) (fun i _ => (intOf i).toNat)
  case atStart => exact ⟨n, Nat.le_refl _, rfl, rfl, A0, Below.refl _ _⟩
  case round =>
    clear A0
    obtain ⟨k, hk, rfl, HI, A2, B2⟩ := hrel
    have ka := (unhide A2).S
    by_cases hlt : c < k
    · obtain ⟨k', hk'⟩ : ∃ k', k = k' + 1 := ⟨k - 1, by omega⟩
      have hkk : k' < k := by omega
      have hkn : k' ≤ n := by omega
      have i1 : decide (c < k) = true := by simpa using hlt
      have i1n : c < k := hlt
      have hsub : IntKind.i64.wrap ((k : Int) - 1) = (k' : Int) := by rw [wrapi _ (by omega) (by omega)]; omega
      have hkl : k' < l.length := by rw [unhide HN]; omega
      obtain ⟨b, off, rfl, hblt, hcl⟩ := (unhide HRr).at (by rw [cE_len]; omega)
      obtain ⟨TT, hTT⟩ : ∃ TT, TT = tAt l k := ⟨_, rfl⟩
      have x0 := (row_ent hcl k' hkl).1
      have e0 : l[k'].1 = TT := by rw [hTT, hk']; exact (tAt_succ l k' hkl).symm
      rw [e0] at x0
      have kx := ((unhide B2).cell (p := ⟨b, off + k' * 2, none⟩) hblt).trans x0
      have j1 : (k' : Int) < (n : Int) := by omega
      have j0 : (0 : Int) ≤ (k' : Int) := by omega
      have hI := unhide HI
      have HKK := hide hk'
      by_cases heq : TT = tm
      · have z1 : (TT == tm) = true := by simpa using heq
        obtain ⟨C, hC⟩ : ∃ C, C = holds id (k : Int) lg := ⟨_, rfl⟩
        have HC := hide hC
        have hC6 : C ≤ 6 := by rw [hC]; have := holds_le id (k : Int) lg; have := unhide HNg; have := unhide hng; omega
        have HH : Hid (if nd < 2 * C then advN id tm nd l lg c n = k else advN id tm nd l lg c k' = advN id tm nd l lg c n) := by
          show if nd < 2 * C then _ else _
          by_cases h2 : nd < 2 * C
          · rw [if_pos h2, ← hI]; subst hk'; exact advN_hit (by omega) (by rw [← hTT]; exact heq) (by rw [← hC]; exact h2)
          · rw [if_neg h2, ← hI]; subst hk'; rw [advN_miss (by omega) (fun h => h2 (by rw [hC]; exact h.2))]
        clear hcl x0 e0 heq hTT hC hI HI hk' hkl
        go_wp2_with fail
        go_quiet (fail)
        have A3 := hide ((unhide A2).below (bdnA (Below.refl _ _) nq))
        have B3 := hide (bdnA (unhide B2) nq)
        generalize wr.drewN nq = wq at A3 B3 ⊢
        clear A2 B2 ka kx
        have ka := (unhide A3).S
        go_wp2_with fail
        clear ka
        go_loopw [3, 4] (fun h i wz => ∃ (q m : Nat), q ≤ nd ∧ m ≤ q + 1 ∧ h = .int .i64 (m : Int) ∧ i = .int .i64 q ∧ Hid (m + holdA id (k : Int) q (lg.drop q) = C) ∧ wz = wq) (fun _ i _ => nd - (intOf i).toNat)
        case atStart => exact ⟨0, 1, by omega, by omega, rfl, rfl, by show _ = _; rw [unhide HC, List.drop_zero]; rfl, rfl⟩
        case round =>
          obtain ⟨q, m, hq, hmq, rfl, rfl, HS, rfl⟩ := hrel
          have ka := (unhide A3).S
          by_cases hqn : q < nd
          · have hql : q < lg.length := by rw [unhide HNg, unhide hng]; exact hqn
            obtain ⟨bg, og, rfl, hbg, hcg⟩ := (unhide HRg).at (by rw [cI_len]; omega)
            obtain ⟨x, ex⟩ : ∃ x, x = lg[q] := ⟨_, rfl⟩
            have hx := ((unhide B3).cell (p := ⟨bg, og + q, none⟩) hbg).trans (hcg q _ (cI_at lg q hql))
            rw [← ex] at hx
            have hS := unhide HS
            rw [holdA_drop id (k : Int) lg q hql, ← ex] at hS
            have y1 : (q : Int) < (nd : Int) := by omega
            have y2 : (q : Int) < (ng : Int) := by have := unhide hng; omega
            have y0 : (0 : Int) ≤ (q : Int) := by omega
            clear hcg ex hql HS
            by_cases g1 : (q : Int) = id
            · have u1 : ((q : Int) != id) = false := by simpa using g1
              rw [if_neg (fun h => h.1 g1), Nat.zero_add] at hS
              have HS2 := hide hS
              clear hS g1
              go_wp2_with fail
              refine (sbit1 false _).mono ?_
              rintro e v5 ⟨rfl, hw5⟩
              subst hw5
              go_wp2_with fail
              go_roundw
              case rel => exact ⟨q + 1, m, by omega, by omega, by first | rfl | go_num, by go_num, HS2, by trivial⟩
              case measure => (simp [intOf]; try omega)
            · have u1 : ((q : Int) != id) = true := by simpa using g1
              by_cases g2 : (k : Int) ≤ x
              · have u2 : decide ((k : Int) ≤ x) = true := decide_eq_true g2
                rw [if_pos ⟨g1, g2⟩] at hS
                have HS2 : Hid (m + 1 + holdA id (k : Int) (q + 1) (lg.drop (q + 1)) = C) := by show _ = _; omega
                clear hS g1
                go_wp2_with fail
                refine (sbit1 true _).mono ?_
                rintro e v5 ⟨rfl, hw5⟩
                subst hw5
                go_wp2_with fail
                go_roundw
                case rel => exact ⟨q + 1, m + 1, by omega, by omega, by first | rfl | go_num, by go_num, HS2, by trivial⟩
                case measure => (simp [intOf]; try omega)
              · have u2 : decide ((k : Int) ≤ x) = false := decide_eq_false g2
                rw [if_neg (fun h => g2 h.2), Nat.zero_add] at hS
                have HS2 := hide hS
                clear hS g1
                go_wp2_with fail
                refine (sbit1 false _).mono ?_
                rintro e v5 ⟨rfl, hw5⟩
                subst hw5
                go_wp2_with fail
                go_roundw
                case rel => exact ⟨q + 1, m, by omega, by omega, by first | rfl | go_num, by go_num, HS2, by trivial⟩
                case measure => (simp [intOf]; try omega)
          · obtain rfl : q = nd := by omega
            have hS := unhide HS
            rw [holdA_end id (k : Int) lg q (by rw [unhide HNg, unhide hng]; exact Nat.le_refl _)] at hS
            obtain rfl : m = C := by omega
            have hwm : IntKind.i64.wrap (2 * (m : Int)) = 2 * (m : Int) := wrapi _ (by omega) (by omega)
            clear hS HS HC
            by_cases h2 : q < 2 * m
            · have hres : advN id tm q l lg c n = k := by have := unhide HH; rw [if_pos h2] at this; exact this
              have y3 : (q : Int) < 2 * (m : Int) := by omega
              have kaf := (unhide A3).F
              obtain ⟨w6, hv6⟩ : ∃ w6, w6 = wr.setCell ⟨P, 7, none⟩ (.int .i64 (k : Int)) := ⟨_, rfl⟩
              have P6 : BF P #[.int .i64 id, .int .i64 (q : Int), .int .i64 tm, .int .i64 vt, .int .i64 ro, .bool up, .slice (some ⟨b, off, none⟩) n cap, .int .i64 (k : Int), .int .i64 el, .int .i64 wt, .slice av nv cv, .slice ax nx cx, .slice ag ng cg, ov] w6 := by rw [hv6]; exact (unhide A3).set 7 (by simp) _
              have G6 : w.grownBy w6 (some P) := by
                have hb := unhide B3
                rw [hv6]
                exact ⟨hb.os, hb.tape, hb.output, by simpa using hb.size, fun q hq hne => by rw [Below.heap_setCell _ _ _ _ (fun e => hne (by rw [e]))]; exact hb.block q hq⟩
              have HP6 := hide P6
              have HG6 := hide G6
              have HV6 := hide hv6
              have HRS := hide hres
              clear P6 G6 HH hv6 hres
              go_wp2_with fail
              rw [← unhide HV6]
              refine bodyPost_ret (v := .tuple #[]) (by simp [results, Try.results68, go_sem]) rfl ⟨rfl, ?_, unhide HG6⟩
              rw [unhide HRS]; exact unhide HP6
            · have HI2 : Hid (advN id tm q l lg c k' = advN id tm q l lg c n) := by show _ = _; have := unhide HH; rw [if_neg h2] at this; exact this
              have y3 : ¬ (q : Int) < 2 * (m : Int) := by omega
              clear HH
              go_wp2_with fail
              go_roundw
              case rel => exact ⟨k', hkn, by first | rfl | go_num, HI2, A3, B3⟩
              case measure => (simp [intOf]; try omega)
      · have z1 : (TT == tm) = false := by simpa using heq
        have hres : advN id tm nd l lg c n = c := by rw [← hI]; exact adv_low k (unhide HM k hk (by rw [← hTT]; exact heq))
        have HRS := hide hres
        clear hcl x0 e0 heq hTT hI HI hk' hkl hres
        go_wp2_with fail
        go_quiet (fail)
        have A3 := hide ((unhide A2).below (bdnA (Below.refl _ _) nq))
        have B3 := hide (bdnA (unhide B2) nq)
        go_wp2_with fail
        go_end0
        have hb := unhide B3
        refine ⟨rfl, ?_, ⟨hb.os, hb.tape, hb.output, hb.size, fun q hq hne => hb.block q hq⟩⟩
        rw [unhide HRS]; exact unhide A3
    · have i1 : decide (c < k) = false := by simpa using hlt
      have hres : advN id tm nd l lg c n = c := by rw [← unhide HI]; exact advN_end (by omega)
      have HRS := hide hres
      clear HI hres
      go_wp2_with fail
      go_quiet (fail)
      have A3 := hide ((unhide A2).below (bdnA (Below.refl _ _) nq))
      have B3 := hide (bdnA (unhide B2) nq)
      go_wp2_with fail
      go_end0
      have hb := unhide B3
      refine ⟨rfl, ?_, ⟨hb.os, hb.tape, hb.output, hb.size, fun q hq hne => hb.block q hq⟩⟩
      rw [unhide HRS]; exact unhide A3
end Go.Proofs.Ytjlajpnhcphngaa
