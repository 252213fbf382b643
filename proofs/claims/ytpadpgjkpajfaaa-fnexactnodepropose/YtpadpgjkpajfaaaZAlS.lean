/- The specification's all. -/
import Derived.Test.YtpadpgjkpajfaaaZTeS
namespace Go.Proofs.Ytpadpgjkpajfaaa
open Go.ChangeShapes Go.WideShapes Go.ChangeAt Go.RowKit
set_option linter.unusedVariables false
set_option maxHeartbeats 4000000 in
set_option maxRecDepth 100000 in
theorem sall (P : Nat) (id : Int) (nd : Nat) (tm vt ro : Int) (c : Nat) (el wt : Int) (up : Bool) (a : Option Addr) (cap n : Nat) (av : Option Addr) (cv nv : Nat) (ax : Option Addr) (cx nx : Nat) (ag : Option Addr) (cg ng : Nat) (ao : Option Addr) (no co : Nat) (lo : Nat) (L : List MgA) (HNO : Hid (L.length = no)) (hno : no ≤ 900) (l : List Ent) (HN : Hid (l.length = n)) (hn : n ≤ 1048576) (lx : List Int) (J : Nat → Nat) (HJ : Hid (∀ t (h : t < lx.length), lx[t] = (J t : Int) + 1 ∧ J t ≤ n)) (hnx : Hid (lx.length = nx)) (hnd : nd ≤ 5) (hnn : Hid (nx = nd)) (hcap : n ≤ cap) (w : World) (hP : BF P #[.int .i64 id, .int .i64 (nd : Int), .int .i64 tm, .int .i64 vt, .int .i64 ro, .bool up, .slice a n cap, .int .i64 (c : Int), .int .i64 el, .int .i64 wt, .slice av nv cv, .slice ax nx cx, .slice ag ng cg, .slice ao no co] w) (hM : MOwn w lo (.slice ao no co) L) (hlo : lo ≤ w.heap.size) (hOPo : (Value.slice ao no co).ownBlock ≠ some P) (hOPl : ∀ x ∈ L, (sl x).ownBlock ≠ some P) (hr : RowV w a (cE l)) (hrx : RowV w ax (cI lx)) (hoa : OffA P (Value.slice ao no co).ownBlock a) (hox : OffA P (Value.slice ao no co).ownBlock ax) :
    Calls Try.prog 40 #[.pointer (some ⟨P, 0, none⟩)] w fun e w' => ∃ a1 n1 c1 L1, e = .returned (.tuple #[]) ∧ BF P #[.int .i64 id, .int .i64 (nd : Int), .int .i64 tm, .int .i64 vt, .int .i64 ro, .bool up, .slice a n cap, .int .i64 (c : Int), .int .i64 el, .int .i64 wt, .slice av nv cv, .slice ax nx cx, .slice ag ng cg, .slice a1 n1 c1] w' ∧ MOwn w' lo (.slice a1 n1 c1) (L ++ L1) ∧ L1.map (·.1) = tls id tm (c : Int) l J nd ∧ Two P (Value.slice ao no co).ownBlock w w' := by
  have HR := hide hr
  have HRX := hide hrx
  have HOA := hide hoa
  have HOX := hide hox
  have HOP := hide hOPo
  have HLO := hide hlo
  have HPL : Hid (P < w.heap.size) := hP.lt
  have A0 := hide hP
  have M0 := hide hM
  have L0 := hide hOPl
  clear hr hrx hoa hox hP hM hOPl hOPo hlo
  go_enter Try.func40, Try.ntmps40
  go_wp2_with fail
  go_loopw [2] (fun i wr => ∃ (k a1 : _) (n1 c1 : Nat) (L1 : List MgA), k ≤ nd ∧ n1 ≤ no + k ∧ i = .int .i64 (k : Nat) ∧ Hid ((L ++ L1).length = n1) ∧ Hid (L1.map (·.1) = tls id tm (c : Int) l J k) ∧ Hid (BF P #[.int .i64 id, .int .i64 (nd : Int), .int .i64 tm, .int .i64 vt, .int .i64 ro, .bool up, .slice a n cap, .int .i64 (c : Int), .int .i64 el, .int .i64 wt, .slice av nv cv, .slice ax nx cx, .slice ag ng cg, .slice a1 n1 c1] wr) ∧ Hid (MOwn wr lo (.slice a1 n1 c1) (L ++ L1)) ∧ Hid (∀ x ∈ L ++ L1, (sl x).ownBlock ≠ some P) ∧ Hid (Two P (Value.slice ao no co).ownBlock w wr) ∧ Hid (∀ j, (Value.slice a1 n1 c1).ownBlock = some j → (Value.slice ao no co).ownBlock = some j ∨ w.heap.size ≤ j)) (fun i _ => nd - (intOf i).toNat)
  case atStart => exact ⟨0, ao, no, co, [], by omega, by omega, rfl, by rw [List.append_nil]; exact HNO, rfl, A0, by rw [List.append_nil]; exact M0, by rw [List.append_nil]; exact L0, Two.of_below (Below.refl _ _), fun j hj => .inl hj⟩
  case round =>
    clear A0 M0 L0
    obtain ⟨k, a1, n1, c1, L1, hk, hn1, rfl, HN1, HL, A1, M1, LP, T1, F1⟩ := hrel
    have ka := (unhide A1).S
    by_cases hlt : k < nd
    · have i1 : (k : Int) < (nd : Int) := by omega
      by_cases hid : (k : Int) = id
      · have z1 : ((k : Int) != id) = false := by simpa using hid
        have HL2 : Hid (L1.map (·.1) = tls id tm (c : Int) l J (k + 1)) := by show _ = _; rw [tls_self hid]; exact unhide HL
        clear hid HL
        go_wp2_with fail
        go_roundw
        case rel => exact ⟨k + 1, a1, n1, c1, L1, by omega, by omega, by go_num, HN1, HL2, A1, M1, LP, T1, F1⟩
        case measure => simp [intOf]; omega
      · have z1 : ((k : Int) != id) = true := by simpa using hid
        have hkx : k < lx.length := by rw [unhide hnx, unhide hnn]; exact hlt
        have hjj := unhide HJ k hkx
        have o1 : (Value.slice a1 n1 c1).ownBlock ≠ some P := fun e => by
          rcases unhide F1 P e with h | h
          · exact unhide HOP h
          · have := unhide HPL; omega
        have T := hide (stell P id nd tm vt ro c el wt up a cap n av cv nv ax cx nx ag cg ng a1 n1 c1 lo (L ++ L1) HN1 (by omega) l HN hn lx k (J k) hkx hjj.1 (unhide hnx) hjj.2 hcap wr (unhide A1) (unhide M1) (Nat.le_trans (unhide HLO) (unhide T1).size) o1 (unhide LP) ((unhide HR).two (unhide T1) (unhide HOA)) ((unhide HRX).two (unhide T1) (unhide HOX)))
        have HL2 : Hid (L1.map (·.1) ++ [tellM id tm (c : Int) l J k] = tls id tm (c : Int) l J (k + 1)) := by show _ = _; rw [tls_snoc hid, unhide HL]
        clear hid hkx hjj HL o1
        go_wp2_with fail
        refine (unhide T).mono ?_
        clear T
        rintro e w2 ⟨g7, c7, p, rfl, hP2, hM2, hp2, hT2, hF2, hO2⟩
        have A2 := hide hP2
        have M2 : Hid (MOwn w2 lo (.slice (some ⟨g7, 0, none⟩) (n1 + 1) c7) (L ++ (L1 ++ [p]))) := by rw [← List.append_assoc]; exact hM2
        have LP2 : Hid (∀ x ∈ L ++ (L1 ++ [p]), (sl x).ownBlock ≠ some P) := by rw [← List.append_assoc]; exact hO2
        have HP2 : Hid ((L1 ++ [p]).map (·.1) = tls id tm (c : Int) l J (k + 1)) := by show _ = _; rw [List.map_append, ← unhide HL2, List.map_cons, List.map_nil, hp2]; rfl
        have T2 : Hid (Two P (Value.slice ao no co).ownBlock w w2) := (unhide T1).trans hT2 (fun j hj e => by rcases unhide F1 j e with h | h; exact h; omega)
        have F2 : Hid (∀ j, (Value.slice (some ⟨g7, 0, none⟩) (n1 + 1) c7).ownBlock = some j → (Value.slice ao no co).ownBlock = some j ∨ w.heap.size ≤ j) := fun j hj => by
          have e : g7 = j := Option.some.inj hj
          subst e
          rcases hF2 with h | h
          · exact unhide F1 _ h
          · exact .inr (Nat.le_trans (unhide T1).size h)
        have HN2 : Hid ((L ++ (L1 ++ [p])).length = n1 + 1) := by show _ = _; rw [← List.append_assoc, List.length_append, unhide HN1]; rfl
        clear hP2 hM2 hp2 hT2 hF2 hO2 A1 M1 LP T1 F1 ka HL2
        go_wp2_with fail
        go_roundw
        case rel => exact ⟨k + 1, _, n1 + 1, c7, L1 ++ [p], by omega, by omega, by go_num, HN2, HP2, A2, M2, LP2, T2, F2⟩
        case measure => simp [intOf]; omega
    · obtain rfl : k = nd := by omega
      go_wp2_with fail
      go_end0
      exact ⟨a1, n1, c1, L1, rfl, unhide A1, unhide M1, unhide HL, unhide T1⟩
end Go.Proofs.Ytpadpgjkpajfaaa
