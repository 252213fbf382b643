/- Texts put together: AlkI StepStr RecI RecJ RecK ComS. -/
import Derived.Test.YtamjljhbnhdgdaaDoorZG16
import Derived.Test.YtamjljhbnhdgdaaDoorZG23
import Derived.Test.YtamjljhbnhdgdaaDoorZG2
import Derived.Test.YtamjljhbnhdgdaaDoorZG1
import Derived.Lib.AppendStr
import Derived.Test.YtamjljhbnhdgdaaDoorZG13
import Derived.Deep.AppendLies
/- Entries that two logs have alike from the front on: what the program answers. -/
namespace Go.Proofs.YtamjljhbnhdgdaaDoor
open Go.ChangeShapes Go.WideShapes Go.ChangeAt Go.RowKit
set_option linter.unusedVariables false
attribute [local go_sem ↓] run_eqEnt run_mn
end Go.Proofs.YtamjljhbnhdgdaaDoor

/- append of a text's bytes, and of a row that is not empty, at a step of a region that draws its order. -/
namespace Go.Proofs.YtamjljhbnhdgdaaDoor
open Go.ChangeShapes Go.WideShapes Go.ChangeAt Go.RowKit
theorem step_append_string {P : Program} (w : World) {ops : Array Oper} {o : Oper} {a : Act} {K : Act → World → Prop} {Q : Exit → Act → World → Prop} {E : Prop} (hgd : o.guard = none) (sl x : Operand) (t u : TypeId)
  (ho : o.op = .call { callee := .builtin .append, args := #[sl, x], argTypes := #[t, u] })
  (base : Nat) (e : TypeId) (i : TypeInfo) (ht : P.underlying t = some (.slice e)) (hu : P.underlying u = some .string) (hi : P.info? e = some i) (hz : i.zero = some (.int .u8 0))
  (hsize : i.size = 1) (hby : i.bytes = 1)
  (v : Value) (n : Nat) (xs : List Value) (hs : a.eval sl = v) (hown : w.ownsRow base e 1 v n xs) (s : ByteArray) (hx : a.eval x = .string s)
  (h63 : n + s.size ≤ maxLen) (hbytes : n + s.size ≤ 140737488355328) (hbase : base ≤ w.heap.size)
  (h : ∀ v' w', w'.ownsRow base e 1 v' (n + s.size) (xs ++ B8 s.data.toList) → w.grownBy w' v.ownBlock → (v' = .slice none 0 0 ↔ v = .slice none 0 0 ∧ s.size = 0) → K (a.put o.dst v') w') :
  if Region.wanted o (yielded ops a.tmps) = true then Oper.wp P o a w K Q else E := by
 have hw : Region.wanted o (yielded ops a.tmps) = true := by simp [Region.wanted, hgd]
 rw [if_pos hw]
 obtain ⟨v', w', hr, h2, h3, h4⟩ := Go.Lib.run_append_own_string (P := P) w base t u o.type e i ht hu hi hz hsize hby v n xs hown s h63 hbytes hbase
 unfold Oper.wp execOp
 simp only [ho, resolve, invoke, builtin, Sem.run_bind, Sem.run_pure, Result.andThen_ok, List.map_toArray, List.map_cons, List.map_nil, hs, hx, hr]
 exact h v' w' h2 h3 h4
theorem own_some {w : World} {base : Nat} {e : TypeId} {v : Value} {n : Nat} {xs : List Value} (h : w.ownsRow base e 1 v n xs) (hn : 0 < n) :
  ∃ g cap, v = .slice (some ⟨g, 0, none⟩) n cap ∧ base ≤ g ∧ g < w.heap.size ∧ n ≤ cap ∧ ∀ j u, xs[j]? = some u → w.cell? ((⟨g, 0, none⟩ : Addr).add j) = some u := by
 rcases h.2 with ⟨_, rfl⟩ | ⟨g, cap, cur, rfl, hbg, hg, hnc, _⟩
 ·omega
 ·exact ⟨g, cap, rfl, hbg, (h.lt g rfl).2, hnc, h.cells (g := g) rfl⟩
end Go.Proofs.YtamjljhbnhdgdaaDoor

/- Records between states: what the program answers. -/
namespace Go.Proofs.YtamjljhbnhdgdaaDoor
open Go.ChangeShapes Go.WideShapes Go.ChangeAt Go.RowKit
set_option linter.unusedVariables false
end Go.Proofs.YtamjljhbnhdgdaaDoor

/- Records between states: what the program answers. -/
namespace Go.Proofs.YtamjljhbnhdgdaaDoor
open Go.ChangeShapes Go.WideShapes Go.ChangeAt Go.RowKit
set_option linter.unusedVariables false
end Go.Proofs.YtamjljhbnhdgdaaDoor

/- Records between states: what the program answers. -/
namespace Go.Proofs.YtamjljhbnhdgdaaDoor
open Go.ChangeShapes Go.WideShapes Go.ChangeAt Go.RowKit
set_option linter.unusedVariables false
end Go.Proofs.YtamjljhbnhdgdaaDoor

/- Entries that two logs have alike from the front on: what the specification answers. -/
namespace Go.Proofs.YtamjljhbnhdgdaaDoor
open Go.ChangeShapes Go.WideShapes Go.ChangeAt Go.RowKit
set_option linter.unusedVariables false
attribute [local go_sem ↓] run_eqEnt
set_option maxHeartbeats 2000000 in
set_option maxRecDepth 100000 in
theorem scommon (a c : Option Addr) (cap cap2 n n2 : Nat) (l m : List Ent) (HN : Hid (l.length = n)) (HN2 : Hid (m.length = n2)) (hn : n ≤ 60) (hn2 : n2 ≤ 60) (K : Nat) (HK : Hid (comN l m = K)) (w : World) (hr : RowV w a (cE l)) (hr2 : RowV w c (cE m)) :
  Calls Tryd.prog 35 #[.slice a n cap, .slice c n2 cap2] w fun e w' => e = .returned (.int .i64 (K : Int)) ∧ Below w.heap.size w w' := by
 have HR := hide hr
 have HR2 := hide hr2
 have HCL := hide (cE_len l)
 have HCM := hide (cE_len m)
 clear hr hr2
 go_enter Tryd.func35, Tryd.ntmps35
 go_wp2_with fail
 go_loopw [5] (fun i wr => ∃ k : Nat, k ≤ n ∧ k ≤ n2 ∧ i = .int .i64 k ∧ Hid (K = k + comN (l.drop k) (m.drop k)) ∧ Hid (Below w.heap.size w wr)) (fun i _ => n - (intOf i).toNat)
 case atStart => exact ⟨0, by omega, by omega, rfl, by show _ = _; simp [unhide HK], Below.refl _ _⟩
 case round =>
  obtain ⟨k, hk, hk2, rfl, HQ, HB⟩ := hrel
  by_cases hlt : k < n
  ·by_cases hlt2 : k < n2
   ·obtain ⟨b, off, ha, hblt, hc⟩ := (unhide HR).at (by rw [unhide HCL, unhide HN]; omega)
    obtain ⟨b2, off2, ha2, hblt2, hc2⟩ := (unhide HR2).at (by rw [unhide HCM, unhide HN2]; omega)
    subst ha ha2
    have hlk : k < l.length := by rw [unhide HN]; exact hlt
    have hmk : k < m.length := by rw [unhide HN2]; exact hlt2
    obtain ⟨x0, x1⟩ := row_ent hc k hlk
    obtain ⟨y0, y1⟩ := row_ent hc2 k hmk
    obtain ⟨t, et⟩ : ∃ t, t = l[k].1 := ⟨_, rfl⟩
    obtain ⟨d, ed⟩ : ∃ d, d = l[k].2 := ⟨_, rfl⟩
    obtain ⟨u, eu⟩ : ∃ u, u = m[k].1 := ⟨_, rfl⟩
    obtain ⟨e, ee⟩ : ∃ e, e = m[k].2 := ⟨_, rfl⟩
    rw [← et] at x0
    rw [← ed] at x1
    rw [← eu] at y0
    rw [← ee] at y1
    have hx0 : wr.cell? ⟨b, off + k * 2, none⟩ = some (.int .i64 t) := ((unhide HB).cell (p := ⟨b, off + k * 2, none⟩) hblt).trans x0
    have hx1 : wr.cell? ⟨b, off + k * 2 + 1, none⟩ = some (.string d) := ((unhide HB).cell (p := ⟨b, off + k * 2 + 1, none⟩) hblt).trans x1
    have hy0 : wr.cell? ⟨b2, off2 + k * 2, none⟩ = some (.int .i64 u) := ((unhide HB).cell (p := ⟨b2, off2 + k * 2, none⟩) hblt2).trans y0
    have hy1 : wr.cell? ⟨b2, off2 + k * 2 + 1, none⟩ = some (.string e) := ((unhide HB).cell (p := ⟨b2, off2 + k * 2 + 1, none⟩) hblt2).trans y1
    have d1 : decide ((k : Int) < (n : Int)) = true := decide_eq_true (by omega)
    have d2 : decide ((k : Int) < (n2 : Int)) = true := decide_eq_true (by omega)
    have i1 : (k : Int) < (n : Int) := by omega
    have i2 : (k : Int) < (n2 : Int) := by omega
    have i0 : (0 : Int) ≤ (k : Int) := by omega
    have hcmp := ent_cmp et ed eu ee (h1 := hlk) (h2 := hmk)
    cases heq : entEq t u d e with
    | true =>
     have HQ2 := unhide HQ
     rw [comN_step hlk hmk (hcmp.1 heq)] at HQ2
     have HQ3 := hide HQ2
     clear HQ2 hc hc2 x0 x1 y0 y1 et ed eu ee HQ HR HR2 hcmp
     go_wp2_with fail
     go_quiet (fail)
     go_wp2_with fail
     go_roundw
     case rel => exact ⟨k + 1, by omega, by omega, by go_num, by show _ = _; have := unhide HQ3; omega, bdN (unhide HB) _⟩
     case measure => simp [intOf]; omega
    | false =>
     have HQ2 := unhide HQ
     rw [comN_stop hlk hmk (hcmp.2 heq)] at HQ2
     obtain rfl : K = k := by omega
     clear HQ2 hc hc2 x0 x1 y0 y1 et ed eu ee HQ HR HR2 hcmp HK
     go_wp2_with fail
     go_quiet (fail)
     go_wp2_with fail
     go_ret
     exact ⟨rfl, bdN (unhide HB) _⟩
   ·obtain rfl : K = k := by have := unhide HQ; rw [comN_nil2 _ _ _ (by rw [unhide HN2]; omega)] at this; omega
    have d1 : decide ((K : Int) < (n : Int)) = true := decide_eq_true (by omega)
    have d2 : decide ((K : Int) < (n2 : Int)) = false := decide_eq_false (by omega)
    go_wp2_with fail
    go_quiet (fail)
    go_wp2_with fail
    go_ret
    exact ⟨rfl, bdN (unhide HB) _⟩
  ·obtain rfl : K = k := by have := unhide HQ; rw [comN_nil1 _ _ _ (by rw [unhide HN]; omega)] at this; omega
   have d1 : decide ((K : Int) < (n : Int)) = false := decide_eq_false (by omega)
   go_wp2_with fail
   go_quiet (fail)
   go_wp2_with fail
   go_ret
   exact ⟨rfl, bdN (unhide HB) _⟩
end Go.Proofs.YtamjljhbnhdgdaaDoor
