/- Texts put together: ChgM FndS. -/
import Derived.Test.YtgnecacoehedkaaDoorZOkL
import Derived.Test.YtgnecacoehedkaaDoorZSpM
import Derived.Test.YtgnecacoehedkaaDoorZG4
import Derived.Lib.SmallJoins
/- A right layout's tree; rows behind a store. -/
namespace Go.Proofs.YtgnecacoehedkaaDoor
open Go.ChangeShapes Go.WideShapes Go.ChangeAt Go.RowKit
theorem tofS_ok {l : List Pt} {W H : Int} {t : Tr} (e : tofS l W H = some t) : sizeB W H = true ∧ l = t.flat 0 ∧ t.cnt = l.length ∧ t.cnt ≤ 11 ∧ t.good ∧ t.panes.Nodup ∧ t.fits W H = true := by
 unfold tofS at e
 split at e
 ·rename_i hs; exact ⟨hs, tof_flat e⟩
 ·cases e
theorem row_own {w : World} {base : Nat} {e : TypeId} {z : Nat} {a : Option Addr} {n cap : Nat} {xs : List Value} {k o : Nat} {v : Value} (h : w.ownsRow base e z (.slice a n cap) n xs) (hk : k < base) : RowV (w.setCell ⟨k, o, none⟩ v) a xs := rowZ_at (ownsRow_setCell_below h hk v)
theorem row_far {w : World} {a : Option Addr} {xs : List Value} {k o : Nat} {v : Value} {B : Nat} {w0 : World} (h : RowV w0 a xs) (hb : Below B w0 w) (hB : w0.heap.size ≤ B) (hk : B ≤ k) : RowV (w.setCell ⟨k, o, none⟩ v) a xs :=
 h.below ((hb.setCell (p := ⟨k, o, none⟩) hk v).mono hB)
end Go.Proofs.YtgnecacoehedkaaDoor

/- l05Find, l05Count: what the specification answers. -/
namespace Go.Proofs.YtgnecacoehedkaaDoor
open Go.ChangeShapes Go.WideShapes Go.ChangeAt Go.RowKit
def fnd (l : List Pt) (n : Int) : Prop := ∃ p ∈ l, p.left = -1 ∧ p.pane = n
theorem fnd_flat : ∀ (t : Tr) (k : Nat) (n : Int), fnd (t.flat k) n ↔ n ∈ t.panes := by
 intro t
 induction t using Tr.ind with
 | pane m =>
  intro k n
  constructor
  ·rintro ⟨p, hp, _, h⟩
   simp only [Tr.flat, List.mem_singleton] at hp
   subst hp
   simp only at h
   simp [Tr.panes, h]
  ·intro h
   simp only [Tr.panes, List.mem_singleton] at h
   exact ⟨⟨m, false, 0, -1, -1⟩, by simp [Tr.flat], rfl, h.symm⟩
 | split r s l t ihl ihr =>
  intro k n
  simp only [Tr.panes, List.mem_append, ← ihl (k + 1) n, ← ihr (k + 1 + l.cnt) n]
  constructor
  ·rintro ⟨p, hp, h1, h2⟩
   simp only [Tr.flat, List.mem_cons, List.mem_append] at hp
   rcases hp with h | h | h
   ·subst h; simp only at h1; omega
   ·exact .inl ⟨p, h, h1, h2⟩
   ·exact .inr ⟨p, h, h1, h2⟩
  ·rintro (⟨p, hp, h1, h2⟩ | ⟨p, hp, h1, h2⟩)
   ·exact ⟨p, by simp [Tr.flat, hp], h1, h2⟩
   ·exact ⟨p, by simp [Tr.flat, hp], h1, h2⟩
set_option maxHeartbeats 400000 in
set_option maxRecDepth 100000 in
theorem sfind (a : Option Addr) (cap L : Nat) (l : List Pt) (n : Int) (HLL : Hid (l.length = L)) (hl : L ≤ 1000) (R : Bool) (HRR : Hid (R = true ↔ fnd l n)) (w : World) (hr : RowV w a (cPt l)) :
  Calls Tryd.prog 45 #[.agg #[.slice a L cap], .int .i64 n] w fun e w' => e = .returned (.bool R) ∧ Below w.heap.size w w' := by
 have HB0 := hide (Go.Joins.below_alloc1 w (.cells #[.slice a L cap] 26))
 have BA := hide (BF.new w #[.slice a L cap] 26)
 have HR := hide (hr.below (unhide HB0))
 clear hr
 go_enter Tryd.func45, Tryd.ntmps45
 go_wp2_with fail
 generalize w.alloc (Obj.cells #[.slice a L cap] 26) = w1 at HB0 BA HR ⊢
 have a1 := (unhide BA).S
 go_loopw [5] (fun i wr => ∃ j : Nat, j ≤ L ∧ i = .int .i64 j ∧ wr = w1 ∧ Hid (∀ p ∈ l.take j, ¬ (p.left = -1 ∧ p.pane = n))) (fun i _ => L - (intOf i).toNat)
 case atStart => exact ⟨0, by omega, rfl, rfl, fun p hp => by simp at hp⟩
 case round =>
  obtain ⟨j, hj, rfl, rfl, HM⟩ := hrel
  by_cases hlt : j < L
  ·have hjl : j < l.length := by rw [unhide HLL]; exact hlt
   obtain ⟨b, off, ha, hblt, hc⟩ := (unhide HR).at (by rw [cPt_len, unhide HLL]; omega)
   subst ha
   obtain ⟨x0, x1, x2, x3, x4⟩ := rowPt hc j hjl
   obtain ⟨p, hp⟩ : ∃ p, p = l[j] := ⟨_, rfl⟩
   rw [← hp] at x0 x3
   have hlt' : (j : Int) < (L : Int) := by omega
   have hj0 : (0 : Int) ≤ (j : Int) := by omega
   by_cases hn : p.left = -1 ∧ p.pane = n
   ·have hRt : R = true := (unhide HRR).2 ⟨p, by rw [hp]; exact List.getElem_mem hjl, hn⟩
    clear HRR
    subst hRt
    rw [hn.1] at x3
    rw [hn.2] at x0
    clear hc hp hjl HR x1 x2 x4 hn
    go_wp2_with fail
    go_ret
    exact ⟨rfl, unhide HB0⟩
   ·have HV : Hid (∀ p ∈ l.take (j + 1), ¬ (p.left = -1 ∧ p.pane = n)) := by
     intro q hq
     rw [List.take_succ_eq_append_getElem hjl, List.mem_append, List.mem_singleton] at hq
     rcases hq with h | h
     ·exact unhide HM q h
     ·rw [h, ← hp]; exact hn
    have hpp : (¬ p.left = -1) ∨ (p.left = -1 ∧ ¬ p.pane = n) := by
     by_cases h : p.left = -1
     ·exact .inr ⟨h, fun h2 => hn ⟨h, h2⟩⟩
     ·exact .inl h
    clear hc hp hjl HR x1 x2 x4 hn
    rcases hpp with h1 | ⟨h1, h2⟩
    ·go_wp2_with fail
     go_roundw
     case rel => exact ⟨j + 1, by omega, by go_num, by first | rfl | trivial, HV⟩
     case measure => simp [intOf]; omega
    ·rw [h1] at x3
     clear h1
     go_wp2_with fail
     go_roundw
     case rel => exact ⟨j + 1, by omega, by go_num, by first | rfl | trivial, HV⟩
     case measure => simp [intOf]; omega
  ·have hRf : R = false := by
    cases R with
    | false => rfl
    | true =>
     obtain ⟨p, hp, h⟩ := (unhide HRR).1 rfl
     exact absurd h (unhide HM p (by rw [List.take_of_length_le (by rw [unhide HLL]; omega)]; exact hp))
   clear HRR
   subst hRf
   go_wp2_with fail
   go_ret
   exact ⟨rfl, unhide HB0⟩
theorem scount (a : Option Addr) (cap L : Nat) (hl : L ≤ 1000) (w : World) :
  Calls Tryd.prog 46 #[.agg #[.slice a L cap]] w fun e w' => ∃ x : Int, e = .returned (.int .i64 x) ∧ Below w.heap.size w w' ∧ (x = 1 ↔ L = 1 ∨ L = 2) := by
 have HB0 := hide (Go.Joins.below_alloc1 w (.cells #[.slice a L cap] 26))
 have hL : (L : Int) ≤ 1000 := by omega
 go_enter Tryd.func46, Tryd.ntmps46
 go_wp2_with fail
 go_ret
 refine ⟨_, rfl, unhide HB0, ?_⟩
 omega
end Go.Proofs.YtgnecacoehedkaaDoor
