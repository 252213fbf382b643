/- Texts put together: AftI MarkS EntL WinI. -/
import Derived.Test.YtkdplhhkkpkmoaaDoorZRrI
import Derived.Test.YtkdplhhkkpkmoaaDoorZG13
import Derived.Test.YtkdplhhkkpkmoaaDoorZG3
import Derived.Test.YtkdplhhkkpkmoaaDoorZG2
import Derived.Test.YtkdplhhkkpkmoaaDoorZG10
import Derived.Lib.SmallJoins
import Derived.Test.YtkdplhhkkpkmoaaDoorZG0
/- (State).after: what the program answers. -/
namespace Go.Proofs.YtkdplhhkkpkmoaaDoor
open Go.ChangeShapes Go.WideShapes Go.ChangeAt Go.RowKit
set_option linter.unusedVariables false
theorem recP_parts {t f : ByteArray} {ns : List Int} {r : List ByteArray} (h : recP t = some (f, ns, r)) : ∃ f1, rfOf t.data.toList = some (f :: f1 :: r) ∧ ns = rnL f1.data.toList ∧ 0 = rnC f1.data.toList := by
 unfold recP at h
 split at h
 ·rename_i f0 f1 r1 hm
  by_cases hc : rnC f1.data.toList = 0
  ·rw [if_pos hc] at h
   injection h with h; injection h with h1 h2; injection h2 with h2 h3
   subst h1 h2 h3
   exact ⟨f1, hm, rfl, hc.symm⟩
  ·rw [if_neg hc] at h; cases h
 ·cases h
theorem irec_none (t : ByteArray) (ht : t.size ≤ 65536) (HF : Hid (∀ m, rfOf t.data.toList = some m → ∀ k (hk : k < m.length), m[k].size ≤ 20000)) (H : Hid (recP t = none)) {x0 x1 x2 x3 x4 : Addr} (w : World) (hE : ErrsIn w) (hS : StE w x0 x1 x2 x3 x4) :
  Calls Tryd.prog 45 #[.string t] w fun e w' => e = .returned (.tuple #[.agg #[.string ⟨#[]⟩, .slice none 0 0, .slice none 0 0], .iface 124 (.pointer (some x0))]) ∧ Below w.heap.size w w' := by
 by_cases hm : ∀ m, rfOf t.data.toList = some m → m.length < 2
 ·exact irec_few t ht hm w hE hS
 ·obtain ⟨m, hm⟩ := Classical.not_forall.1 hm
  obtain ⟨h1, h2⟩ := Classical.not_imp.1 hm
  match m, h1, h2 with
  | f0 :: f1 :: r, h1, h2 =>
   refine irec_num t f0 f1 r ht (unhide HF _ h1 1 (by simp)) h1 _ rfl (fun hc => ?_) w hE hS
   have := unhide H
   rw [recP_some h1 hc] at this
   cases this
  | [_], _, h2 => exact absurd (by simp) h2
  | [], _, h2 => exact absurd (by simp) h2
theorem irec_some (t f : ByteArray) (L : List Int) (r : List ByteArray) (ht : t.size ≤ 65536) (HF : Hid (∀ m, rfOf t.data.toList = some m → ∀ k (hk : k < m.length), m[k].size ≤ 20000)) (H : Hid (recP t = some (f, L, r))) (n p : Nat) (HN : Hid (L.length = n)) (HP : Hid (r.length = p)) (w : World) (hE : ErrsIn w) :
  Calls Tryd.prog 45 #[.string t] w fun e w' => ∃ a cap a2 cap2, e = .returned (.tuple #[.agg #[.string f, .slice a n cap, .slice a2 p cap2], .nilIface]) ∧ RowV w' a (cI L) ∧ RowV w' a2 (cS r) ∧ (∀ x, a = some x → w.heap.size ≤ x.block) ∧ (∀ x, a2 = some x → w.heap.size ≤ x.block) ∧ Below w.heap.size w w' := by
 obtain ⟨f1, h1, h2, h3⟩ := recP_parts (unhide H)
 exact irec_ok t f f1 r ht (unhide HF _ h1 1 (by simp)) h1 L h2 h3 n p HN HP w hE
set_option maxHeartbeats 1000000 in
set_option maxRecDepth 100000 in
theorem iafter_none (tm vt : Int) (a : Option Addr) (cap n : Nat) (t : ByteArray) (ht : t.size ≤ 65536) (HF : Hid (∀ m, rfOf t.data.toList = some m → ∀ k (hk : k < m.length), m[k].size ≤ 20000)) (H : Hid (recP t = none)) {x0 x1 x2 x3 x4 : Addr} (w : World) (hE : ErrsIn w) (hS : StE w x0 x1 x2 x3 x4) :
  Calls Tryd.prog 37 #[.agg #[.int .i64 tm, .int .i64 vt, .slice a n cap], .string t] w fun e w' => e = .returned (.tuple #[.agg #[.int .i64 0, .int .i64 0, .slice none 0 0], .iface 124 (.pointer (some x0))]) ∧ Below w.heap.size w w' := by
 have B0 := hide (Go.Joins.below_alloc2 w (.cells #[.int .i64 tm, .int .i64 vt, .slice a n cap] 25) (.cells #[.int .i64 0, .int .i64 0, .slice none 0 0] 25))
 have A0 := hide ((BF.new w #[.int .i64 tm, .int .i64 vt, .slice a n cap] 25).alloc (.cells #[.int .i64 0, .int .i64 0, .slice none 0 0] 25))
 have Z0 := hide (BF.new (w.alloc (.cells #[.int .i64 tm, .int .i64 vt, .slice a n cap] 25)) #[.int .i64 0, .int .i64 0, .slice none 0 0] 25)
 rw [show (w.alloc (.cells #[.int .i64 tm, .int .i64 vt, .slice a n cap] 25)).heap.size = w.heap.size + 1 from by simp] at Z0
 have T := irec_none t ht HF H _ (hE.below (unhide B0)) (hS.below (unhide B0))
 clear hE hS
 go_enter Tryd.func37, Tryd.ntmps37
 go_wp2_with fail
 refine T.mono ?_
 clear T
 rintro e w1 ⟨rfl, hb1⟩
 have B1 := hide ((unhide B0).trans (hb1.mono (unhide B0).size))
 have Z1 := hide ((unhide Z0).below hb1)
 have B2 := hide ((unhide B1).alloc (unhide B1).size (.cells #[.string ⟨#[]⟩, .slice none 0 0, .slice none 0 0] 77))
 have Z2 := hide ((unhide Z1).alloc (.cells #[.string ⟨#[]⟩, .slice none 0 0, .slice none 0 0] 77))
 have hsz := (unhide B1).size
 have kz := (unhide Z1).S
 have kf := (unhide Z1).F
 have hlt := (unhide Z1).lt
 clear B0 A0 Z0 hb1
 go_wp2_with fail
 refine bodyPost_ret (v := .tuple #[.agg #[.int .i64 0, .int .i64 0, .slice none 0 0], .iface 124 (.pointer (some x0))]) (by simp [results, Tryd.results37, go_sem, kz, hlt]) rfl ⟨rfl, ?_⟩
 refine Below.alloc ?_ (by simpa using hsz) _
 repeat refine Below.setCell ?_ (by first | exact Nat.le_succ _ | exact Nat.le_refl _) _
 exact unhide B1
end Go.Proofs.YtkdplhhkkpkmoaaDoor

/- Rows of texts: marked by the laws' own helper. -/
namespace Go.Proofs.YtkdplhhkkpkmoaaDoor
open Go.ChangeShapes Go.WideShapes Go.ChangeAt Go.RowKit
def onesString (n : Nat) : List Value := (List.range n).map fun j => .string (mtS (1 + j))
theorem below_asGrown {w w' : World} {row : Option Nat} (h : Below w.heap.size w w') : w.grownBy w' row := ⟨h.os, h.tape, h.output, h.size, fun k hk _ => h.block k hk⟩
end Go.Proofs.YtkdplhhkkpkmoaaDoor

/- Rows of entries, states: the laws' own helpers. -/
namespace Go.Proofs.YtkdplhhkkpkmoaaDoor
open Go.ChangeShapes Go.WideShapes Go.ChangeAt Go.RowKit
theorem Tryd.infL46 : (Tryd.prog.info? 46).map (fun i => (i.zero, i.size, i.bytes)) = some (some (.agg #[.int .i64 0, .string ⟨#[]⟩]), 2, 24) := by kernel_rfl
end Go.Proofs.YtkdplhhkkpkmoaaDoor

/- within: what the program answers. -/
namespace Go.Proofs.YtkdplhhkkpkmoaaDoor
open Go.ChangeShapes Go.WideShapes Go.ChangeAt Go.RowKit
set_option linter.unusedVariables false
set_option maxHeartbeats 400000 in
theorem iwi (x a b : Int) (R : Bool) (HR : Hid (R = inB x a b)) (w : World) : Calls Tryd.prog 20 #[.int .i64 x, .int .i64 a, .int .i64 b] w fun e w' => e = .returned (.bool R) ∧ w' = w := by
 by_cases h1 : a ≤ x
 ·by_cases h2 : x ≤ b
  all_goals
   go_enter Tryd.func20, Tryd.ntmps20
   go_wp2_with fail
   go_ret
   exact ⟨ret_bool (by rw [unhide HR]; unfold inB; rw [Bool.eq_iff_iff]; simp <;> omega), rfl⟩
 ·go_enter Tryd.func20, Tryd.ntmps20
  go_wp2_with fail
  go_ret
  exact ⟨ret_bool (by rw [unhide HR]; unfold inB; rw [Bool.eq_iff_iff]; simp <;> omega), rfl⟩
end Go.Proofs.YtkdplhhkkpkmoaaDoor
