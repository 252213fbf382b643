/- Texts put together: KeepE AftI MarkS EntL WinI. -/
import Derived.Test.YtamjljhbnhdgdaaDoorZG9
import Derived.Test.YtamjljhbnhdgdaaDoorZRrI
import Derived.Test.YtamjljhbnhdgdaaDoorZG2
import Derived.Test.YtamjljhbnhdgdaaDoorZG3
import Derived.Test.YtamjljhbnhdgdaaDoorZG7
import Derived.Lib.SmallJoins
/- append that keeps the old row: what a slice held stands beside what the longer one holds. -/
namespace Go.Proofs.YtamjljhbnhdgdaaDoor
open Go.ChangeShapes Go.WideShapes Go.ChangeAt Go.RowKit
set_option linter.unusedVariables false
theorem run_append_keep {P : Program} (w : World) (base : Nat) (t ty e : TypeId) (i : TypeInfo) (z : Value) (ht : P.underlying t = some (.slice e)) (hi : P.info? e = some i) (hz : i.zero = some z) (hzs : z.cells.size = i.size) (hsz : 0 < i.size) (hby : i.bytes ≤ 24)
  (v : Value) (n : Nat) (xs : List Value) (hown : w.ownsRow base e i.size v n xs) (a : Addr) (m c : Nat) (news : List Value) (hl : news.length = m * i.size) (hnews : ∀ j u, news[j]? = some u → w.cell? (a.add j) = some u) (h1 : ∀ u ∈ news, u.oneCell' = true) (hm0 : 0 < m) (hlen : n + m ≤ 2000000) (hbase : base ≤ w.heap.size) :
  ∃ v' w', (Builtin.append_ #[t, t] ty #[v, .slice (some a) m c]).run P w = .ok v' w' ∧ w'.ownsRow base e i.size v' (n + m) (xs ++ news) ∧ w'.ownsRow base e i.size v n xs ∧ w.grownBy w' v.ownBlock := by
 have h63 : n + m ≤ maxLen := by unfold maxLen; omega
 have hbytes : (n + m) * i.bytes ≤ 140737488355328 := Nat.le_trans (Nat.mul_le_mul hlen hby) (by decide)
 have hlen2 : (xs ++ news).length = (n + m) * i.size := by rw [List.length_append, hown.1, hl, Nat.add_mul]
 rcases hown.2 with ⟨rfl, rfl⟩ | ⟨g, cap, cur, rfl, hbg, hg, hnc, hcm, hcs, htake⟩
 ·obtain ⟨v', w', hr, h2, h3, -, -⟩ := run_append_own_at (P := P) w base t ty e i z i.size i.bytes ht hi hz rfl rfl hzs hsz _ 0 xs hown a m c news hl hnews h1 h63 hbytes hbase
  exact ⟨v', w', hr, h2, ⟨hown.1, .inl ⟨rfl, rfl⟩⟩, h3⟩
 ·by_cases hroom : n + m ≤ cap
  ·have hf := run_firstCells_some (P := P) w i.size m a m c news hl hnews
   have hmul : n * i.size + m * i.size ≤ cap * i.size := by rw [← Nat.add_mul]; exact Nat.mul_le_mul_right _ hroom
   obtain ⟨w', cur', hr, hg', hgr, hsz', htk⟩ := store_free P g (n * i.size) e (0, 0) news 0 cur w hg (.inl (Nat.le_refl _)) (by rw [hl, hcs]; omega) h1
   have htk2 : cur'.toList.take ((n + m) * i.size) = xs ++ news := by
    have := htk
    rw [Nat.add_zero, hl, ← Nat.add_mul, htake] at this
    exact this
   refine ⟨.slice (some ⟨g, 0, none⟩) (n + m) cap, w', ?_, ⟨hlen2, .inr ⟨g, cap, cur', rfl, hbg, hg', hroom, hcm, by rw [hsz']; exact hcs, htk2⟩⟩, ⟨hown.1, .inr ⟨g, cap, cur', rfl, hbg, hg', hnc, hcm, by rw [hsz']; exact hcs, ?_⟩⟩, hgr⟩
   ·simp [Builtin.append_, run_underlying ht, sizeOf, typeInfo, hi, Builtin.lenOf, hroom, hf, Addr.add_lit, hr]
   ·have h9 : (cur'.toList.take ((n + m) * i.size)).take (n * i.size) = xs := by
     rw [htk2, ← hown.1]; exact List.take_left
    rw [List.take_take, Nat.min_eq_left (Nat.mul_le_mul_right _ (Nat.le_add_right _ _))] at h9
    exact h9
  ·have holds : ∀ j u, xs[j]? = some u → w.cell? ((⟨g, 0, none⟩ : Addr).add j) = some u := hown.cells (g := g) rfl
   have hr := run_append_grow (P := P) w t ty e i z ht hi hz ⟨g, 0, none⟩ n cap xs hown.1 holds a m c news hl hnews (by omega) (by unfold maxLen at h63; omega) (growslice_fits (by omega) hbytes)
   have hge := grownCap_ge w (n + m) cap e
   have hcm2 : grownCap w (n + m) cap e ≤ maxLen := grownCap_le_maxLen w (n + m) cap e h63
   have hglt : g < w.heap.size := (hown.lt g rfl).2
   refine ⟨_, _, hr, ⟨hlen2, .inr ⟨w.heap.size, _, _, rfl, hbase, heap_alloc_new w.drew _, hge, hcm2, ?_, ?_⟩⟩, ⟨hown.1, .inr ⟨g, cap, cur, rfl, hbg, (heap_alloc_old w.drew _ hglt).trans hg, hnc, hcm, hcs, htake⟩⟩, ⟨rfl, rfl, rfl, by simp, fun k hk _ => heap_alloc_old w.drew _ hk⟩⟩
   ·simp only [Array.size_append, List.size_toArray, size_zeroCells, hzs, hown.1, hl, ← Nat.add_mul]
    congr 1
    omega
   ·simp only [Array.toList_append, List.append_assoc]
    rw [← List.append_assoc, ← hlen2]
    exact List.take_left
theorem step_append_keep {P : Program} (w : World) {ops : Array Oper} {o : Oper} {a : Act} {K : Act → World → Prop} {Q : Exit → Act → World → Prop} {E : Prop} (hgd : o.guard = none) (s x : Operand) (t : TypeId)
  (ho : o.op = .call { callee := .builtin .append, args := #[s, x], argTypes := #[t, t] }) (base : Nat) (e : TypeId) (i : TypeInfo) (z : Value) (ht : P.underlying t = some (.slice e)) (hi : P.info? e = some i) (hz : i.zero = some z) (size : Nat) (hsize : i.size = size) (hzs : z.cells.size = size) (hsz : 0 < size) (hby : i.bytes ≤ 24)
  (v : Value) (n : Nat) (xs : List Value) (hs : a.eval s = v) (hown : w.ownsRow base e size v n xs) (ad : Addr) (m c : Nat) (news : List Value) (hx : a.eval x = .slice (some ad) m c) (hl : news.length = m * size) (hnews : ∀ j u, news[j]? = some u → w.cell? (ad.add j) = some u) (h1 : ∀ u ∈ news, u.oneCell' = true) (hm0 : 0 < m) (hlen : n + m ≤ 2000000) (hbase : base ≤ w.heap.size)
  (h : ∀ v' w', w'.ownsRow base e size v' (n + m) (xs ++ news) → w'.ownsRow base e size v n xs → w.grownBy w' v.ownBlock → K (a.put o.dst v') w') :
  if Region.wanted o (yielded ops a.tmps) = true then Oper.wp P o a w K Q else E := by
 subst hsize
 have hw : Region.wanted o (yielded ops a.tmps) = true := by simp [Region.wanted, hgd]
 rw [if_pos hw]
 obtain ⟨v', w', hr, h2, h3, h4⟩ := run_append_keep (P := P) w base t o.type e i z ht hi hz hzs hsz hby v n xs hown ad m c news hl hnews h1 hm0 hlen hbase
 unfold Oper.wp execOp
 simp only [ho, resolve, invoke, builtin, Sem.run_bind, Sem.run_pure, Result.andThen_ok, List.map_toArray, List.map_cons, List.map_nil, hs, hx, hr]
 exact h v' w' h2 h3 h4
end Go.Proofs.YtamjljhbnhdgdaaDoor

/- (State).after: what the program answers. -/
namespace Go.Proofs.YtamjljhbnhdgdaaDoor
open Go.ChangeShapes Go.WideShapes Go.ChangeAt Go.RowKit
set_option linter.unusedVariables false
theorem recP_parts {t f : ByteArray} {ns : List Int} {r : List ByteArray} (h : recP t = some (f, ns, r)) : ∃ f1, rfOf t.data.toList = some (f :: f1 :: r) ∧ ns = rnL f1.data.toList ∧ 0 = rnC f1.data.toList := by
 unfold recP at h
 split at h
 ·rename_i f0 f1 r1 hm
  by_cases hc : rnC f1.data.toList = 0
  ·rw [if_pos hc] at h
   injection h with h; injection h with h1 h2; injection h2 with h2 h3
   subst h1 h2 h3
   exact ⟨f1, hm, rfl, hc.symm⟩
  ·rw [if_neg hc] at h; cases h
 ·cases h
theorem irec_none (t : ByteArray) (ht : t.size ≤ 65536) (HF : Hid (∀ m, rfOf t.data.toList = some m → ∀ k (hk : k < m.length), m[k].size ≤ 20000)) (H : Hid (recP t = none)) {x0 x1 x2 x3 x4 : Addr} (w : World) (hE : ErrsIn w) (hS : StE w x0 x1 x2 x3 x4) :
  Calls Tryd.prog 52 #[.string t] w fun e w' => e = .returned (.tuple #[.agg #[.string ⟨#[]⟩, .slice none 0 0, .slice none 0 0], .iface 145 (.pointer (some x0))]) ∧ Below w.heap.size w w' := by
 by_cases hm : ∀ m, rfOf t.data.toList = some m → m.length < 2
 ·exact irec_few t ht hm w hE hS
 ·obtain ⟨m, hm⟩ := Classical.not_forall.1 hm
  obtain ⟨h1, h2⟩ := Classical.not_imp.1 hm
  match m, h1, h2 with
  | f0 :: f1 :: r, h1, h2 =>
   refine irec_num t f0 f1 r ht (unhide HF _ h1 1 (by simp)) h1 _ rfl (fun hc => ?_) w hE hS
   have := unhide H
   rw [recP_some h1 hc] at this
   cases this
  | [_], _, h2 => exact absurd (by simp) h2
  | [], _, h2 => exact absurd (by simp) h2
theorem irec_some (t f : ByteArray) (L : List Int) (r : List ByteArray) (ht : t.size ≤ 65536) (HF : Hid (∀ m, rfOf t.data.toList = some m → ∀ k (hk : k < m.length), m[k].size ≤ 20000)) (H : Hid (recP t = some (f, L, r))) (n p : Nat) (HN : Hid (L.length = n)) (HP : Hid (r.length = p)) (w : World) (hE : ErrsIn w) :
  Calls Tryd.prog 52 #[.string t] w fun e w' => ∃ a cap a2 cap2, e = .returned (.tuple #[.agg #[.string f, .slice a n cap, .slice a2 p cap2], .nilIface]) ∧ RowV w' a (cI L) ∧ RowV w' a2 (cS r) ∧ (∀ x, a = some x → w.heap.size ≤ x.block) ∧ (∀ x, a2 = some x → w.heap.size ≤ x.block) ∧ Below w.heap.size w w' := by
 obtain ⟨f1, h1, h2, h3⟩ := recP_parts (unhide H)
 exact irec_ok t f f1 r ht (unhide HF _ h1 1 (by simp)) h1 L h2 h3 n p HN HP w hE
set_option maxHeartbeats 1000000 in
set_option maxRecDepth 100000 in
theorem iafter_none (tm vt : Int) (a : Option Addr) (cap n : Nat) (t : ByteArray) (ht : t.size ≤ 65536) (HF : Hid (∀ m, rfOf t.data.toList = some m → ∀ k (hk : k < m.length), m[k].size ≤ 20000)) (H : Hid (recP t = none)) {x0 x1 x2 x3 x4 : Addr} (w : World) (hE : ErrsIn w) (hS : StE w x0 x1 x2 x3 x4) :
  Calls Tryd.prog 41 #[.agg #[.int .i64 tm, .int .i64 vt, .slice a n cap], .string t] w fun e w' => e = .returned (.tuple #[.agg #[.int .i64 0, .int .i64 0, .slice none 0 0], .iface 145 (.pointer (some x0))]) ∧ Below w.heap.size w w' := by
 have B0 := hide (Go.Joins.below_alloc2 w (.cells #[.int .i64 tm, .int .i64 vt, .slice a n cap] 25) (.cells #[.int .i64 0, .int .i64 0, .slice none 0 0] 25))
 have A0 := hide ((BF.new w #[.int .i64 tm, .int .i64 vt, .slice a n cap] 25).alloc (.cells #[.int .i64 0, .int .i64 0, .slice none 0 0] 25))
 have Z0 := hide (BF.new (w.alloc (.cells #[.int .i64 tm, .int .i64 vt, .slice a n cap] 25)) #[.int .i64 0, .int .i64 0, .slice none 0 0] 25)
 rw [show (w.alloc (.cells #[.int .i64 tm, .int .i64 vt, .slice a n cap] 25)).heap.size = w.heap.size + 1 from by simp] at Z0
 have T := irec_none t ht HF H _ (hE.below (unhide B0)) (hS.below (unhide B0))
 clear hE hS
 go_enter Tryd.func41, Tryd.ntmps41
 go_wp2_with fail
 refine T.mono ?_
 clear T
 rintro e w1 ⟨rfl, hb1⟩
 have B1 := hide ((unhide B0).trans (hb1.mono (unhide B0).size))
 have Z1 := hide ((unhide Z0).below hb1)
 have B2 := hide ((unhide B1).alloc (unhide B1).size (.cells #[.string ⟨#[]⟩, .slice none 0 0, .slice none 0 0] 115))
 have Z2 := hide ((unhide Z1).alloc (.cells #[.string ⟨#[]⟩, .slice none 0 0, .slice none 0 0] 115))
 have hsz := (unhide B1).size
 have kz := (unhide Z1).S
 have kf := (unhide Z1).F
 have hlt := (unhide Z1).lt
 clear B0 A0 Z0 hb1
 go_wp2_with fail
 refine bodyPost_ret (v := .tuple #[.agg #[.int .i64 0, .int .i64 0, .slice none 0 0], .iface 145 (.pointer (some x0))]) (by simp [results, Tryd.results41, go_sem, kz, hlt]) rfl ⟨rfl, ?_⟩
 refine Below.alloc ?_ (by simpa using hsz) _
 repeat refine Below.setCell ?_ (by first | exact Nat.le_succ _ | exact Nat.le_refl _) _
 exact unhide B1
end Go.Proofs.YtamjljhbnhdgdaaDoor

/- Rows of texts: marked by the laws' own helper. -/
namespace Go.Proofs.YtamjljhbnhdgdaaDoor
open Go.ChangeShapes Go.WideShapes Go.ChangeAt Go.RowKit
def onesString (n : Nat) : List Value := (List.range n).map fun j => .string (mtS (1 + j))
theorem below_asGrown {w w' : World} {row : Option Nat} (h : Below w.heap.size w w') : w.grownBy w' row := ⟨h.os, h.tape, h.output, h.size, fun k hk _ => h.block k hk⟩
end Go.Proofs.YtamjljhbnhdgdaaDoor

/- Rows of entries, states: the laws' own helpers. -/
namespace Go.Proofs.YtamjljhbnhdgdaaDoor
open Go.ChangeShapes Go.WideShapes Go.ChangeAt Go.RowKit
theorem Tryd.infL62 : (Tryd.prog.info? 62).map (fun i => (i.zero, i.size, i.bytes)) = some (some (.agg #[.int .i64 0, .string ⟨#[]⟩]), 2, 24) := by kernel_rfl
end Go.Proofs.YtamjljhbnhdgdaaDoor

/- within: what the program answers. -/
namespace Go.Proofs.YtamjljhbnhdgdaaDoor
open Go.ChangeShapes Go.WideShapes Go.ChangeAt Go.RowKit
set_option linter.unusedVariables false
set_option maxHeartbeats 400000 in
theorem iwi (x a b : Int) (R : Bool) (HR : Hid (R = inB x a b)) (w : World) : Calls Tryd.prog 24 #[.int .i64 x, .int .i64 a, .int .i64 b] w fun e w' => e = .returned (.bool R) ∧ w' = w := by
 by_cases h1 : a ≤ x
 ·by_cases h2 : x ≤ b
  all_goals
   go_enter Tryd.func24, Tryd.ntmps24
   go_wp2_with fail
   go_ret
   exact ⟨ret_bool (by rw [unhide HR]; unfold inB; rw [Bool.eq_iff_iff]; simp <;> omega), rfl⟩
 ·go_enter Tryd.func24, Tryd.ntmps24
  go_wp2_with fail
  go_ret
  exact ⟨ret_bool (by rw [unhide HR]; unfold inB; rw [Bool.eq_iff_iff]; simp <;> omega), rfl⟩
end Go.Proofs.YtamjljhbnhdgdaaDoor
