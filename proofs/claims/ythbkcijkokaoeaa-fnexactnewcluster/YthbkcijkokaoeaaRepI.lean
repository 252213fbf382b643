/- slices.Repeat of a row of one integer: a new row of that many. -/
import Derived.Test.YthbkcijkokaoeaaIntS
import Derived.Test.YthbkcijkokaoeaaArrM
import Derived.Test.YthbkcijkokaoeaaBf
import Derived.Laws.CopyRow
import Derived.Deep.Cut
import Derived.Laws.CopyOwn
import Derived.Lib.SmallJoins
namespace Go.Proofs.Ythbkcijkokaoeaa
open Go.ChangeShapes Go.WideShapes Go.ChangeAt Go.RowKit
set_option linter.unusedVariables false
set_option maxHeartbeats 4000000 in
set_option maxRecDepth 100000 in
theorem imul64_1 (w : World) : Calls Try.prog 43 #[.int .u64 1, .int .u64 1] w fun e w' => e = .returned (.tuple #[.int .u64 0, .int .u64 1]) ∧ w' = w := by
  go_enter Try.func43, Try.ntmps43
  go_wp2_with fail
  go_ret2
  exact ⟨rfl, rfl⟩
set_option maxHeartbeats 4000000 in
set_option maxRecDepth 100000 in
theorem imul_1 (w : World) : Calls Try.prog 41 #[.int .u64 1, .int .u64 1] w fun e w' => e = .returned (.tuple #[.int .u64 0, .int .u64 1]) ∧ w' = w := by
  go_enter Try.func41, Try.ntmps41
  go_wp2_with fail
  refine (imul64_1 _).mono ?_
  rintro e w1 ⟨rfl, rfl⟩
  go_wp2_with fail
  go_ret2
  exact ⟨rfl, rfl⟩
set_option maxHeartbeats 4000000 in
set_option maxRecDepth 100000 in
theorem imul64_2 (w : World) : Calls Try.prog 43 #[.int .u64 1, .int .u64 2] w fun e w' => e = .returned (.tuple #[.int .u64 0, .int .u64 2]) ∧ w' = w := by
  go_enter Try.func43, Try.ntmps43
  go_wp2_with fail
  go_ret2
  exact ⟨rfl, rfl⟩
set_option maxHeartbeats 4000000 in
set_option maxRecDepth 100000 in
theorem imul_2 (w : World) : Calls Try.prog 41 #[.int .u64 1, .int .u64 2] w fun e w' => e = .returned (.tuple #[.int .u64 0, .int .u64 2]) ∧ w' = w := by
  go_enter Try.func41, Try.ntmps41
  go_wp2_with fail
  refine (imul64_2 _).mono ?_
  rintro e w1 ⟨rfl, rfl⟩
  go_wp2_with fail
  go_ret2
  exact ⟨rfl, rfl⟩
set_option maxHeartbeats 4000000 in
set_option maxRecDepth 100000 in
theorem imul64_3 (w : World) : Calls Try.prog 43 #[.int .u64 1, .int .u64 3] w fun e w' => e = .returned (.tuple #[.int .u64 0, .int .u64 3]) ∧ w' = w := by
  go_enter Try.func43, Try.ntmps43
  go_wp2_with fail
  go_ret2
  exact ⟨rfl, rfl⟩
set_option maxHeartbeats 4000000 in
set_option maxRecDepth 100000 in
theorem imul_3 (w : World) : Calls Try.prog 41 #[.int .u64 1, .int .u64 3] w fun e w' => e = .returned (.tuple #[.int .u64 0, .int .u64 3]) ∧ w' = w := by
  go_enter Try.func41, Try.ntmps41
  go_wp2_with fail
  refine (imul64_3 _).mono ?_
  rintro e w1 ⟨rfl, rfl⟩
  go_wp2_with fail
  go_ret2
  exact ⟨rfl, rfl⟩
set_option maxHeartbeats 4000000 in
set_option maxRecDepth 100000 in
theorem imul64_4 (w : World) : Calls Try.prog 43 #[.int .u64 1, .int .u64 4] w fun e w' => e = .returned (.tuple #[.int .u64 0, .int .u64 4]) ∧ w' = w := by
  go_enter Try.func43, Try.ntmps43
  go_wp2_with fail
  go_ret2
  exact ⟨rfl, rfl⟩
set_option maxHeartbeats 4000000 in
set_option maxRecDepth 100000 in
theorem imul_4 (w : World) : Calls Try.prog 41 #[.int .u64 1, .int .u64 4] w fun e w' => e = .returned (.tuple #[.int .u64 0, .int .u64 4]) ∧ w' = w := by
  go_enter Try.func41, Try.ntmps41
  go_wp2_with fail
  refine (imul64_4 _).mono ?_
  rintro e w1 ⟨rfl, rfl⟩
  go_wp2_with fail
  go_ret2
  exact ⟨rfl, rfl⟩
set_option maxHeartbeats 4000000 in
set_option maxRecDepth 100000 in
theorem imul64_5 (w : World) : Calls Try.prog 43 #[.int .u64 1, .int .u64 5] w fun e w' => e = .returned (.tuple #[.int .u64 0, .int .u64 5]) ∧ w' = w := by
  go_enter Try.func43, Try.ntmps43
  go_wp2_with fail
  go_ret2
  exact ⟨rfl, rfl⟩
set_option maxHeartbeats 4000000 in
set_option maxRecDepth 100000 in
theorem imul_5 (w : World) : Calls Try.prog 41 #[.int .u64 1, .int .u64 5] w fun e w' => e = .returned (.tuple #[.int .u64 0, .int .u64 5]) ∧ w' = w := by
  go_enter Try.func41, Try.ntmps41
  go_wp2_with fail
  refine (imul64_5 _).mono ?_
  rintro e w1 ⟨rfl, rfl⟩
  go_wp2_with fail
  go_ret2
  exact ⟨rfl, rfl⟩
set_option maxHeartbeats 4000000 in
set_option maxRecDepth 100000 in
theorem imul (m : Nat) (h1 : 1 ≤ m) (h5 : m ≤ 5) (w : World) : Calls Try.prog 41 #[.int .u64 1, .int .u64 (m : Int)] w fun e w' => e = .returned (.tuple #[.int .u64 0, .int .u64 (m : Int)]) ∧ w' = w := by
  have h : m = 1 ∨ m = 2 ∨ m = 3 ∨ m = 4 ∨ m = 5 := by omega
  rcases h with rfl | rfl | rfl | rfl | rfl
  · exact imul_1 w
  · exact imul_2 w
  · exact imul_3 w
  · exact imul_4 w
  · exact imul_5 w
theorem own_arr {w : World} {base g n : Nat} {e : TypeId} {xs : List Value} (h : w.ownsRow base e 1 (.slice (some ⟨g, 0, none⟩) n n) n xs) : ArrAt w g e xs := by
  obtain ⟨hl, h2⟩ := h
  rcases h2 with ⟨hv, _⟩ | ⟨g', cap, cur, hv, hbg, hg, hnc, hm, hcs, ht⟩
  · cases hv
  · injection hv with h1 h2 h3
    injection h1 with h1
    injection h1 with h1 _ _
    subst h1 h3
    unfold ArrAt
    rw [hg]
    have : cur = xs.toArray := by
      rw [← ht, Nat.mul_one, List.take_of_length_le (by rw [Array.length_toList, hcs]; omega)]
    rw [this]
theorem arr_own {w : World} {g n base : Nat} {t : TypeId} {l : List Value} (h : ArrAt w g t l) (hb : base ≤ g) (hl : l.length = n) (hn : n ≤ maxLen) : w.ownsRow base t 1 (.slice (some ⟨g, 0, none⟩) n n) n l := by
  subst hl
  exact ⟨by omega, .inr ⟨g, l.length, l.toArray, rfl, hb, h, Nat.le_refl _, hn, by simp, by rw [List.take_of_length_le]; simp⟩⟩
/-- k of m places filled. -/
def rp (x : Int) (k m : Nat) : List Value := List.replicate k (.int .i64 x) ++ List.replicate (m - k) (.int .i64 0)
theorem rp_len (x : Int) (k m : Nat) (h : k ≤ m) : (rp x k m).length = m := by simp [rp]; omega
theorem rp_at (x : Int) (k m j : Nat) (h : j < k) : (rp x k m)[j]? = some (.int .i64 x) := by
  unfold rp; rw [List.getElem?_append_left (by simpa using h), List.getElem?_replicate, if_pos h]
theorem rp_step (x : Int) (k m c : Nat) (h : k + c ≤ m) : (rp x k m).take k ++ List.replicate c (.int .i64 x) ++ (rp x k m).drop (k + c) = rp x (k + c) m := by
  unfold rp
  have e1 : (List.replicate k (Value.int .i64 x) ++ List.replicate (m - k) (Value.int .i64 0)).take k = List.replicate k (.int .i64 x) := by
    rw [List.take_append_of_le_length (by simp)]; simp
  have e2 : (List.replicate k (Value.int .i64 x) ++ List.replicate (m - k) (Value.int .i64 0)).drop (k + c) = List.replicate (m - (k + c)) (.int .i64 0) := by
    rw [List.drop_append, List.drop_replicate, List.drop_replicate]
    rw [List.length_replicate, show k - (k + c) = 0 by omega, show k + c - k = c by omega, show m - k - c = m - (k + c) by omega]; simp
  rw [e1, e2, List.replicate_append_replicate]
theorem copy_arr {P : Program} {w : World} (dT sT ty elem : TypeId) (hu : P.underlying dT = some (.slice elem)) (hs : (P.info? elem).map (·.size) = some 1) (g o dLen dCap : Nat) (a : Addr) (sLen sCap : Nat) (cur : List Value) (t : TypeId) (hg : ArrAt w g t cur) (cs : List Value) (hn : cs.length = Nat.min sLen dLen)
    (hsrc : ∀ j v, cs[j]? = some v → w.cell? (a.add j) = some v) (hfit : o + cs.length ≤ cur.length) (h1 : ∀ v ∈ cs, v.oneCell' = true) :
    ∃ w', (Builtin.copy_ #[dT, sT] ty #[.slice (some ⟨g, o, none⟩) dLen dCap, .slice (some a) sLen sCap]).run P w = .ok (goInt cs.length) w' ∧ ArrAt w' g t (cur.take o ++ cs ++ cur.drop (o + cs.length)) ∧ Below g w w' := by
  refine ⟨_, run_copy_row (P := P) w dT sT ty elem g o dLen dCap a sLen sCap cur.toArray t cs hu hs hg hn hsrc (by simpa using hfit) h1, ?_, below_setRow (Below.refl g w) (Nat.le_refl _) _⟩
  have := setRow_heap w g cur.toArray (cur.take o ++ cs ++ cur.drop (o + cs.length)).toArray t (0, 0) hg
  unfold ArrAt; simpa using this
theorem wpList_copyI {P : Program} {w : World} {ops : Array Oper} {rest : List Oper} {o : Oper} {a : Act} {Q : Exit → Act → World → Prop} (hgd : o.guard = none) (d s : Operand) (dT sT : TypeId)
    (ho : o.op = .call { callee := .builtin .copy, args := #[d, s], argTypes := #[dT, sT] }) (vd vs : Value) (hd : a.eval d = vd) (hs : a.eval s = vs) (c : Nat) (w' : World)
    (hrun : (Builtin.copy_ #[dT, sT] o.type #[vd, vs]).run P w = .ok (goInt c) w') (h : wpList P ops Q rest (a.put o.dst (goInt c)) w') : wpList P ops Q (o :: rest) a w := by
  refine wpList_plain hgd fun K hK => ?_
  unfold Oper.wp
  simp [execOp, ho, resolve, invoke, builtin, hd, hs, hrun, Result.andThen]
  exact hK _ _ h
set_option maxHeartbeats 4000000 in
set_option maxRecDepth 100000 in
theorem irep (g0 : Nat) (x : Int) (m : Nat) (h1 : 1 ≤ m) (h5 : m ≤ 5) (w : World) (hsrc : w.cell? ⟨g0, 0, none⟩ = some (.int .i64 x)) (hg0 : g0 < w.heap.size) :
    Calls Try.prog 39 #[.slice (some ⟨g0, 0, none⟩) 1 1, .int .i64 (m : Int)] w fun e w' => e = .returned (.slice (some ⟨w.heap.size, 0, none⟩) m m) ∧ w'.ownsRow w.heap.size 3 1 (.slice (some ⟨w.heap.size, 0, none⟩) m m) m (cI (List.replicate m x)) ∧ Below w.heap.size w w' := by
  obtain ⟨i0, hi, hz0, hz1, hz2⟩ := info_parts Try.infL3
  have hsz1 : (Try.prog.info? 3).map (·.size) = some 1 := by rw [hi]; simp [hz1]
  have e1 : IntKind.u64.wrap (m : Int) = (m : Int) := by simp [IntKind.wrap, IntKind.signed, IntKind.bits]; omega
  have e2 : IntKind.i64.wrap (m : Int) = (m : Int) := wrapi _ (by omega) (by omega)
  have n0 : ¬ (m : Int) < 0 := by omega
  have n1 : ¬ (9223372036854775807 : Int) < (m : Int) := by omega
  have MU := hide (imul m h1 h5)
  have HS := hide hsrc
  have HG0 := hide hg0
  clear hsrc hg0
  go_enter Try.func39, Try.ntmps39
  go_wp2_with fail
  refine (unhide MU _).mono ?_
  rintro e w0 ⟨rfl, rfl⟩
  go_upto_region 7 with (at_make; refine wpList_make_full _ rfl _ _ 36 rfl w0.heap.size 3 i0 (.int .i64 0) 1 Try.underlying36 hi hz0 hz1 .i64 .i64 _ _ m rfl rfl (by simp [go_sem]) (by simp [go_sem]) (by rw [hz2]; omega) (by unfold maxLen; omega) (Nat.le_refl _) ?_; intro w1 hown hgrow)
  have HB1 := hide ((Below.refl w0.heap.size w0).grown hgrow (Nat.le_refl _) (fun k hk => by cases hk))
  have hlt1 : w0.heap.size < w1.heap.size := (hown.lt w0.heap.size rfl).2
  have hA1 := own_arr hown
  rw [show (madeCells (Value.int .i64 0).cells (m * 1)).toList = rp x 0 m from by rw [show (Value.int .i64 0).cells = #[.int .i64 0] from rfl, toList_madeCells_one]; simp [rp]] at hA1
  obtain ⟨g, hgg⟩ : ∃ g, g = w0.heap.size := ⟨_, rfl⟩
  rw [← hgg] at hA1
  have hsrc1 : w1.cell? ⟨g0, 0, none⟩ = some (.int .i64 x) := ((unhide HB1).cell (p := ⟨g0, 0, none⟩) (unhide HG0)).trans (unhide HS)
  obtain ⟨w2, hrun, hA2, hb2⟩ := copy_arr (P := Try.prog) (w := w1) 36 36 3 3 Try.underlying36 hsz1 g 0 m m ⟨g0, 0, none⟩ 1 1 (rp x 0 m) 3 hA1 (List.replicate 1 (.int .i64 x)) (by rw [List.length_replicate]; show 1 = min 1 m; omega) (by intro j v hj; have hj1 : j < 1 := (by have := (List.getElem?_eq_some_iff.1 hj).1; simpa using this); obtain rfl : j = 0 := (by omega); simp at hj; subst hj; exact hsrc1) (by rw [rp_len x 0 m (by omega)]; simp; omega) (by intro v hv; simp at hv; subst hv; rfl)
  have hA2' : ArrAt w2 g 3 (rp x 1 m) := by have := hA2; rw [List.length_replicate, show (0 : Nat) + 1 = 0 + 1 from rfl, rp_step x 0 m 1 (by omega)] at this; simpa using this
  have HA2 := hide hA2'
  have HB2 : Hid (Below w0.heap.size w0 w2) := (unhide HB1).trans (by rw [hgg] at hb2; exact hb2)
  rw [List.length_replicate, hgg] at hrun
  clear hA2 hA2' hb2 hA1 hown hgrow hsrc1 HB1
  go_wp2_with (at_builtin; refine wpList_copyI rfl (.tmp 31) (.tmp 32) 36 36 rfl _ _ rfl rfl 1 w2 hrun ?_)
  clear hrun
  have HGG := hide hgg
  clear hgg
  go_loopw [8] (fun i wr => ∃ k : Nat, 1 ≤ k ∧ k ≤ m ∧ i = .int .i64 k ∧ Hid (ArrAt wr g 3 (rp x k m)) ∧ Hid (Below w0.heap.size w0 wr)) (fun i _ => m - (intOf i).toNat)
  case atStart => exact ⟨1, by omega, by omega, rfl, HA2, HB2⟩
  case round =>
    clear HA2 HB2
    obtain ⟨k, hk1, hk, rfl, HA, HB⟩ := hrel
    by_cases hlt : k < m
    · have hlt' : (k : Int) < (m : Int) := by omega
      obtain ⟨c, hc⟩ : ∃ c, c = Nat.min k (m - k) := ⟨_, rfl⟩
      have hc1 : 1 ≤ c ∧ c ≤ k ∧ k + c ≤ m := by rw [hc]; have : Nat.min k (m - k) = min k (m - k) := rfl; omega
      obtain ⟨w3, hrun, hA3, hb3⟩ := copy_arr (P := Try.prog) (w := wr.drew) 36 36 3 3 Try.underlying36 hsz1 g k (m - k) (m - k) ⟨g, 0, none⟩ k m (rp x k m) 3 (unhide HA).drew (List.replicate c (.int .i64 x)) (by rw [List.length_replicate]; exact hc) (by intro j v hj; have hj1 : j < c := (by have := (List.getElem?_eq_some_iff.1 hj).1; simpa using this); have e : v = .int .i64 x := (by rw [List.getElem?_replicate, if_pos hj1] at hj; injection hj with hj; exact hj.symm); subst e; rw [show (⟨g, 0, none⟩ : Addr).add j = ⟨g, j, none⟩ from (by unfold Addr.add; split <;> simp_all)]; exact ((unhide HA).drew.cell j).trans (rp_at x k m j (by omega))) (by rw [rp_len x k m hk, List.length_replicate]; omega) (by intro v hv; have := List.eq_of_mem_replicate hv; subst this; rfl)
      rw [List.length_replicate, rp_step x k m c hc1.2.2] at hA3
      rw [List.length_replicate] at hrun
      have HA3 := hide hA3
      have HB3 : Hid (Below w0.heap.size w0 w3) := (unhide HB).drew.trans (by rw [unhide HGG] at hb3; exact hb3)
      have e3 : IntKind.i64.wrap ((k : Int) + (c : Int)) = ((k + c : Nat) : Int) := by rw [wrapi _ (by omega) (by omega)]; omega
      have hkm : ¬ m = k := by omega
      have hkm2 : (0 : Int) ≤ (k : Int) := by omega
      have hkm3 : (k : Int) ≤ (m : Int) := by omega
      rw [unhide HGG] at hrun
      have HC := hide hc1
      clear hA3 hb3 hc hc1
      go_wp2_with fail
      refine wp_region_held_drew (S := fun _ => True) (by kernel_rfl) trivial (fun hHeld => ?_)
      refine wpAnyH_take (i := 0) (oi := { dst := some 38, op := .move (.tmp 8), type := 3, pos := "slices.go:528", after := #[], guard := none }) (v := ?_) rfl (by kernel_rfl) (by kernel_rfl) (by kernel_rfl) (fun _ _ _ h => h) (Or.inl ⟨by rfl, ?_⟩) (by assumption) ?_
      rotate_left 1
      · (intro w' hSw; (try dsimp only at hSw); go_simp; try with_reducible rfl)
      try simp only [Act.put, List.setIfInBounds_toArray, List.set_cons_zero, List.set_cons_succ]
      refine wpAnyH_take (i := 1) (oi := { dst := some 39, op := .move (.tmp 7), type := 36, pos := "slices.go:528", after := #[], guard := none }) (v := ?_) rfl (by kernel_rfl) (by kernel_rfl) (by kernel_rfl) (fun _ _ _ h => h) (Or.inl ⟨by rfl, ?_⟩) (by assumption) ?_
      rotate_left 1
      · (intro w' hSw; (try dsimp only at hSw); go_simp; try with_reducible rfl)
      try simp only [Act.put, List.setIfInBounds_toArray, List.set_cons_zero, List.set_cons_succ]
      refine wpAnyH_take (i := 2) (oi := { dst := some 40, op := .move (.tmp 8), type := 3, pos := "slices.go:528", after := #[], guard := none }) (v := ?_) rfl (by kernel_rfl) (by kernel_rfl) (by kernel_rfl) (fun _ _ _ h => h) (Or.inl ⟨by rfl, ?_⟩) (by assumption) ?_
      rotate_left 1
      · (intro w' hSw; (try dsimp only at hSw); go_simp; try with_reducible rfl)
      try simp only [Act.put, List.setIfInBounds_toArray, List.set_cons_zero, List.set_cons_succ]
      refine wpAnyH_take (i := 3) (oi := { dst := some 41, op := .slice 36 (.tmp 39) (some (.tmp 40)) none none, type := 36, pos := "slices.go:528", after := #[{ on := 1, ground := .data }, { on := 2, ground := .data }], guard := none }) (v := ?_) rfl (by kernel_rfl) (by kernel_rfl) (by kernel_rfl) (fun _ _ _ h => h) (Or.inl ⟨by rfl, ?_⟩) (by assumption) ?_
      rotate_left 1
      · (intro w' hSw; (try dsimp only at hSw); go_simp; try with_reducible rfl)
      try simp only [Act.put, List.setIfInBounds_toArray, List.set_cons_zero, List.set_cons_succ]
      refine wpAnyH_take (i := 4) (oi := { dst := some 42, op := .move (.tmp 7), type := 36, pos := "slices.go:528", after := #[], guard := none }) (v := ?_) rfl (by kernel_rfl) (by kernel_rfl) (by kernel_rfl) (fun _ _ _ h => h) (Or.inl ⟨by rfl, ?_⟩) (by assumption) ?_
      rotate_left 1
      · (intro w' hSw; (try dsimp only at hSw); go_simp; try with_reducible rfl)
      try simp only [Act.put, List.setIfInBounds_toArray, List.set_cons_zero, List.set_cons_succ]
      refine wpAnyH_take (i := 5) (oi := { dst := some 43, op := .move (.tmp 8), type := 3, pos := "slices.go:528", after := #[], guard := none }) (v := ?_) rfl (by kernel_rfl) (by kernel_rfl) (by kernel_rfl) (fun _ _ _ h => h) (Or.inl ⟨by rfl, ?_⟩) (by assumption) ?_
      rotate_left 1
      · (intro w' hSw; (try dsimp only at hSw); go_simp; try with_reducible rfl)
      try simp only [Act.put, List.setIfInBounds_toArray, List.set_cons_zero, List.set_cons_succ]
      refine wpAnyH_take (i := 6) (oi := { dst := some 44, op := .slice 36 (.tmp 42) none (some (.tmp 43)) none, type := 36, pos := "slices.go:528", after := #[{ on := 4, ground := .data }, { on := 5, ground := .data }], guard := none }) (v := ?_) rfl (by kernel_rfl) (by kernel_rfl) (by kernel_rfl) (fun _ _ _ h => h) (Or.inl ⟨by rfl, ?_⟩) (by assumption) ?_
      rotate_left 1
      · (intro w' hSw; (try dsimp only at hSw); go_simp; try with_reducible rfl)
      try simp only [Act.put, List.setIfInBounds_toArray, List.set_cons_zero, List.set_cons_succ]
      refine wpAnyH_ready (rs := [7]) (by kernel_rfl) (by simp) ?_
      refine AllReadyH.cons (o := { dst := some 45, op := .call { callee := .builtin Go.Builtin.copy, args := #[.tmp 41, .tmp 44], argTypes := #[36, 36] }, type := 3, pos := "slices.go:528", after := #[{ on := 3, ground := .data }, { on := 6, ground := .data }], guard := none }) rfl (fun K hK => ?_) AllReadyH.nil
      go_simp
      refine hK.out _ _ trivial (fun hHeld7 => ?_)
      clear hK K
      try simp only [Act.put, List.setIfInBounds_toArray, List.set_cons_zero, List.set_cons_succ]
      refine wpAnyH_take (i := 8) (oi := { dst := some 46, op := .binOp .add 3 (.tmp 38) (.tmp 45) 3, type := 3, pos := "slices.go:528", after := #[{ on := 0, ground := .data }, { on := 7, ground := .data }], guard := none }) (v := ?_) rfl (by kernel_rfl) (by kernel_rfl) (by kernel_rfl) (fun _ _ _ h => h) (Or.inl ⟨by rfl, ?_⟩) (by assumption) ?_
      rotate_left 1
      · (intro w' hSw; (try dsimp only at hSw); go_simp; try with_reducible rfl)
      try simp only [Act.put, List.setIfInBounds_toArray, List.set_cons_zero, List.set_cons_succ]
      refine wpAnyH_take (i := 9) (oi := { dst := some 8, op := .assign (.tmp 46), type := 3, pos := "slices.go:528", after := #[{ on := 8, ground := .data }, { on := 7, ground := .chain }, { on := 0, ground := .phase }, { on := 1, ground := .phase }, { on := 2, ground := .phase }, { on := 3, ground := .phase }, { on := 4, ground := .phase }, { on := 5, ground := .phase }, { on := 6, ground := .phase }, { on := 7, ground := .phase }, { on := 8, ground := .phase }], guard := none }) (v := ?_) rfl (by kernel_rfl) (by kernel_rfl) (by kernel_rfl) (fun _ _ _ h => h) (Or.inl ⟨by rfl, ?_⟩) (by assumption) ?_
      rotate_left 1
      · (intro w' hSw; (try dsimp only at hSw); go_simp; try with_reducible rfl)
      try simp only [Act.put, List.setIfInBounds_toArray, List.set_cons_zero, List.set_cons_succ]
      refine wpAnyH_done (by kernel_rfl) ?_ _
      clear hrun
      go_wp2_with fail
      go_roundw
      case rel => exact ⟨k + c, by have := unhide HC; omega, by have := unhide HC; omega, by go_num, HA3, HB3⟩
      case measure => have := unhide HC; simp [intOf]; omega
    · obtain rfl : k = m := by omega
      go_wp2_with fail
      go_ret
      refine ⟨rfl, ?_, unhide HB⟩
      have := arr_own (base := w0.heap.size) (unhide HA) (by have := unhide HGG; omega) (rp_len x k k (Nat.le_refl _)) (by unfold maxLen; omega)
      rw [unhide HGG] at this
      simpa [rp, cI] using this
end Go.Proofs.Ythbkcijkokaoeaa
