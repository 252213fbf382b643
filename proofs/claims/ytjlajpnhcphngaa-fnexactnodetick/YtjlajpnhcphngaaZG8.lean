/- Texts put together: ClnJ NpI. -/
import Derived.Test.YtjlajpnhcphngaaZG7
import Derived.Test.YtjlajpnhcphngaaZG1
/- slices.Clone of integers: what the program answers. -/
namespace Go.Proofs.Ytjlajpnhcphngaa
open Go.ChangeShapes Go.WideShapes Go.ChangeAt Go.RowKit
set_option linter.unusedVariables false
theorem Try.infJ3 : (Try.prog.info? 3).map (fun i => (i.zero, i.size, i.bytes)) = some (some (.int .i64 0), 1, 8) := by kernel_rfl
theorem append_intsJ {P : Program} (w : World) {ops : Array Oper} {rest : List Oper} {o : Oper} {a : Act} {Q : Exit → Act → World → Prop} (hgd : o.guard = none) (s x : Operand) (t : TypeId)
    (ho : o.op = .call { callee := .builtin .append, args := #[s, x], argTypes := #[t, t] }) (base : Nat) (e : TypeId) (i : TypeInfo) (ht : P.underlying t = some (.slice e)) (hi : P.info? e = some i) (hz : i.zero = some (.int .i64 0)) (hsize : i.size = 1) (hby : i.bytes = 8)
    (v : Value) (hs : a.eval s = v) (hown : w.ownsRow base e 1 v 0 [])
    (sp : Option Addr) (sc n : Nat) (l : List Int) (hn : l.length = n) (hx : a.eval x = .slice sp n sc) (hr : RowV w sp (cI l)) (hb : n ≤ 1048576) (hbase : base ≤ w.heap.size)
    (h : ∀ v' w', w'.ownsRow base e 1 v' n (cI l) → w.grownBy w' v.ownBlock → wpList P ops Q rest (a.put o.dst v') w') :
    wpList P ops Q (o :: rest) a w := by
  by_cases h0 : n = 0
  · subst h0
    obtain rfl : l = [] := List.length_eq_zero_iff.1 hn
    obtain ⟨pv, cv, rfl, -⟩ := ownZ_rowV hown
    have hsrc : Src P i.size t (.slice sp 0 sc) 0 [] w := by
      cases sp with
      | none => exact Src.ofNil w ht sc
      | some ad => exact Src.ofSlice w ht ad 0 sc [] (by simp) (fun j u hu => by simp at hu) (fun u hu => by cases hu)
    have hrun := run_append_nothing (P := P) w t t o.type e i ht hi pv 0 cv (Nat.zero_le _) (.slice sp 0 sc) hsrc
    refine wpList_plain hgd fun K hK => ?_
    unfold Oper.wp
    simp [execOp, ho, resolve, invoke, builtin, hs, hx, hrun, Result.andThen]
    exact hK _ _ (h _ w hown (grownBy_refl _ _))
  · obtain ⟨b, off, rfl, _, hc⟩ := hr.at (by rw [cI_len]; omega)
    refine wpList_append_lies w hgd s x t ho base e i (.int .i64 0) 1 8 ht hi hz hsize hby rfl (by decide) v 0 [] hs hown ⟨b, off, none⟩ n sc (cI l) hx (by rw [cI_len, hn, Nat.mul_one]) ?_ (cI_one l) (by omega) (by unfold maxLen; omega) (by omega) hbase _ rfl ?_
    · intro j u hu
      rw [show (⟨b, off, none⟩ : Addr).add j = ⟨b, off + j, none⟩ from by unfold Addr.add; split <;> simp_all]
      exact hc j u hu
    · intro g cap w' ho1 hg1 hat _
      rw [List.nil_append] at ho1
      refine cast ?_ (h (.slice (some ⟨g, 0, none⟩) n cap) w' (by have := ho1; rw [Nat.zero_add] at this; exact this) hg1)
      rw [Nat.zero_add]
theorem lit_emptyJ (w : World) (t : TypeId) (base : Nat) (hb : base ≤ w.heap.size) : (w.alloc (.cells #[] t)).ownsRow base t 1 (.slice (some ⟨w.heap.size, 0, none⟩) 0 0) 0 [] := lit_emptyI w base t hb
set_option maxHeartbeats 1000000 in
set_option maxRecDepth 100000 in
theorem jclone (x : Addr) (cap n : Nat) (l : List Int) (HN : Hid (l.length = n)) (hn : n ≤ 1048576) (w : World) (hr : RowV w (some x) (cI l)) :
    Calls Try.prog 47 #[.slice (some x) n cap] w fun e w' => ∃ v, e = .returned v ∧ w'.ownsRow w.heap.size 3 1 v n (cI l) ∧ Below w.heap.size w w' := by
  obtain ⟨i0, hi, hz0, hz1, hz2⟩ := info_parts Try.infJ3
  have hnil : ∀ W, (binOp .eql 23 (.slice (some x) n cap) (.slice none 0 0)).run Try.prog W = .ok (.bool false) W := fun W => Go.Lib.run_eql_slice_nil W _ _ (some x) n cap 0 0 Try.underlying23
  have HR := hide hr
  have hown := lit_emptyJ w 3 w.heap.size (Nat.le_refl _)
  have HB := hide (Go.Joins.below_alloc1 w (.cells #[] 3))
  clear hr
  go_enter Try.func47, Try.ntmps47
  go_wp2_with (at_builtin; refine append_intsJ _ rfl (.tmp 5) (.tmp 6) 23 rfl w.heap.size 3 i0 Try.underlying23 hi hz0 hz1 hz2 _ rfl hown (some x) cap n l (unhide HN) rfl ((unhide HR).below (unhide HB)) hn (by simp) ?_; intro v2 w2 ho2 hg2; have HO2 := hide ho2; have HB2 := hide ((unhide HB).grown hg2 (unhide HB).size (fun k hk => (hown.lt k hk).1)); clear ho2 hg2 hown)
  go_ret
  exact ⟨_, rfl, unhide HO2, unhide HB2⟩
set_option maxHeartbeats 1000000 in
set_option maxRecDepth 100000 in
theorem jcloneN (cap : Nat) (w : World) :
    Calls Try.prog 47 #[.slice none 0 cap] w fun e w' => ∃ v, e = .returned v ∧ w'.ownsRow w.heap.size 3 1 v 0 (cI []) ∧ Below w.heap.size w w' := by
  have hnil : ∀ W, (binOp .eql 23 (.slice none 0 cap) (.slice none 0 0)).run Try.prog W = .ok (.bool true) W := fun W => Go.Lib.run_eql_slice_nil W _ _ none 0 cap 0 0 Try.underlying23
  go_enter Try.func47, Try.ntmps47
  go_wp2_with fail
  go_ret
  exact ⟨_, rfl, World.ownsRow_nil _ _ _ _, Below.refl _ _⟩
theorem jcloneA (a : Option Addr) (cap n : Nat) (l : List Int) (HN : Hid (l.length = n)) (hn : n ≤ 1048576) (w : World) (hr : RowV w a (cI l)) :
    Calls Try.prog 47 #[.slice a n cap] w fun e w' => ∃ v, e = .returned v ∧ w'.ownsRow w.heap.size 3 1 v n (cI l) ∧ Below w.heap.size w w' := by
  have h := unhide HN
  rcases hr with h0 | ⟨b, off, rfl, hlt, hc⟩
  · have hl : l.length = 0 := by
      have := congrArg List.length h0; rw [cI_len] at this; simp only [List.length_nil] at this; omega
    obtain rfl : l = [] := List.length_eq_zero_iff.1 hl
    obtain rfl : n = 0 := by rw [← h]; rfl
    cases a with
    | none => exact jcloneN cap w
    | some x => exact jclone x cap 0 [] HN hn w (.inl h0)
  · exact jclone ⟨b, off, none⟩ cap n l HN hn w (.inr ⟨b, off, rfl, hlt, hc⟩)
end Go.Proofs.Ytjlajpnhcphngaa

/- A message of a node, who has a place, what a node is told: what the program answers. -/
namespace Go.Proofs.Ytjlajpnhcphngaa
open Go.ChangeShapes Go.WideShapes Go.ChangeAt Go.RowKit
set_option linter.unusedVariables false
set_option maxHeartbeats 4000000 in
set_option maxRecDepth 100000 in
theorem imsgv (id nd tm vt ro cm el wt : Int) (up : Bool) (a : Option Addr) (cap n : Nat) (av : Option Addr) (cv nv : Nat) (ax : Option Addr) (cx nx : Nat) (ag : Option Addr) (cg ng : Nat) (kd to : Int) (w : World) :
    Calls Try.prog 64 #[.agg #[.int .i64 id, .int .i64 nd, .int .i64 tm, .int .i64 vt, .int .i64 ro, .bool up, .slice a n cap, .int .i64 cm, .int .i64 el, .int .i64 wt, .slice av nv cv, .slice ax nx cx, .slice ag ng cg], .int .i64 kd, .int .i64 to] w fun e w' => e = .returned (.agg #[.int .i64 kd, .int .i64 id, .int .i64 to, .int .i64 tm, .int .i64 0, .int .i64 0, .int .i64 0, .bool false, .slice none 0 0]) ∧ Below w.heap.size w w' := by
  have B0 := hide (Go.Joins.below_alloc2 w (.cells #[.int .i64 id, .int .i64 nd, .int .i64 tm, .int .i64 vt, .int .i64 ro, .bool up, .slice a n cap, .int .i64 cm, .int .i64 el, .int .i64 wt, .slice av nv cv, .slice ax nx cx, .slice ag ng cg] 29) (.cells #[.int .i64 0, .int .i64 0, .int .i64 0, .int .i64 0, .int .i64 0, .int .i64 0, .int .i64 0, .bool false, .slice none 0 0] 54))
  have A0 := hide ((BF.new w #[.int .i64 id, .int .i64 nd, .int .i64 tm, .int .i64 vt, .int .i64 ro, .bool up, .slice a n cap, .int .i64 cm, .int .i64 el, .int .i64 wt, .slice av nv cv, .slice ax nx cx, .slice ag ng cg] 29).alloc (.cells #[.int .i64 0, .int .i64 0, .int .i64 0, .int .i64 0, .int .i64 0, .int .i64 0, .int .i64 0, .bool false, .slice none 0 0] 54))
  have Z0 := hide (BF.new (w.alloc (.cells #[.int .i64 id, .int .i64 nd, .int .i64 tm, .int .i64 vt, .int .i64 ro, .bool up, .slice a n cap, .int .i64 cm, .int .i64 el, .int .i64 wt, .slice av nv cv, .slice ax nx cx, .slice ag ng cg] 29)) #[.int .i64 0, .int .i64 0, .int .i64 0, .int .i64 0, .int .i64 0, .int .i64 0, .int .i64 0, .bool false, .slice none 0 0] 54)
  simp only [World.size_alloc] at Z0
  have ka := (unhide A0).S
  have kz := (unhide Z0).S
  have kzf := (unhide Z0).F
  go_enter Try.func64, Try.ntmps64
  go_wp2_with fail
  refine bodyPost_ret (v := .agg #[.int .i64 kd, .int .i64 id, .int .i64 to, .int .i64 tm, .int .i64 0, .int .i64 0, .int .i64 0, .bool false, .slice none 0 0]) (by simp [results, Try.results64, go_sem]) rfl ⟨rfl, ?_⟩
  exact Go.Joins.below_alloc2 w _ _
set_option maxHeartbeats 4000000 in
set_option maxRecDepth 100000 in
theorem iholders (id nd tm vt ro cm el wt : Int) (up : Bool) (a : Option Addr) (cap n : Nat) (av : Option Addr) (cv nv : Nat) (ax : Option Addr) (cx nx : Nat) (ag : Option Addr) (cg ng : Nat) (lg : List Int) (HNg : Hid (lg.length = ng)) (hng : ng ≤ 1048576) (p : Int) (C : Nat) (HC : Hid (C = holds id p lg)) (w : World) (hrg : RowV w ag (cI lg)) :
    Calls Try.prog 70 #[.agg #[.int .i64 id, .int .i64 nd, .int .i64 tm, .int .i64 vt, .int .i64 ro, .bool up, .slice a n cap, .int .i64 cm, .int .i64 el, .int .i64 wt, .slice av nv cv, .slice ax nx cx, .slice ag ng cg], .int .i64 p] w fun e w' => e = .returned (.int .i64 (C : Int)) ∧ Below w.heap.size w w' := by
  have B0 := hide (Go.Joins.below_alloc1 w (.cells #[.int .i64 id, .int .i64 nd, .int .i64 tm, .int .i64 vt, .int .i64 ro, .bool up, .slice a n cap, .int .i64 cm, .int .i64 el, .int .i64 wt, .slice av nv cv, .slice ax nx cx, .slice ag ng cg] 29))
  have A0 := hide (BF.new w #[.int .i64 id, .int .i64 nd, .int .i64 tm, .int .i64 vt, .int .i64 ro, .bool up, .slice a n cap, .int .i64 cm, .int .i64 el, .int .i64 wt, .slice av nv cv, .slice ax nx cx, .slice ag ng cg] 29)
  have HRG := hide (hrg.below (unhide B0))
  clear hrg
  have ka := (unhide A0).S
  go_enter Try.func70, Try.ntmps70
  go_wp2_with fail
  clear ka
  generalize w.alloc (.cells #[.int .i64 id, .int .i64 nd, .int .i64 tm, .int .i64 vt, .int .i64 ro, .bool up, .slice a n cap, .int .i64 cm, .int .i64 el, .int .i64 wt, .slice av nv cv, .slice ax nx cx, .slice ag ng cg] 29) = wq at A0 B0 HRG ⊢
  go_loopw [5, 11] (fun c i wr => ∃ (k m : Nat), k ≤ ng ∧ m ≤ k + 1 ∧ c = .int .i64 (m : Int) ∧ i = .int .i64 k ∧ Hid (m + holdA id p k (lg.drop k) = C) ∧ wr = wq) (fun _ i _ => ng - (intOf i).toNat)
  case atStart => exact ⟨0, 1, by omega, by omega, rfl, rfl, by show _ = _; rw [unhide HC, List.drop_zero]; rfl, rfl⟩
  case round =>
    obtain ⟨k, m, hk, hmk, rfl, rfl, HI, rfl⟩ := hrel
    have ka := (unhide A0).S
    by_cases hlt : k < ng
    · have hkl : k < lg.length := by rw [unhide HNg]; exact hlt
      obtain ⟨b, off, rfl, hblt, hc⟩ := (unhide HRG).at (by rw [cI_len]; omega)
      obtain ⟨x, ex⟩ : ∃ x, x = lg[k] := ⟨_, rfl⟩
      have hx := hc k _ (cI_at lg k hkl)
      rw [← ex] at hx
      have hI := unhide HI
      rw [holdA_drop id p lg k hkl, ← ex] at hI
      have i1 : (k : Int) < (ng : Int) := by omega
      have i0 : (0 : Int) ≤ (k : Int) := by omega
      clear hc ex hkl HI
      by_cases h1 : (k : Int) = id
      · have z1 : ((k : Int) != id) = false := by simpa using h1
        rw [if_neg (fun h => h.1 h1), Nat.zero_add] at hI
        have HI2 := hide hI
        clear hI h1
        go_wp2_with fail
        go_roundw
        case rel => exact ⟨k + 1, m, by omega, by omega, rfl, by go_num, HI2, trivial⟩
        case measure => simp [intOf]; omega
      · have z1 : ((k : Int) != id) = true := by simpa using h1
        by_cases h2 : p ≤ x
        · have z2 : decide (p ≤ x) = true := decide_eq_true h2
          rw [if_pos ⟨h1, h2⟩] at hI
          have HI2 : Hid (m + 1 + holdA id p (k + 1) (lg.drop (k + 1)) = C) := by show _ = _; omega
          clear hI h1
          go_wp2_with fail
          go_roundw
          case rel => exact ⟨k + 1, m + 1, by omega, by omega, by go_num, by go_num, HI2, trivial⟩
          case measure => simp [intOf]; omega
        · have z2 : decide (p ≤ x) = false := decide_eq_false h2
          rw [if_neg (fun h => h2 h.2), Nat.zero_add] at hI
          have HI2 := hide hI
          clear hI h1
          go_wp2_with fail
          go_roundw
          case rel => exact ⟨k + 1, m, by omega, by omega, rfl, by go_num, HI2, trivial⟩
          case measure => simp [intOf]; omega
    · obtain rfl : k = ng := by omega
      have hI := unhide HI
      rw [holdA_end id p lg k (by rw [unhide HNg]; exact Nat.le_refl _)] at hI
      obtain rfl : m = C := by omega
      clear hI HI
      go_wp2_with fail
      go_ret
      exact ⟨rfl, unhide B0⟩
end Go.Proofs.Ytjlajpnhcphngaa
