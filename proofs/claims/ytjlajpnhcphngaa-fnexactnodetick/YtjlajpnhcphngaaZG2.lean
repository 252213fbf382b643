/- Texts put together: SteI IntS. -/
import Derived.Test.YtjlajpnhcphngaaZG1
import Derived.Lib.SmallJoins
import Derived.Test.YtjlajpnhcphngaaZG0
/- Which states are right: what the program answers. -/
namespace Go.Proofs.Ytjlajpnhcphngaa
open Go.ChangeShapes Go.WideShapes Go.ChangeAt Go.RowKit
set_option linter.unusedVariables false
set_option maxHeartbeats 2000000 in
set_option maxRecDepth 100000 in
theorem ilogok (tm vt : Int) (a : Option Addr) (cap n : Nat) (l : List Ent) (HN : Hid (l.length = n)) (hn : n ≤ 60) (HSZ : Hid (∀ k (h : k < l.length), l[k].2.size ≤ 1048576)) (R : Bool) (HR : Hid (R = logB tm 1 l)) (w : World) (hr : RowV w a (cE l)) :
    Calls Try.prog 55 #[.agg #[.int .i64 tm, .int .i64 vt, .slice a n cap]] w fun e w' => e = .returned (.bool R) ∧ Below w.heap.size w w' := by
  have B0 := hide (Go.Joins.below_alloc1 w (.cells #[.int .i64 tm, .int .i64 vt, .slice a n cap] 62))
  have A0 := hide (BF.new w #[.int .i64 tm, .int .i64 vt, .slice a n cap] 62)
  have HRW := hide hr
  have HCL := hide (cE_len l)
  clear hr
  go_enter Try.func55, Try.ntmps55
  go_wp2_with fail
  go_loopw [3, 9] (fun p i wr => ∃ (k : Nat) (q : Int), k ≤ n ∧ i = .int .i64 k ∧ p = .int .i64 q ∧ Hid (R = logB tm q (l.drop k)) ∧ Hid (BF w.heap.size #[.int .i64 tm, .int .i64 vt, .slice a n cap] wr) ∧ Hid (Below w.heap.size w wr)) (fun _ i _ => n - (intOf i).toNat)
  case atStart => exact ⟨0, 1, by omega, rfl, rfl, HR, A0, B0⟩
  case round =>
    clear A0 B0 HR
    obtain ⟨k, q, hk, rfl, rfl, HQ, A1, B1⟩ := hrel
    by_cases hlt : k < n
    · obtain ⟨b, off, ha, hblt, hc⟩ := (unhide HRW).at (by rw [unhide HCL, unhide HN]; omega)
      subst ha
      have hlk : k < l.length := by rw [unhide HN]; exact hlt
      obtain ⟨x0, x1⟩ := row_ent hc k hlk
      obtain ⟨t, et⟩ : ∃ t, t = l[k].1 := ⟨_, rfl⟩
      obtain ⟨d, ed⟩ : ∃ d, d = l[k].2 := ⟨_, rfl⟩
      have hs : d.size ≤ 1048576 := by rw [ed]; exact unhide HSZ k hlk
      have hq := (unhide HQ).trans (logB_step tm q l k hlk)
      unfold entB at hq
      rw [← et, ← ed] at hq
      rw [← et] at x0
      rw [← ed] at x1
      have hx0 : wr.cell? ⟨b, off + k * 2, none⟩ = some (.int .i64 t) := ((unhide B1).cell (p := ⟨b, off + k * 2, none⟩) hblt).trans x0
      have hx1 : wr.cell? ⟨b, off + k * 2 + 1, none⟩ = some (.string d) := ((unhide B1).cell (p := ⟨b, off + k * 2 + 1, none⟩) hblt).trans x1
      have hlt' : (k : Int) < (n : Int) := by omega
      have hlt0 : (0 : Int) ≤ (k : Int) := by omega
      obtain ⟨sz, hsz⟩ : ∃ sz : Nat, sz = d.size := ⟨_, rfl⟩
      rw [← hsz] at hs hq
      have la : (d.size : Int) = (sz : Int) := by rw [hsz]
      have HQ2 := hide hq
      obtain ⟨R1, hR1⟩ : ∃ R1, R1 = inB t q tm := ⟨_, rfl⟩
      have HR1 := hide hR1
      have B2 := hide ((unhide B1).alloc (unhide B1).size (.cells #[.int .i64 t, .string d] 68))
      have A2 := hide ((unhide A1).alloc (.cells #[.int .i64 t, .string d] 68))
      have a2 := (unhide A2).S
      clear hc x0 x1 et ed hsz hq hR1 HQ A1 B1 HRW HCL HSZ
      go_wp2_with fail
      refine (iwi t q tm R1 HR1 _).mono ?_
      rintro e w2 ⟨rfl, rfl⟩
      cases R1 with
      | false =>
        have hR : R = false := by have := unhide HQ2; rw [← unhide HR1] at this; simpa using this
        subst hR
        go_wp2_with fail
        go_ret
        exact ⟨rfl, unhide B2⟩
      | true =>
        by_cases h4 : sz ≤ 400
        · have HQ3 : Hid (R = logB tm t (l.drop (k + 1))) := by show _ = _; have := unhide HQ2; rw [← unhide HR1, decide_eq_true h4] at this; simpa using this
          clear HQ2 HR1
          go_wp2_with fail
          go_roundw
          case rel => exact ⟨k + 1, t, by omega, by go_num, rfl, HQ3, A2, B2⟩
          case measure => simp [intOf]; omega
        · have hR : R = false := by have := unhide HQ2; rw [← unhide HR1, decide_eq_false h4] at this; simpa using this
          subst hR
          go_wp2_with fail
          go_ret
          exact ⟨rfl, unhide B2⟩
    · have hR : R = true := (unhide HQ).trans (logB_end _ _ _ _ (by rw [unhide HN]; omega))
      subst hR
      go_wp2_with fail
      go_ret
      exact ⟨rfl, unhide B1⟩
set_option maxHeartbeats 2000000 in
set_option maxRecDepth 100000 in
theorem istateok (tm vt : Int) (a : Option Addr) (cap n : Nat) (l : List Ent) (HN : Hid (l.length = n)) (hn : n ≤ 1048576) (HSZ : Hid (∀ k (h : k < l.length), l[k].2.size ≤ 1048576)) (R : Bool) (HR : Hid (R = stateB tm vt l)) (w : World) (hr : RowV w a (cE l)) :
    Calls Try.prog 40 #[.agg #[.int .i64 tm, .int .i64 vt, .slice a n cap]] w fun e w' => e = .returned (.bool R) ∧ Below w.heap.size w w' := by
  have B0 := hide (Go.Joins.below_alloc1 w (.cells #[.int .i64 tm, .int .i64 vt, .slice a n cap] 62))
  have HRW := hide (hr.below (unhide B0))
  obtain ⟨R1, hR1⟩ : ∃ R1, R1 = inB tm 0 1000 := ⟨_, rfl⟩
  have HR1 := hide hR1
  obtain ⟨R2, hR2⟩ : ∃ R2, R2 = inB vt (-1) 4 := ⟨_, rfl⟩
  have HR2 := hide hR2
  clear hr hR1 hR2
  go_enter Try.func40, Try.ntmps40
  go_wp2_with fail
  refine (iwi tm 0 1000 R1 HR1 _).mono ?_
  rintro e w1 ⟨rfl, rfl⟩
  cases R1 with
  | false =>
    have hR : R = false := (unhide HR).trans (st1 (unhide HR1).symm)
    subst hR
    go_wp2_with fail
    go_ret
    exact ⟨rfl, unhide B0⟩
  | true =>
    go_wp2_with fail
    refine (iwi vt (-1) 4 R2 HR2 _).mono ?_
    rintro e w1 ⟨rfl, rfl⟩
    cases R2 with
    | false =>
      have hR : R = false := (unhide HR).trans (st2 (unhide HR2).symm)
      subst hR
      go_wp2_with fail
      go_ret
      exact ⟨rfl, unhide B0⟩
    | true =>
      by_cases h6 : n ≤ 60
      · have HR4 : Hid (R = logB tm 1 l) := by show _ = _; exact (unhide HR).trans (st4 (unhide HR1).symm (unhide HR2).symm (by rw [unhide HN]; exact h6))
        clear HR HR1 HR2
        go_wp2_with fail
        refine (ilogok tm vt a cap n l HN h6 HSZ R HR4 _ (unhide HRW)).mono ?_
        rintro e w2 ⟨rfl, hb2⟩
        have B2 := hide ((unhide B0).trans (hb2.mono (unhide B0).size))
        clear hb2 B0 HRW
        go_wp2_with fail
        go_ret
        exact ⟨rfl, unhide B2⟩
      · have hR : R = false := (unhide HR).trans (st3 (by rw [unhide HN]; exact h6))
        subst hR
        go_wp2_with fail
        go_ret
        exact ⟨rfl, unhide B0⟩
end Go.Proofs.Ytjlajpnhcphngaa

/- Rows of integers: the laws' own helpers. -/
namespace Go.Proofs.Ytjlajpnhcphngaa
open Go.ChangeShapes Go.WideShapes Go.ChangeAt Go.RowKit
theorem Try.infL3 : (Try.prog.info? 3).map (fun i => (i.zero, i.size, i.bytes)) = some (some (.int .i64 0), 1, 8) := by kernel_rfl
def cI (l : List Int) : List Value := l.map fun c => .int .i64 (c)
theorem cI_len (l : List Int) : (cI l).length = l.length := by simp [cI]
theorem cI_at (l : List Int) (k : Nat) (h : k < l.length) : (cI l)[k]? = some (.int .i64 (l[k])) := by simp [cI, List.getElem?_eq_getElem h]
theorem cI_one (l : List Int) : ∀ u ∈ cI l, u.oneCell' = true := by
  intro u hu; simp [cI] at hu; obtain ⟨c, _, rfl⟩ := hu; rfl

set_option maxHeartbeats 400000 in
set_option maxRecDepth 100000 in
theorem copyInt (a : Option Addr) (cap : Nat) (l : List Int) (hl : l.length ≤ 1048576) (w : World) (hr : RowV w a (cI l)) :
    Calls Try.prog 21 #[.slice a l.length cap] w fun e w' => e = .returned (.slice (some ⟨w.heap.size, 0, none⟩) l.length l.length) ∧
      w'.ownsRow w.heap.size 3 1 (.slice (some ⟨w.heap.size, 0, none⟩) l.length l.length) l.length (cI l) ∧ Below w.heap.size w w' := by
  obtain ⟨i0, hi, hz0, hz1, hz2⟩ := info_parts Try.infL3
  have hcl := cI_len l
  go_enter Try.func21, Try.ntmps21
  go_wp2_with (at_make; refine wpList_make_full _ rfl _ _ 23 rfl w.heap.size 3 i0 (.int .i64 0) 1 Try.underlying23 hi hz0 hz1 .i64 .i64 _ _ l.length rfl rfl rfl rfl (by rw [hz2]; omega) (by unfold maxLen; omega) (Nat.le_refl _) ?_; intro w1 hown hgrow)
  rw [show l.length * 1 = (cI l).length * 1 from by rw [hcl], ← fillV_zero _ _ rfl] at hown
  have hb1 := (Below.refl w.heap.size w).grown hgrow (Nat.le_refl _) (fun k hk => by cases hk)
  clear hgrow
  have HR := hide hr
  have HCL := hide hcl
  clear hr hcl
  go_loopw [4] (fun i wr => ∃ k : Nat, k ≤ l.length ∧ i = .int .i64 k ∧ wr.ownsRow w.heap.size 3 1 (.slice (some ⟨w.heap.size, 0, none⟩) l.length l.length) l.length (fillV (.int .i64 0) (cI l) k) ∧ Below w.heap.size w wr) (fun i _ => l.length - (intOf i).toNat)
  case atStart => exact ⟨0, by omega, rfl, hown, hb1⟩
  case round =>
    clear hown hb1
    obtain ⟨k, hk, rfl, hown, hb⟩ := hrel
    by_cases hlt : k < l.length
    · obtain ⟨b, off, ha, hblt, hc⟩ := (unhide HR).at (by rw [unhide HCL]; omega)
      subst ha
      have hc1 : wr.cell? ⟨b, off + k, none⟩ = some (.int .i64 (l[k])) := (hb.cell (p := ⟨b, off + k, none⟩) hblt).trans (hc k _ (cI_at l k hlt))
      have hc2 : wr.cell? ⟨w.heap.size, k, none⟩ = some (.int .i64 0) := by rw [hown.cellAt k (by omega), fillV_at _ _ k (by rw [unhide HCL]; exact hlt)]
      have hf2 := hown.frozenAt k
      have hlt' : (k : Int) < (l.length : Int) := by omega
      have R := hown.stored k (.int .i64 (l[k]))
      rw [fillV_set _ _ k _ (cI_at l k hlt)] at R
      have R2 : Below w.heap.size w (wr.setCell ⟨w.heap.size, k, none⟩ (.int .i64 (l[k]))) := hb.setCell (p := ⟨w.heap.size, k, none⟩) (Nat.le_refl _) _
      have R1 := R.1
      clear hc R hown hb HR hblt HCL
      go_wp2_with fail
      go_roundw
      case rel => exact ⟨k + 1, by omega, by go_num, R1, R2⟩
      case measure => simp [intOf]; omega
    · rw [fillV_all _ _ k (by rw [unhide HCL]; omega)] at hown
      go_wp2_with fail
      go_ret
      exact ⟨rfl, hown, hb⟩

set_option maxHeartbeats 400000 in
set_option maxRecDepth 100000 in
theorem sameInt (a c : Option Addr) (cap cap2 : Nat) (l : List Int) (hl : l.length ≤ 1048576) (w : World) (hr : RowV w a (cI l)) (hr2 : RowV w c (cI l)) :
    Calls Try.prog 27 #[.slice a l.length cap, .slice c l.length cap2] w fun e w' => e = .returned (.bool true) ∧ Below w.heap.size w w' := by
  have HR := hide hr
  have HR2 := hide hr2
  have HCL := hide (cI_len l)
  clear hr hr2
  have hne : ((l.length : Int) != (l.length : Int)) = false := by simp
  go_enter Try.func27, Try.ntmps27
  go_wp2_with fail
  go_loopw [5] (fun i wr => ∃ k : Nat, k ≤ l.length ∧ i = .int .i64 k ∧ Below w.heap.size w wr) (fun i _ => l.length - (intOf i).toNat)
  case atStart => exact ⟨0, by omega, rfl, Below.refl _ _⟩
  case round =>
    obtain ⟨k, hk, rfl, hb⟩ := hrel
    by_cases hlt : k < l.length
    · obtain ⟨b, off, ha, hblt, hc⟩ := (unhide HR).at (by rw [unhide HCL]; omega)
      obtain ⟨b2, off2, ha2, hblt2, hc2⟩ := (unhide HR2).at (by rw [unhide HCL]; omega)
      subst ha ha2
      have hc1 : wr.cell? ⟨b, off + k, none⟩ = some (.int .i64 (l[k])) := (hb.cell (p := ⟨b, off + k, none⟩) hblt).trans (hc k _ (cI_at l k hlt))
      have hc3 : wr.cell? ⟨b2, off2 + k, none⟩ = some (.int .i64 (l[k])) := (hb.cell (p := ⟨b2, off2 + k, none⟩) hblt2).trans (hc2 k _ (cI_at l k hlt))
      have hlt' : (k : Int) < (l.length : Int) := by omega
      have hlt0 : (0 : Int) ≤ (k : Int) := by omega
      have hne2 : ((l[k] : Int) != (l[k] : Int)) = false := by simp
      clear hc hc2 HR HR2 HCL
      go_wp2_with fail
      go_region_held3 (fun w' => w'.cell? ⟨b, off + k, none⟩ = some (.int .i64 (l[k])) ∧ w'.cell? ⟨b2, off2 + k, none⟩ = some (.int .i64 (l[k]))) (go_keep) (fail)
      all_goals
        go_wp2_with fail
        go_roundw
        case rel => exact ⟨k + 1, by omega, by go_num, hb.drew⟩
        case measure => simp [intOf]; omega
    · go_wp2_with fail
      go_ret
      exact ⟨rfl, hb⟩

def onesInt (n : Nat) : List Value := (List.range n).map fun j => .int .i64 (((1 + j : Nat) : Int))
end Go.Proofs.Ytjlajpnhcphngaa
