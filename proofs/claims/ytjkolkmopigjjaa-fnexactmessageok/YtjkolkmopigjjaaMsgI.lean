/- Which messages are right: what the program answers. -/
import Derived.Test.YtjkolkmopigjjaaMsgM
import Derived.Test.YtjkolkmopigjjaaSteI
import Derived.BigQuiet
namespace Go.Proofs.Ytjkolkmopigjjaa
open Go.ChangeShapes Go.WideShapes Go.ChangeAt Go.RowKit
set_option linter.unusedVariables false
set_option maxHeartbeats 2000000 in
set_option maxRecDepth 100000 in
theorem ilastp (kd fr dst tm ix lt cm : Int) (ok : Bool) (a : Option Addr) (cap n : Nat) (Q : Int) (hQ : Q = ix + (n : Int)) (h0 : 0 ≤ ix) (h1 : ix ≤ 60) (hn : n ≤ 1048576) (w : World) :
    Calls Try.prog 19 #[.agg #[.int .i64 kd, .int .i64 fr, .int .i64 dst, .int .i64 tm, .int .i64 ix, .int .i64 lt, .int .i64 cm, .bool ok, .slice a n cap]] w fun e w' => e = .returned (.int .i64 Q) ∧ Below w.heap.size w w' := by
  have B0 := hide (Go.Joins.below_alloc1 w (.cells #[.int .i64 kd, .int .i64 fr, .int .i64 dst, .int .i64 tm, .int .i64 ix, .int .i64 lt, .int .i64 cm, .bool ok, .slice a n cap] 29))
  have e1 : IntKind.i64.wrap (ix + (n : Int)) = Q := by rw [hQ]; exact wrapi _ (by omega) (by omega)
  clear hQ
  go_enter Try.func19, Try.ntmps19
  go_wp2_with fail
  go_ret
  exact ⟨rfl, unhide B0⟩
set_option maxHeartbeats 2000000 in
set_option maxRecDepth 100000 in
theorem ientsok (kd fr dst tm ix lt cm : Int) (ok : Bool) (a : Option Addr) (cap n : Nat) (l : List (Int × ByteArray)) (HN : Hid (l.length = n)) (hn : n ≤ 1048576) (HSZ : Hid (∀ k (h : k < l.length), l[k].2.size ≤ 1048576)) (R : Bool) (HR : Hid (R = entsB kd tm ix lt l)) (h0 : Hid (0 ≤ ix)) (h1 : Hid (ix ≤ 60)) (w : World) (hr : RowV w a (cE l)) :
    Calls Try.prog 14 #[.agg #[.int .i64 kd, .int .i64 fr, .int .i64 dst, .int .i64 tm, .int .i64 ix, .int .i64 lt, .int .i64 cm, .bool ok, .slice a n cap]] w fun e w' => e = .returned (.bool R) ∧ Below w.heap.size w w' := by
  have B0 := hide (Go.Joins.below_alloc1 w (.cells #[.int .i64 kd, .int .i64 fr, .int .i64 dst, .int .i64 tm, .int .i64 ix, .int .i64 lt, .int .i64 cm, .bool ok, .slice a n cap] 29))
  have A0 := hide (BF.new w #[.int .i64 kd, .int .i64 fr, .int .i64 dst, .int .i64 tm, .int .i64 ix, .int .i64 lt, .int .i64 cm, .bool ok, .slice a n cap] 29)
  have HRW := hide hr
  have HCL := hide (cE_len l)
  clear hr
  go_enter Try.func14, Try.ntmps14
  by_cases hk : kd = 3
  · subst hk
    rw [ents_app] at HR
    rw [unhide HN] at HR
    obtain ⟨Q, hQ⟩ : ∃ Q : Int, Q = ix + (n : Int) := ⟨_, rfl⟩
    rw [← hQ] at HR
    have HQ := hide hQ
    have BL := fun w' => ilastp 3 fr dst tm ix lt cm ok a cap n Q hQ (unhide h0) (unhide h1) hn w'
    have HBL := hide BL
    clear BL hQ
    cases hz : (decide (ix ≠ 0) || decide (lt = 0)) with
    | false =>
      have hR : R = false := by rw [unhide HR, hz]; rfl
      simp at hz
      obtain ⟨rfl, hlt⟩ := hz
      have nn : (lt != 0) = true := by simpa using hlt
      subst hR
      go_wp2_with fail
      go_ret
      exact ⟨rfl, unhide B0⟩
    | true =>
      rw [hz, Bool.true_and] at HR
      have hcs : ((ix == 0) = true ∧ (lt != 0) = false) ∨ ((ix == 0) = false ∧ True) := by
        by_cases h : ix = 0
        · left; subst h; simpa using hz
        · right; exact ⟨by simpa using h, trivial⟩
      have HZ := hide hz
      clear hz
      rcases hcs with ⟨he, hne⟩ | ⟨he, hne⟩
      all_goals
        go_wp2_with fail
        refine (unhide HBL _).mono ?_
        rintro e w2 ⟨rfl, hb2⟩
        have B2 := hide ((unhide B0).trans (hb2.mono (unhide B0).size))
        have A2 := hide ((unhide A0).below hb2)
        clear hb2 B0 A0
        have a2 := (unhide A2).S
        by_cases h6 : Q ≤ 60
        · have d6 : ¬ (60 < Q) := by omega
          rw [decide_eq_true h6, Bool.true_and] at HR
          by_cases hn0 : n = 0
          · subst hn0
            rw [firstB_nil (unhide HN), Bool.true_and] at HR
            go_wp2_with fail
            go_quiet (fail)
            have B3 := hide (below_drewN (unhide B2) 1)
            go_wp2_with fail
            refine (istateok tm (-1) a cap 0 l HN hn HSZ R HR _ ((unhide HRW).below (below_drewN (unhide B2) _))).mono ?_
            rintro e w3 ⟨rfl, hb3⟩
            have B4 := hide ((below_drewN (unhide B2) _).trans (hb3.mono (below_drewN (unhide B2) _).size))
            clear hb3
            go_wp2_with fail
            go_ret
            exact ⟨rfl, unhide B4⟩
          · obtain ⟨b, off, ha, hblt, hc⟩ := (unhide HRW).at (by rw [unhide HCL, unhide HN]; omega)
            subst ha
            have hlk : 0 < l.length := by rw [unhide HN]; omega
            obtain ⟨x0, x1⟩ := row_ent hc 0 hlk
            obtain ⟨t, et⟩ : ∃ t, t = l[0].1 := ⟨_, rfl⟩
            rw [firstB_at hlk, ← et] at HR
            rw [← et, Nat.zero_mul, Nat.add_zero] at x0
            have hx0 : w2.cell? ⟨b, off, none⟩ = some (.int .i64 t) := ((unhide B2).cell (p := ⟨b, off, none⟩) hblt).trans x0
            have hnp : 0 < n := by omega
            have dn : decide (0 < n) = true := decide_eq_true hnp
            have i1 : (0 : Int) < (n : Int) := by omega
            clear hc x0 x1 et hn0 hlk
            by_cases ht : lt ≤ t
            · rw [decide_eq_true ht, Bool.true_and] at HR
              have dt : decide (t < lt) = false := decide_eq_false (by omega)
              go_wp2_with fail
              go_quiet (fail)
              go_wp2_with fail
              refine (istateok tm (-1) _ cap n l HN hn HSZ R HR _ ((unhide HRW).below (below_drewN (unhide B2) _))).mono ?_
              rintro e w3 ⟨rfl, hb3⟩
              have B4 := hide ((below_drewN (unhide B2) _).trans (hb3.mono (below_drewN (unhide B2) _).size))
              clear hb3
              go_wp2_with fail
              go_ret
              exact ⟨rfl, unhide B4⟩
            · have hR : R = false := by rw [unhide HR, decide_eq_false ht]; rfl
              have dt : decide (t < lt) = true := decide_eq_true (by omega)
              subst hR
              go_wp2_with fail
              go_quiet (fail)
              go_wp2_with fail
              go_ret
              exact ⟨rfl, below_drewN (unhide B2) _⟩
        · have d6 : 60 < Q := by omega
          have hR : R = false := by rw [unhide HR, decide_eq_false h6]; rfl
          subst hR
          go_wp2_with fail
          go_ret
          exact ⟨rfl, unhide B2⟩
  · have nk : (kd != 3) = true := by simpa using hk
    rw [ents_not hk, unhide HN] at HR
    go_wp2_with fail
    go_ret
    exact ⟨ret_bool (by rw [unhide HR, Bool.eq_iff_iff]; simp), unhide B0⟩
set_option maxHeartbeats 2000000 in
set_option maxRecDepth 100000 in
theorem imsgok (kd fr dst tm ix lt cm : Int) (ok : Bool) (a : Option Addr) (cap n : Nat) (l : List (Int × ByteArray)) (HN : Hid (l.length = n)) (hn : n ≤ 1048576) (HSZ : Hid (∀ k (h : k < l.length), l[k].2.size ≤ 1048576)) (R : Bool) (HR : Hid (R = msgB kd fr dst tm ix lt cm l)) (w : World) (hr : RowV w a (cE l)) :
    Calls Try.prog 7 #[.agg #[.int .i64 kd, .int .i64 fr, .int .i64 dst, .int .i64 tm, .int .i64 ix, .int .i64 lt, .int .i64 cm, .bool ok, .slice a n cap]] w fun e w' => e = .returned (.bool R) ∧ Below w.heap.size w w' := by
  have B0 := hide (Go.Joins.below_alloc1 w (.cells #[.int .i64 kd, .int .i64 fr, .int .i64 dst, .int .i64 tm, .int .i64 ix, .int .i64 lt, .int .i64 cm, .bool ok, .slice a n cap] 29))
  have HRW := hide (hr.below (unhide B0))
  clear hr
  go_enter Try.func7, Try.ntmps7
  obtain ⟨R_kd, hR_kd⟩ : ∃ b, b = inB kd 1 4 := ⟨_, rfl⟩
  have HR_kd := hide hR_kd
  clear hR_kd
  go_wp2_with fail
  refine (iwi kd 1 4 R_kd HR_kd _).mono ?_
  rintro e w1 ⟨rfl, rfl⟩
  cases R_kd with
  | false =>
    have hR : R = false := by rw [unhide HR]; unfold msgB; rw [← unhide HR_kd]; simp
    subst hR
    go_wp2_with fail
    go_ret
    exact ⟨rfl, unhide B0⟩
  | true =>
    obtain ⟨R_fr, hR_fr⟩ : ∃ b, b = inB fr 0 4 := ⟨_, rfl⟩
    have HR_fr := hide hR_fr
    clear hR_fr
    go_wp2_with fail
    refine (iwi fr 0 4 R_fr HR_fr _).mono ?_
    rintro e w1 ⟨rfl, rfl⟩
    cases R_fr with
    | false =>
      have hR : R = false := by rw [unhide HR]; unfold msgB; rw [← unhide HR_fr]; simp
      subst hR
      go_wp2_with fail
      go_ret
      exact ⟨rfl, unhide B0⟩
    | true =>
      obtain ⟨R_dst, hR_dst⟩ : ∃ b, b = inB dst 0 4 := ⟨_, rfl⟩
      have HR_dst := hide hR_dst
      clear hR_dst
      go_wp2_with fail
      refine (iwi dst 0 4 R_dst HR_dst _).mono ?_
      rintro e w1 ⟨rfl, rfl⟩
      cases R_dst with
      | false =>
        have hR : R = false := by rw [unhide HR]; unfold msgB; rw [← unhide HR_dst]; simp
        subst hR
        go_wp2_with fail
        go_ret
        exact ⟨rfl, unhide B0⟩
      | true =>
        by_cases hne : fr = dst
        · have hR : R = false := by rw [unhide HR]; unfold msgB; simp [hne]
          subst hne
          have nn : (fr != fr) = false := by simp
          subst hR
          go_wp2_with fail
          go_ret
          exact ⟨rfl, unhide B0⟩
        have nn : (fr != dst) = true := by simpa using hne
        have ne2 : (fr == dst) = false := by simpa using hne
        have hne2 := hide hne
        clear hne
        obtain ⟨R_tm, hR_tm⟩ : ∃ b, b = inB tm 1 1000 := ⟨_, rfl⟩
        have HR_tm := hide hR_tm
        clear hR_tm
        go_wp2_with fail
        refine (iwi tm 1 1000 R_tm HR_tm _).mono ?_
        rintro e w1 ⟨rfl, rfl⟩
        cases R_tm with
        | false =>
          have hR : R = false := by rw [unhide HR]; unfold msgB; rw [← unhide HR_tm]; simp
          subst hR
          go_wp2_with fail
          go_ret
          exact ⟨rfl, unhide B0⟩
        | true =>
          obtain ⟨R_ix, hR_ix⟩ : ∃ b, b = inB ix 0 60 := ⟨_, rfl⟩
          have HR_ix := hide hR_ix
          clear hR_ix
          go_wp2_with fail
          refine (iwi ix 0 60 R_ix HR_ix _).mono ?_
          rintro e w1 ⟨rfl, rfl⟩
          cases R_ix with
          | false =>
            have hR : R = false := by rw [unhide HR]; unfold msgB; rw [← unhide HR_ix]; simp
            subst hR
            go_wp2_with fail
            go_ret
            exact ⟨rfl, unhide B0⟩
          | true =>
            obtain ⟨R_cm, hR_cm⟩ : ∃ b, b = inB cm 0 60 := ⟨_, rfl⟩
            have HR_cm := hide hR_cm
            clear hR_cm
            go_wp2_with fail
            refine (iwi cm 0 60 R_cm HR_cm _).mono ?_
            rintro e w1 ⟨rfl, rfl⟩
            cases R_cm with
            | false =>
              have hR : R = false := by rw [unhide HR]; unfold msgB; rw [← unhide HR_cm]; simp
              subst hR
              go_wp2_with fail
              go_ret
              exact ⟨rfl, unhide B0⟩
            | true =>
              obtain ⟨R_lt, hR_lt⟩ : ∃ b, b = inB lt 0 tm := ⟨_, rfl⟩
              have HR_lt := hide hR_lt
              clear hR_lt
              go_wp2_with fail
              refine (iwi lt 0 tm R_lt HR_lt _).mono ?_
              rintro e w1 ⟨rfl, rfl⟩
              cases R_lt with
              | false =>
                have hR : R = false := by rw [unhide HR]; unfold msgB; rw [← unhide HR_lt]; simp
                subst hR
                go_wp2_with fail
                go_ret
                exact ⟨rfl, unhide B0⟩
              | true =>
                have HE : Hid (R = entsB kd tm ix lt l) := by show _ = _; rw [unhide HR]; unfold msgB; rw [← unhide HR_kd, ← unhide HR_fr, ← unhide HR_dst, ← unhide HR_tm, ← unhide HR_ix, ← unhide HR_cm, ← unhide HR_lt]; simp [unhide hne2]
                have hi : 0 ≤ ix ∧ ix ≤ 60 := by have := unhide HR_ix; unfold inB at this; simpa using this
                have h0 := hide hi.1
                have h1 := hide hi.2
                clear hi HR
                go_wp2_with fail
                refine (ientsok kd fr dst tm ix lt cm ok a cap n l HN hn HSZ R HE h0 h1 _ (unhide HRW)).mono ?_
                rintro e w2 ⟨rfl, hb2⟩
                have B2 := hide ((unhide B0).trans (hb2.mono (unhide B0).size))
                clear hb2 B0 HRW
                go_wp2_with fail
                go_ret
                exact ⟨rfl, unhide B2⟩
end Go.Proofs.Ytjkolkmopigjjaa
