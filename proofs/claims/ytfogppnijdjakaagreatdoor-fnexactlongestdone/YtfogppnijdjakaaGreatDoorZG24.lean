/- Texts put together: ClkL MsgI. -/
import Derived.Test.YtfogppnijdjakaaGreatDoorZG18
import Derived.Test.YtfogppnijdjakaaGreatDoorZRvI
import Derived.Test.YtfogppnijdjakaaGreatDoorZG22
import Derived.Test.YtfogppnijdjakaaGreatDoorZG23
import Derived.Test.YtfogppnijdjakaaGreatDoorZG9
import Derived.Test.YtfogppnijdjakaaGreatDoorZG16
import Derived.BigQuiet
/- impl's leadsTo: the very same store back. -/
namespace Go.Proofs.YtfogppnijdjakaaGreatDoor
open Go.ChangeShapes Go.WideShapes Go.ChangeAt Go.RowKit
set_option linter.unusedVariables false
theorem Errs9.below {w w' : World} (h : Errs9 w) (hb : Below w.heap.size w w') : Errs9 w' := by
 obtain ⟨h1, xc, xb, xs, x0, x1, x2, x3, x4, h2, h3, h4, h5⟩ := h
 exact ⟨h1.below hb, xc, xb, xs, x0, x1, x2, x3, x4, h2.below hb, h3.below hb, h4, h5⟩
theorem irecov9 (d : ByteArray) (s : Int) (hd : Hid (d.size ≤ maxLen)) (tm' vt' : Int) (l' : List Ent) (n' : Nat) (d2 : ByteArray) (s2 c : Int) (HIS : Hid (RvIs d s tm' vt' l' d2 s2 c)) (HN' : Hid (l'.length = n')) (w : World) (hE : Errs9 w) :
  Calls Tryz.prog 88 #[.agg #[.string d, .int .i64 s]] w fun e w' => ∃ a' k', e = .returned (.tuple #[.agg #[.int .i64 tm', .int .i64 vt', .slice a' n' k'], .agg #[.string d2, .int .i64 s2], .int .i64 c]) ∧ w'.ownsRow w.heap.size 103 2 (.slice a' n' k') n' (cE l') ∧ RowV w' a' (cE l') ∧ Below w.heap.size w w' := by
 obtain ⟨h1, xc, xb, xs, x0, x1, x2, x3, x4, h2, h3, h4, h5⟩ := hE
 refine (irecov d s hd tm' vt' l' n' d2 s2 c HIS HN' w h1 h2 h3 (hide h4) (hide h5)).mono ?_
 rintro e w2 ⟨v, rfl, ho, hb⟩
 obtain ⟨a', k', rfl, hr⟩ := ownZ_rowV ho
 exact ⟨a', k', rfl, ho, hr, hb⟩
set_option maxHeartbeats 4000000 in
set_option maxRecDepth 100000 in
theorem ileads (d : ByteArray) (s : Int) (hd : Hid (d.size ≤ maxLen)) (tm vt : Int) (a : Option Addr) (cap n : Nat) (l : List Ent) (HN : Hid (l.length = n)) (hn : n ≤ 1048576) (HSZ : Hid (∀ k (h : k < l.length), l[k].2.size ≤ 1048576)) (hst : Hid (stateB tm vt l = true)) (R : Bool) (HR : Hid (R = ldB d s tm vt l)) (w : World) (hE : Errs9 w) (hr : RowV w a (cE l)) :
  Calls Tryz.prog 64 #[.agg #[.string d, .int .i64 s], .agg #[.int .i64 tm, .int .i64 vt, .slice a n cap]] w fun e w' => e = .returned (.bool R) ∧ Below w.heap.size w w' := by
 obtain ⟨tm', vt', l', d2, s2, c, his, hn60⟩ := rv_ex d s
 obtain ⟨f1, f2, f3⟩ := ld_impl his (unhide hst)
 have F1 := hide f1
 have F2 := hide f2
 have F3 := hide f3
 obtain ⟨n', hn'⟩ : ∃ n', l'.length = n' := ⟨_, rfl⟩
 have h60 : n' ≤ 1048576 := by omega
 have HIS := hide his
 have HNN := hide hn'
 have H60 := hide h60
 have B0 := hide (Go.Joins.below_alloc2 w (Obj.cells #[.string d, .int .i64 s] 74) (Obj.cells #[.int .i64 tm, .int .i64 vt, .slice a n cap] 76))
 have A0 := hide ((BF.new w #[.string d, .int .i64 s] 74).alloc (Obj.cells #[.int .i64 tm, .int .i64 vt, .slice a n cap] 76))
 have C0 := hide (BF.new (w.alloc (Obj.cells #[.string d, .int .i64 s] 74)) #[.int .i64 tm, .int .i64 vt, .slice a n cap] 76)
 simp only [World.size_alloc] at C0
 have HE := hide hE
 have HRW := hide hr
 have hnl := hide hn
 clear f1 f2 f3 his hn60 hn' h60 hE hr hn
 go_enter Tryz.func64, Tryz.ntmps64
 go_wp2_with fail
 refine (irecov9 d s hd tm' vt' l' n' d2 s2 c HIS HNN _ ((unhide HE).below (unhide B0))).mono ?_
 rintro e w1 ⟨a', k', rfl, -, hr', hb⟩
 have B1 := hide ((unhide B0).trans (hb.mono (unhide B0).size))
 have A1 := hide ((unhide A0).below hb)
 have C1 := hide ((unhide C0).below hb)
 have HR' := hide hr'
 clear hb hr' B0 A0 C0
 have a1 := (unhide A1).S
 have c1 := (unhide C1).S
 have a3 := (((unhide A1).alloc (Obj.cells #[.int .i64 tm', .int .i64 vt', .slice a' n' k'] 76)).alloc (Obj.cells #[.string d2, .int .i64 s2] 74)).S
 have c3 := (((unhide C1).alloc (Obj.cells #[.int .i64 tm', .int .i64 vt', .slice a' n' k'] 76)).alloc (Obj.cells #[.string d2, .int .i64 s2] 74)).S
 have d3 := ((BF.new w1 #[.int .i64 tm', .int .i64 vt', .slice a' n' k'] 76).alloc (Obj.cells #[.string d2, .int .i64 s2] 74)).S
 have e3 := (BF.new (w1.alloc (Obj.cells #[.int .i64 tm', .int .i64 vt', .slice a' n' k'] 76)) #[.string d2, .int .i64 s2] 74).S
 simp only [World.size_alloc] at e3
 have B3 := hide (((unhide B1).alloc (unhide B1).size (Obj.cells #[.int .i64 tm', .int .i64 vt', .slice a' n' k'] 76)).alloc (Nat.le_trans (unhide B1).size (by simp)) (Obj.cells #[.string d2, .int .i64 s2] 74))
 by_cases hc : c = 0
 ·subst hc
  by_cases q1 : d2 = d
  ·by_cases q2 : s2 = s
   ·subst q1 q2
    obtain ⟨hs, hsz⟩ := unhide F3 rfl rfl rfl
    have HS : Hid (SameIs tm' vt' l' tm vt l R 0) := by show SameIs _ _ _ _ _ _ _ _; rw [unhide HR]; exact hs
    have HSZ2 := hide hsz
    clear hs hsz F1 F2 F3 HIS
    go_wp2_with fail
    refine (isame tm' vt' a' k' n' l' HNN (unhide H60) HSZ2 tm vt a cap n l HN (unhide hnl) HSZ R 0 HS _ ((unhide HR').below (Go.Joins.below_alloc2 w1 (Obj.cells #[.int .i64 tm', .int .i64 vt', .slice a' n' k'] 76) (Obj.cells #[.string d2, .int .i64 s2] 74))) ((unhide HRW).below (unhide B3))).mono ?_
    rintro e w2 ⟨rfl, hb⟩
    have B4 := hide ((unhide B3).trans (hb.mono (unhide B3).size))
    clear hb
    go_wp2_with fail
    go_ret
    exact ⟨rfl, unhide B4⟩
   ·obtain rfl : R = false := by rw [unhide HR]; exact unhide F2 rfl fun x => q2 x.2
    subst q1
    have n1 : (s2 != s) = true := by simpa using q2
    clear F1 F2 F3 HIS
    go_wp2_with fail
    go_ret
    exact ⟨rfl, unhide B3⟩
  ·obtain rfl : R = false := by rw [unhide HR]; exact unhide F2 rfl fun x => q1 x.1
   have q3 : ¬ d2.toList = d.toList := fun h => q1 (by rw [ByteArray.toList_eq, ByteArray.toList_eq] at h; exact ByteArray.ext (Array.toList_inj.1 h))
   clear F1 F2 F3 HIS
   go_wp2_with fail
   go_ret
   exact ⟨rfl, unhide B3⟩
 ·have nc : (c != 0) = true := by simpa using hc
  obtain rfl : R = false := by rw [unhide HR]; exact unhide F1 hc
  go_wp2_with fail
  go_ret
  exact ⟨rfl, unhide B3⟩
end Go.Proofs.YtfogppnijdjakaaGreatDoor

/- Which messages are right: what the program answers. -/
namespace Go.Proofs.YtfogppnijdjakaaGreatDoor
open Go.ChangeShapes Go.WideShapes Go.ChangeAt Go.RowKit
set_option linter.unusedVariables false
set_option maxHeartbeats 2000000 in
set_option maxRecDepth 100000 in
theorem ilastp (kd fr dst tm ix lt cm : Int) (ok : Bool) (a : Option Addr) (cap n : Nat) (Q : Int) (hQ : Q = ix + (n : Int)) (h0 : 0 ≤ ix) (h1 : ix ≤ 60) (hn : n ≤ 1048576) (w : World) :
  Calls Tryz.prog 101 #[.agg #[.int .i64 kd, .int .i64 fr, .int .i64 dst, .int .i64 tm, .int .i64 ix, .int .i64 lt, .int .i64 cm, .bool ok, .slice a n cap]] w fun e w' => e = .returned (.int .i64 Q) ∧ Below w.heap.size w w' := by
 have B0 := hide (Go.Joins.below_alloc1 w (.cells #[.int .i64 kd, .int .i64 fr, .int .i64 dst, .int .i64 tm, .int .i64 ix, .int .i64 lt, .int .i64 cm, .bool ok, .slice a n cap] 82))
 have e1 : IntKind.i64.wrap (ix + (n : Int)) = Q := by rw [hQ]; exact wrapi _ (by omega) (by omega)
 clear hQ
 go_enter Tryz.func101, Tryz.ntmps101
 go_wp2_with fail
 go_ret
 exact ⟨rfl, unhide B0⟩
set_option maxHeartbeats 2000000 in
set_option maxRecDepth 100000 in
theorem ientsok (kd fr dst tm ix lt cm : Int) (ok : Bool) (a : Option Addr) (cap n : Nat) (l : List (Int × ByteArray)) (HN : Hid (l.length = n)) (hn : n ≤ 1048576) (HSZ : Hid (∀ k (h : k < l.length), l[k].2.size ≤ 1048576)) (R : Bool) (HR : Hid (R = entsB kd tm ix lt l)) (h0 : Hid (0 ≤ ix)) (h1 : Hid (ix ≤ 60)) (w : World) (hr : RowV w a (cE l)) :
  Calls Tryz.prog 90 #[.agg #[.int .i64 kd, .int .i64 fr, .int .i64 dst, .int .i64 tm, .int .i64 ix, .int .i64 lt, .int .i64 cm, .bool ok, .slice a n cap]] w fun e w' => e = .returned (.bool R) ∧ Below w.heap.size w w' := by
 have B0 := hide (Go.Joins.below_alloc1 w (.cells #[.int .i64 kd, .int .i64 fr, .int .i64 dst, .int .i64 tm, .int .i64 ix, .int .i64 lt, .int .i64 cm, .bool ok, .slice a n cap] 82))
 have A0 := hide (BF.new w #[.int .i64 kd, .int .i64 fr, .int .i64 dst, .int .i64 tm, .int .i64 ix, .int .i64 lt, .int .i64 cm, .bool ok, .slice a n cap] 82)
 have HRW := hide hr
 have HCL := hide (cE_len l)
 clear hr
 go_enter Tryz.func90, Tryz.ntmps90
 by_cases hk : kd = 3
 ·subst hk
  rw [ents_app] at HR
  rw [unhide HN] at HR
  obtain ⟨Q, hQ⟩ : ∃ Q : Int, Q = ix + (n : Int) := ⟨_, rfl⟩
  rw [← hQ] at HR
  have HQ := hide hQ
  have BL := fun w' => ilastp 3 fr dst tm ix lt cm ok a cap n Q hQ (unhide h0) (unhide h1) hn w'
  have HBL := hide BL
  clear BL hQ
  cases hz : (decide (ix ≠ 0) || decide (lt = 0)) with
  | false =>
   have hR : R = false := by rw [unhide HR, hz]; rfl
   simp at hz
   obtain ⟨rfl, hlt⟩ := hz
   have nn : (lt != 0) = true := by simpa using hlt
   subst hR
   go_wp2_with fail
   go_ret
   exact ⟨rfl, unhide B0⟩
  | true =>
   rw [hz, Bool.true_and] at HR
   have hcs : ((ix == 0) = true ∧ (lt != 0) = false) ∨ ((ix == 0) = false ∧ True) := by
    by_cases h : ix = 0
    ·left; subst h; simpa using hz
    ·right; exact ⟨by simpa using h, trivial⟩
   have HZ := hide hz
   clear hz
   rcases hcs with ⟨he, hne⟩ | ⟨he, hne⟩
   all_goals
    go_wp2_with fail
    refine (unhide HBL _).mono ?_
    rintro e w2 ⟨rfl, hb2⟩
    have B2 := hide ((unhide B0).trans (hb2.mono (unhide B0).size))
    have A2 := hide ((unhide A0).below hb2)
    clear hb2 B0 A0
    have a2 := (unhide A2).S
    by_cases h6 : Q ≤ 60
    ·have d6 : ¬ (60 < Q) := by omega
     rw [decide_eq_true h6, Bool.true_and] at HR
     by_cases hn0 : n = 0
     ·subst hn0
      rw [firstB_nil (unhide HN), Bool.true_and] at HR
      go_wp2_with fail
      go_quiet (fail)
      have B3 := hide (bdN (unhide B2) 1)
      go_wp2_with fail
      refine (istateok tm (-1) a cap 0 l HN hn HSZ R HR _ ((unhide HRW).below (bdN (unhide B2) _))).mono ?_
      rintro e w3 ⟨rfl, hb3⟩
      have B4 := hide ((bdN (unhide B2) _).trans (hb3.mono (bdN (unhide B2) _).size))
      clear hb3
      go_wp2_with fail
      go_ret
      exact ⟨rfl, unhide B4⟩
     ·obtain ⟨b, off, ha, hblt, hc⟩ := (unhide HRW).at (by rw [unhide HCL, unhide HN]; omega)
      subst ha
      have hlk : 0 < l.length := by rw [unhide HN]; omega
      obtain ⟨x0, x1⟩ := row_ent hc 0 hlk
      obtain ⟨t, et⟩ : ∃ t, t = l[0].1 := ⟨_, rfl⟩
      rw [firstB_at hlk, ← et] at HR
      rw [← et, Nat.zero_mul, Nat.add_zero] at x0
      have hx0 : w2.cell? ⟨b, off, none⟩ = some (.int .i64 t) := ((unhide B2).cell (p := ⟨b, off, none⟩) hblt).trans x0
      have hnp : 0 < n := by omega
      have dn : decide (0 < n) = true := decide_eq_true hnp
      have i1 : (0 : Int) < (n : Int) := by omega
      clear hc x0 x1 et hn0 hlk
      by_cases ht : lt ≤ t
      ·rw [decide_eq_true ht, Bool.true_and] at HR
       have dt : decide (t < lt) = false := decide_eq_false (by omega)
       go_wp2_with fail
       go_quiet (fail)
       go_wp2_with fail
       refine (istateok tm (-1) _ cap n l HN hn HSZ R HR _ ((unhide HRW).below (bdN (unhide B2) _))).mono ?_
       rintro e w3 ⟨rfl, hb3⟩
       have B4 := hide ((bdN (unhide B2) _).trans (hb3.mono (bdN (unhide B2) _).size))
       clear hb3
       go_wp2_with fail
       go_ret
       exact ⟨rfl, unhide B4⟩
      ·have hR : R = false := by rw [unhide HR, decide_eq_false ht]; rfl
       have dt : decide (t < lt) = true := decide_eq_true (by omega)
       subst hR
       go_wp2_with fail
       go_quiet (fail)
       go_wp2_with fail
       go_ret
       exact ⟨rfl, bdN (unhide B2) _⟩
    ·have d6 : 60 < Q := by omega
     have hR : R = false := by rw [unhide HR, decide_eq_false h6]; rfl
     subst hR
     go_wp2_with fail
     go_ret
     exact ⟨rfl, unhide B2⟩
 ·have nk : (kd != 3) = true := by simpa using hk
  rw [ents_not hk, unhide HN] at HR
  go_wp2_with fail
  go_ret
  exact ⟨ret_bool (by rw [unhide HR, Bool.eq_iff_iff]; simp), unhide B0⟩
set_option maxHeartbeats 2000000 in
set_option maxRecDepth 100000 in
theorem imsgok (kd fr dst tm ix lt cm : Int) (ok : Bool) (a : Option Addr) (cap n : Nat) (l : List (Int × ByteArray)) (HN : Hid (l.length = n)) (hn : n ≤ 1048576) (HSZ : Hid (∀ k (h : k < l.length), l[k].2.size ≤ 1048576)) (R : Bool) (HR : Hid (R = msgB kd fr dst tm ix lt cm l)) (w : World) (hr : RowV w a (cE l)) :
  Calls Tryz.prog 67 #[.agg #[.int .i64 kd, .int .i64 fr, .int .i64 dst, .int .i64 tm, .int .i64 ix, .int .i64 lt, .int .i64 cm, .bool ok, .slice a n cap]] w fun e w' => e = .returned (.bool R) ∧ Below w.heap.size w w' := by
 have B0 := hide (Go.Joins.below_alloc1 w (.cells #[.int .i64 kd, .int .i64 fr, .int .i64 dst, .int .i64 tm, .int .i64 ix, .int .i64 lt, .int .i64 cm, .bool ok, .slice a n cap] 82))
 have HRW := hide (hr.below (unhide B0))
 clear hr
 go_enter Tryz.func67, Tryz.ntmps67
 obtain ⟨R_kd, hR_kd⟩ : ∃ b, b = inB kd 1 4 := ⟨_, rfl⟩
 have HR_kd := hide hR_kd
 clear hR_kd
 go_wp2_with fail
 refine (iwi kd 1 4 R_kd HR_kd _).mono ?_
 rintro e w1 ⟨rfl, rfl⟩
 cases R_kd with
 | false =>
  have hR : R = false := by rw [unhide HR]; unfold msgB; rw [← unhide HR_kd]; simp
  subst hR
  go_wp2_with fail
  go_ret
  exact ⟨rfl, unhide B0⟩
 | true =>
  obtain ⟨R_fr, hR_fr⟩ : ∃ b, b = inB fr 0 4 := ⟨_, rfl⟩
  have HR_fr := hide hR_fr
  clear hR_fr
  go_wp2_with fail
  refine (iwi fr 0 4 R_fr HR_fr _).mono ?_
  rintro e w1 ⟨rfl, rfl⟩
  cases R_fr with
  | false =>
   have hR : R = false := by rw [unhide HR]; unfold msgB; rw [← unhide HR_fr]; simp
   subst hR
   go_wp2_with fail
   go_ret
   exact ⟨rfl, unhide B0⟩
  | true =>
   obtain ⟨R_dst, hR_dst⟩ : ∃ b, b = inB dst 0 4 := ⟨_, rfl⟩
   have HR_dst := hide hR_dst
   clear hR_dst
   go_wp2_with fail
   refine (iwi dst 0 4 R_dst HR_dst _).mono ?_
   rintro e w1 ⟨rfl, rfl⟩
   cases R_dst with
   | false =>
    have hR : R = false := by rw [unhide HR]; unfold msgB; rw [← unhide HR_dst]; simp
    subst hR
    go_wp2_with fail
    go_ret
    exact ⟨rfl, unhide B0⟩
   | true =>
    by_cases hne : fr = dst
    ·have hR : R = false := by rw [unhide HR]; unfold msgB; simp [hne]
     subst hne
     have nn : (fr != fr) = false := by simp
     subst hR
     go_wp2_with fail
     go_ret
     exact ⟨rfl, unhide B0⟩
    have nn : (fr != dst) = true := by simpa using hne
    have ne2 : (fr == dst) = false := by simpa using hne
    have hne2 := hide hne
    clear hne
    obtain ⟨R_tm, hR_tm⟩ : ∃ b, b = inB tm 1 1000 := ⟨_, rfl⟩
    have HR_tm := hide hR_tm
    clear hR_tm
    go_wp2_with fail
    refine (iwi tm 1 1000 R_tm HR_tm _).mono ?_
    rintro e w1 ⟨rfl, rfl⟩
    cases R_tm with
    | false =>
     have hR : R = false := by rw [unhide HR]; unfold msgB; rw [← unhide HR_tm]; simp
     subst hR
     go_wp2_with fail
     go_ret
     exact ⟨rfl, unhide B0⟩
    | true =>
     obtain ⟨R_ix, hR_ix⟩ : ∃ b, b = inB ix 0 60 := ⟨_, rfl⟩
     have HR_ix := hide hR_ix
     clear hR_ix
     go_wp2_with fail
     refine (iwi ix 0 60 R_ix HR_ix _).mono ?_
     rintro e w1 ⟨rfl, rfl⟩
     cases R_ix with
     | false =>
      have hR : R = false := by rw [unhide HR]; unfold msgB; rw [← unhide HR_ix]; simp
      subst hR
      go_wp2_with fail
      go_ret
      exact ⟨rfl, unhide B0⟩
     | true =>
      obtain ⟨R_cm, hR_cm⟩ : ∃ b, b = inB cm 0 60 := ⟨_, rfl⟩
      have HR_cm := hide hR_cm
      clear hR_cm
      go_wp2_with fail
      refine (iwi cm 0 60 R_cm HR_cm _).mono ?_
      rintro e w1 ⟨rfl, rfl⟩
      cases R_cm with
      | false =>
       have hR : R = false := by rw [unhide HR]; unfold msgB; rw [← unhide HR_cm]; simp
       subst hR
       go_wp2_with fail
       go_ret
       exact ⟨rfl, unhide B0⟩
      | true =>
       obtain ⟨R_lt, hR_lt⟩ : ∃ b, b = inB lt 0 tm := ⟨_, rfl⟩
       have HR_lt := hide hR_lt
       clear hR_lt
       go_wp2_with fail
       refine (iwi lt 0 tm R_lt HR_lt _).mono ?_
       rintro e w1 ⟨rfl, rfl⟩
       cases R_lt with
       | false =>
        have hR : R = false := by rw [unhide HR]; unfold msgB; rw [← unhide HR_lt]; simp
        subst hR
        go_wp2_with fail
        go_ret
        exact ⟨rfl, unhide B0⟩
       | true =>
        have HE : Hid (R = entsB kd tm ix lt l) := by show _ = _; rw [unhide HR]; unfold msgB; rw [← unhide HR_kd, ← unhide HR_fr, ← unhide HR_dst, ← unhide HR_tm, ← unhide HR_ix, ← unhide HR_cm, ← unhide HR_lt]; simp [unhide hne2]
        have hi : 0 ≤ ix ∧ ix ≤ 60 := by have := unhide HR_ix; unfold inB at this; simpa using this
        have h0 := hide hi.1
        have h1 := hide hi.2
        clear hi HR
        go_wp2_with fail
        refine (ientsok kd fr dst tm ix lt cm ok a cap n l HN hn HSZ R HE h0 h1 _ (unhide HRW)).mono ?_
        rintro e w2 ⟨rfl, hb2⟩
        have B2 := hide ((unhide B0).trans (hb2.mono (unhide B0).size))
        clear hb2 B0 HRW
        go_wp2_with fail
        go_ret
        exact ⟨rfl, unhide B2⟩
end Go.Proofs.YtfogppnijdjakaaGreatDoor
