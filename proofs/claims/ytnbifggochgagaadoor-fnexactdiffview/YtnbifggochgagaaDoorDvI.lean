/- DiffView: what the program answers. -/
import Derived.Test.YtnbifggochgagaaDoorFvM
import Derived.Test.YtnbifggochgagaaDoorPkI
namespace Go.Proofs.YtnbifggochgagaaDoor
open Go.ChangeShapes Go.WideShapes Go.ChangeAt Go.RowKit
set_option linter.unusedVariables false
theorem bytes_inj {a b : ByteArray} (h : a.toList = b.toList) : a = b := by
  have h2 : a.data.toList = b.data.toList := by rw [← Go.Lib.toList_data, ← Go.Lib.toList_data]; exact h
  apply ByteArray.ext
  exact Array.ext' h2
set_option maxHeartbeats 4000000 in
set_option maxRecDepth 100000 in
theorem ichanged (o : Option Addr) (capo : Nat) (a : Option Addr) (cap n : Nat) (hn : n ≤ 10) (O R : List ByteArray) (HNO : Hid (O.length = n)) (HN : Hid (R.length = n)) (s : Nat) (HSS : Hid (s = bset (chB O R) n)) (w : World) (hro : RowV w o (cS O)) (hr : RowV w a (cS R)) :
    Calls Tryd.prog 21 #[.slice o n capo, .slice a n cap] w fun e w' => e = .returned (.int .u16 (s : Int)) ∧ w' = w := by
  have HR := hide hr
  have HRO := hide hro
  have HCL := hide (cS_len R)
  have HCO := hide (cS_len O)
  clear hr hro
  go_enter Tryd.func21, Tryd.ntmps21
  go_wp2_with fail
  go_loop [5, 10] (fun s0 i => ∃ k q : Nat, k ≤ n ∧ i = .int .i64 (k : Int) ∧ s0 = .int .u16 (q : Int) ∧ Hid (q = bset (chB O R) k)) (fun _ i => n - (intOf i).toNat)
  case atStart => exact ⟨0, 0, by omega, rfl, rfl, rfl⟩
  case round =>
    obtain ⟨k, q, hk, rfl, rfl, HQ⟩ := hrel
    by_cases hlt : k < n
    · have hlt' : (k : Int) < (n : Int) := by omega
      have hkR : k < R.length := by rw [unhide HN]; exact hlt
      have hkO : k < O.length := by rw [unhide HNO]; exact hlt
      obtain ⟨b1, off, ha, hblt, hc⟩ := (unhide HR).at (by rw [unhide HCL]; omega)
      obtain ⟨b2, off2, ha2, hblt2, hc2⟩ := (unhide HRO).at (by rw [unhide HCO]; omega)
      subst ha ha2
      obtain ⟨d, hd⟩ : ∃ d, d = R[k] := ⟨_, rfl⟩
      obtain ⟨e, he⟩ : ∃ e, e = O[k] := ⟨_, rfl⟩
      have hx0 : w.cell? ⟨b1, off + k, none⟩ = some (.string d) := by rw [hd]; exact hc k _ (cS_at R k hkR)
      have hx1 : w.cell? ⟨b2, off2 + k, none⟩ = some (.string e) := by rw [he]; exact hc2 k _ (cS_at O k hkO)
      have HCH : Hid (chB O R k = decide (e ≠ d)) := by show _ = _; unfold chB; rw [show R.getD k ⟨#[]⟩ = d from by rw [hd]; simp [hkR], show O.getD k ⟨#[]⟩ = e from by rw [he]; simp [hkO]]
      have hq10 : q < 1024 := by rw [unhide HQ]; exact bset_small _ _ (by omega)
      clear hc hc2 hd he hkR hkO
      by_cases hed : d = e
      · subst hed
        have hne : (d.toList != d.toList) = false := by simp
        have HQ2 : Hid (q = bset (chB O R) (k + 1)) := by show _ = _; rw [bset_no (by rw [unhide HCH]; exact decide_eq_false (fun h => h rfl))]; exact unhide HQ
        clear HQ
        go_wp2_with fail
        go_round
        case rel => exact ⟨k + 1, q, by omega, by go_num, rfl, HQ2⟩
        case measure => simp [intOf]; omega
      · have hne : (d.toList != e.toList) = true := by
          rw [bne_iff_ne]
          intro h
          exact hed (bytes_inj h)
        have hne2 : (d.toList == e.toList) = false := by rw [beq_eq_false_iff_ne]; intro h; exact hed (bytes_inj h)
        obtain ⟨t, ht⟩ : ∃ t, t = (q ||| 2 ^ k) := ⟨_, rfl⟩
        have HT := hide ht
        have HQ2 : Hid (t = bset (chB O R) (k + 1)) := by show _ = _; rw [bset_yes (by rw [unhide HCH]; exact decide_eq_true (fun h => hed h.symm)), ← unhide HQ]; exact ht
        clear HQ ht hed
        go_wp2_with (go_at_call 31; refine (iwith q k t hq10 (by omega) HT _).mono ?_; rintro e w4 ⟨rfl, hw4⟩; subst w4)
        go_round
        case rel => exact ⟨k + 1, t, by omega, by go_num, rfl, HQ2⟩
        case measure => simp [intOf]; omega
    · obtain rfl : k = n := by omega
      obtain rfl : s = q := (unhide HSS).trans (unhide HQ).symm
      go_wp2_with fail
      go_ret
      exact ⟨rfl, rfl⟩
set_option maxHeartbeats 4000000 in
set_option maxRecDepth 100000 in
theorem idiff11 (fr nb vw vh : Int) (o : Option Addr) (capo no : Nat) (O : List ByteArray) (HNO : Hid (O.length = no)) (hno : no ≤ 1048576) (HSO : Hid (∀ k (h : k < O.length), O[k].size ≤ 1048576)) (a : Option Addr) (cap n : Nat) (R : List ByteArray) (HN : Hid (R.length = n)) (hn : n ≤ 1048576) (HS : Hid (∀ k (h : k < R.length), R[k].size ≤ 1048576)) (nb2 fr2 w2 h2 : Int) (L : List Rw) (c : Int) (HI : Hid (DvIs fr nb vw vh O R nb2 fr2 w2 h2 L c)) (w : World) (hro : RowV w o (cS O)) (hr : RowV w a (cS R)) (hT : TzTab w) :
    Calls Tryd.prog 7 #[.int .i64 fr, .int .i64 nb, .int .i64 vw, .int .i64 vh, .slice o no capo, .slice a n cap] w fun e w' => ∃ v, e = .returned (.tuple #[.agg #[.int .i64 nb2, .int .i64 fr2, .bool false, .int .i64 w2, .int .i64 h2, v], .int .i64 c]) ∧ w'.ownsRow w.heap.size 38 2 v L.length (cE L) ∧ Below w.heap.size w w' := by
  have B0 := hide (Go.Joins.below_alloc1 w (.cells #[.int .i64 0, .int .i64 0, .bool false, .int .i64 0, .int .i64 0, .slice none 0 0] 26))
  have HZ0 := hide (BF.new w #[.int .i64 0, .int .i64 0, .bool false, .int .i64 0, .int .i64 0, .slice none 0 0] 26)
  have HR := hide hr
  have HRO := hide hro
  have HNI := hide hn
  have HNOI := hide hno
  clear hr hro hn hno
  have HTZ := hide hT
  clear hT
  have hC : c = dvC fr nb vw vh O R := (unhide HI).1
  by_cases hlongo : (4096 : Int) < (no : Int)
  · have hc : c = 2 := by rw [hC]; unfold dvC; rw [unhide HN, unhide HNO, if_pos (by omega)]
    obtain ⟨rfl, rfl, rfl, rfl, rfl⟩ := (unhide HI).2.2 (by rw [hc]; decide)
    subst hc
    clear hC HI
    go_enter Tryd.func7, Tryd.ntmps7
    go_wp2_with fail
    refine bodyPost_ret (v := .tuple #[.agg #[.int .i64 0, .int .i64 0, .bool false, .int .i64 0, .int .i64 0, .slice none 0 0], .int .i64 2]) (by simp [results, Tryd.results7, go_sem]) rfl ?_
    exact ⟨_, rfl, World.ownsRow_nil _ _ _ _, by (repeat refine Below.setCell ?_ (by exact Nat.le_refl _) _); exact unhide B0⟩
  by_cases hlong : (4096 : Int) < (n : Int)
  · have hc : c = 2 := by rw [hC]; unfold dvC; rw [unhide HN, unhide HNO, if_pos (by omega)]
    obtain ⟨rfl, rfl, rfl, rfl, rfl⟩ := (unhide HI).2.2 (by rw [hc]; decide)
    subst hc
    clear hC HI
    go_enter Tryd.func7, Tryd.ntmps7
    go_wp2_with fail
    refine bodyPost_ret (v := .tuple #[.agg #[.int .i64 0, .int .i64 0, .bool false, .int .i64 0, .int .i64 0, .slice none 0 0], .int .i64 2]) (by simp [results, Tryd.results7, go_sem]) rfl ?_
    exact ⟨_, rfl, World.ownsRow_nil _ _ _ _, by (repeat refine Below.setCell ?_ (by exact Nat.le_refl _) _); exact unhide B0⟩
  have hC2 : c = if inB nb 0 60 && (inB fr 0 (nb - 1) && sizeB vw vh) then (if rowsB vw.toNat vh.toNat O && rowsB vw.toNat vh.toNat R then 0 else 1) else 4 := by rw [hC]; unfold dvC; rw [unhide HN, unhide HNO, if_neg (by omega)]
  have hn4 : n ≤ 4096 := by omega
  have hno4 : no ≤ 4096 := by omega
  clear hC
  obtain ⟨c1, hc1⟩ : ∃ c, c = inB nb 0 60 := ⟨_, rfl⟩
  have HC1 := hide hc1
  rw [← hc1] at hC2
  cases c1 with
  | false =>
    clear hc1
    have hc : c = 4 := hC2
    obtain ⟨rfl, rfl, rfl, rfl, rfl⟩ := (unhide HI).2.2 (by rw [hc]; decide)
    subst hc
    clear HI
    go_enter Tryd.func7, Tryd.ntmps7
    go_wp2_with (go_at_call 16; refine (inumok _ false HC1 _).mono ?_; rintro e w3 ⟨rfl, rfl⟩)
    refine bodyPost_ret (v := .tuple #[.agg #[.int .i64 0, .int .i64 0, .bool false, .int .i64 0, .int .i64 0, .slice none 0 0], .int .i64 4]) (by simp [results, Tryd.results7, go_sem]) rfl ?_
    exact ⟨_, rfl, World.ownsRow_nil _ _ _ _, by (repeat refine Below.setCell ?_ (by exact Nat.le_refl _) _); exact unhide B0⟩
  | true =>
    have hnb : 0 ≤ nb ∧ nb ≤ 60 := of_decide_eq_true hc1.symm
    clear hc1
    obtain ⟨cf, hcf⟩ : ∃ c, c = inB fr 0 (nb - 1) := ⟨_, rfl⟩
    have HCF := hide hcf
    rw [← hcf] at hC2
    clear hcf
    cases cf with
    | false =>
      have hc : c = 4 := hC2
      obtain ⟨rfl, rfl, rfl, rfl, rfl⟩ := (unhide HI).2.2 (by rw [hc]; decide)
      subst hc
      clear HI
      go_enter Tryd.func7, Tryd.ntmps7
      go_wp2_with (first | (go_at_call 16; refine (inumok _ true HC1 _).mono ?_; rintro e w3 ⟨rfl, rfl⟩) | (go_at_call 17; refine (iwi _ 0 _ false HCF _).mono ?_; rintro e w3 ⟨rfl, rfl⟩))
      refine bodyPost_ret (v := .tuple #[.agg #[.int .i64 0, .int .i64 0, .bool false, .int .i64 0, .int .i64 0, .slice none 0 0], .int .i64 4]) (by simp [results, Tryd.results7, go_sem]) rfl ?_
      exact ⟨_, rfl, World.ownsRow_nil _ _ _ _, by (repeat refine Below.setCell ?_ (by exact Nat.le_refl _) _); exact unhide B0⟩
    | true =>
      cases hc2 : sizeB vw vh with
      | false =>
        have hc : c = 4 := by rw [hC2, hc2]; rfl
        obtain ⟨rfl, rfl, rfl, rfl, rfl⟩ := (unhide HI).2.2 (by rw [hc]; decide)
        subst hc
        clear HI
        have HC2 := hide hc2
        clear hc2 hC2
        go_enter Tryd.func7, Tryd.ntmps7
        go_wp2_with (first | (go_at_call 16; refine (inumok _ true HC1 _).mono ?_; rintro e w3 ⟨rfl, rfl⟩) | (go_at_call 17; refine (iwi _ 0 _ true HCF _).mono ?_; rintro e w3 ⟨rfl, rfl⟩) | (go_at_call 18; refine (isize _ _ _).mono ?_; rintro e w3 ⟨rfl, rfl⟩; rw [unhide HC2]))
        refine bodyPost_ret (v := .tuple #[.agg #[.int .i64 0, .int .i64 0, .bool false, .int .i64 0, .int .i64 0, .slice none 0 0], .int .i64 4]) (by simp [results, Tryd.results7, go_sem]) rfl ?_
        exact ⟨_, rfl, World.ownsRow_nil _ _ _ _, by (repeat refine Below.setCell ?_ (by exact Nat.le_refl _) _); exact unhide B0⟩
      | true =>
        obtain ⟨W, H, rfl, rfl, hW1, hW2, hH1, hH2⟩ := sizeB_nat hc2
        have HC2 := hide hc2
        obtain ⟨co, hco⟩ : ∃ c, c = rowsB W H O := ⟨_, rfl⟩
        have HCO := hide hco
        obtain ⟨cr, hcr⟩ : ∃ c, c = rowsB W H R := ⟨_, rfl⟩
        have HCR := hide hcr
        have hC3 : c = if co && cr then 0 else 1 := by rw [hC2, hc2, hco, hcr]; simp
        have TOK : True := trivial
        clear hc2 hC2 hco hcr
        cases co with
        | false =>
          have hc : c = 1 := hC3
          obtain ⟨rfl, rfl, rfl, rfl, rfl⟩ := (unhide HI).2.2 (by rw [hc]; decide)
          subst hc
          clear HI
          clear hC3
          go_enter Tryd.func7, Tryd.ntmps7
          go_wp2_with (first | (go_at_call 16; refine (inumok _ true HC1 _).mono ?_; rintro e w3 ⟨rfl, rfl⟩) | (go_at_call 17; refine (iwi _ 0 _ true HCF _).mono ?_; rintro e w3 ⟨rfl, rfl⟩) | (go_at_call 18; refine (isize _ _ _).mono ?_; rintro e w3 ⟨rfl, rfl⟩; rw [unhide HC2]) | (clear TOK; go_at_call 19; refine (irowsok o capo W _ _ hW2 hH2 O HNO (unhide HNOI) HSO false HCO _ ((unhide HRO).below (unhide B0))).mono ?_; rintro e w4 ⟨rfl, hb4⟩; have HB4 := hide ((unhide B0).trans (hb4.mono (unhide B0).size)); have HZ4 := hide ((unhide HZ0).below hb4); have kz4 := (unhide HZ4).S; have kf4 := (unhide HZ4).F; clear hb4))
          refine bodyPost_ret (v := .tuple #[.agg #[.int .i64 0, .int .i64 0, .bool false, .int .i64 0, .int .i64 0, .slice none 0 0], .int .i64 1]) (by simp [results, Tryd.results7, go_sem, kz4]) rfl ?_
          exact ⟨_, rfl, World.ownsRow_nil _ _ _ _, by (repeat refine Below.setCell ?_ (by exact Nat.le_refl _) _); exact unhide HB4⟩
        | true =>
          cases cr with
          | false =>
            have hc : c = 1 := hC3
            obtain ⟨rfl, rfl, rfl, rfl, rfl⟩ := (unhide HI).2.2 (by rw [hc]; decide)
            subst hc
            clear HI
            clear hC3
            go_enter Tryd.func7, Tryd.ntmps7
            go_wp2_with (first | (go_at_call 16; refine (inumok _ true HC1 _).mono ?_; rintro e w3 ⟨rfl, rfl⟩) | (go_at_call 17; refine (iwi _ 0 _ true HCF _).mono ?_; rintro e w3 ⟨rfl, rfl⟩) | (go_at_call 18; refine (isize _ _ _).mono ?_; rintro e w3 ⟨rfl, rfl⟩; rw [unhide HC2]) | (clear TOK; go_at_call 19; refine (irowsok o capo W _ _ hW2 hH2 O HNO (unhide HNOI) HSO true HCO _ ((unhide HRO).below (unhide B0))).mono ?_; rintro e w4 ⟨rfl, hb4⟩; have HB4 := hide ((unhide B0).trans (hb4.mono (unhide B0).size)); have HZ4 := hide ((unhide HZ0).below hb4); have kz4 := (unhide HZ4).S; have kf4 := (unhide HZ4).F; clear hb4) | (go_at_call 19; refine (irowsok a cap W _ _ hW2 hH2 R HN (unhide HNI) HS false HCR _ ((unhide HR).below (unhide HB4))).mono ?_; rintro e w5 ⟨rfl, hb5⟩; have HB5 := hide ((unhide HB4).trans (hb5.mono (unhide HB4).size)); have HZ5 := hide ((unhide HZ4).below hb5); have kz5 := (unhide HZ5).S; have kf5 := (unhide HZ5).F; clear hb5; clear kz4 kf4))
            refine bodyPost_ret (v := .tuple #[.agg #[.int .i64 0, .int .i64 0, .bool false, .int .i64 0, .int .i64 0, .slice none 0 0], .int .i64 1]) (by simp [results, Tryd.results7, go_sem, kz5]) rfl ?_
            exact ⟨_, rfl, World.ownsRow_nil _ _ _ _, by (repeat refine Below.setCell ?_ (by exact Nat.le_refl _) _); exact unhide HB5⟩
          | true =>
            have hc : c = 0 := hC3
            obtain ⟨e1, e2, e3, e4, e5⟩ := (unhide HI).2.1 hc
            have HE5 := hide e5
            subst e1 e2 e3 e4 hc
            have hlen : ∀ X : List ByteArray, rowsB W H X = true → X.length = H := fun X h => by
              unfold rowsB at h
              rw [Bool.and_eq_true, decide_eq_true_eq] at h
              exact h.1
            obtain rfl : n = H := by rw [← unhide HN]; exact hlen R (unhide HCR).symm
            obtain rfl : no = n := by rw [← unhide HNO]; exact hlen O (unhide HCO).symm
            clear HI hC3 e5 hlen
            obtain ⟨p, hp⟩ : ∃ p, p = bset (chB O R) no := ⟨_, rfl⟩
            have HP := hide hp
            have HL2 : Hid (L = pkL R (picks p)) := by show _ = _; rw [unhide HE5, hp, picks_bset _ no hH2]; simp
            have hp10 : p < 1024 := by rw [hp]; exact bset_small _ _ hH2
            have HPI : Hid (∀ y ∈ picks p, y < no) := fun y hy => by rw [hp, picks_bset _ no hH2, List.mem_filter, List.mem_range] at hy; exact hy.1
            clear hp
            go_enter Tryd.func7, Tryd.ntmps7
            go_wp2_with (first | (go_at_call 16; refine (inumok _ true HC1 _).mono ?_; rintro e w3 ⟨rfl, rfl⟩) | (go_at_call 17; refine (iwi _ 0 _ true HCF _).mono ?_; rintro e w3 ⟨rfl, rfl⟩) | (go_at_call 18; refine (isize _ _ _).mono ?_; rintro e w3 ⟨rfl, rfl⟩; rw [unhide HC2]) | (clear TOK; go_at_call 19; refine (irowsok o capo W _ _ hW2 hH2 O HNO (unhide HNOI) HSO true HCO _ ((unhide HRO).below (unhide B0))).mono ?_; rintro e w4 ⟨rfl, hb4⟩; have HB4 := hide ((unhide B0).trans (hb4.mono (unhide B0).size)); have HZ4 := hide ((unhide HZ0).below hb4); have kz4 := (unhide HZ4).S; have kf4 := (unhide HZ4).F; clear hb4) | (go_at_call 19; refine (irowsok a cap W _ _ hW2 hH2 R HN (unhide HNI) HS true HCR _ ((unhide HR).below (unhide HB4))).mono ?_; rintro e w5 ⟨rfl, hb5⟩; have HB5 := hide ((unhide HB4).trans (hb5.mono (unhide HB4).size)); have HZ5 := hide ((unhide HZ4).below hb5); have kz5 := (unhide HZ5).S; have kf5 := (unhide HZ5).F; clear hb5; clear kz4 kf4) | (go_at_call 21; refine (ichanged o capo a cap no hH2 O R HNO HN p HP _ ((unhide HRO).below (unhide HB5)) ((unhide HR).below (unhide HB5))).mono ?_; rintro e w6 ⟨rfl, hw6⟩; subst w6) | (go_at_call 20; refine (ipicked a cap no p hp10 R HN HPI _ ((unhide HR).below (unhide HB5)) ((unhide HTZ).below (unhide HB5) (unhide HTZ).pos)).mono ?_; rintro e w6 ⟨v6, rfl, ho6, hb6⟩; obtain ⟨a6, c6, rfl, -⟩ := ownZ_rowV ho6; have HB6 := hide ((unhide HB5).trans (hb6.mono (unhide HB5).size)); have HZ6 := hide ((unhide HZ5).below hb6); have kz6 := (unhide HZ6).S; have kf6 := (unhide HZ6).F; have z4 := (unhide HZ5).lt; have HO6 := hide (Go.Joins.ownsRow_le ho6 (Nat.succ_le_of_lt z4)); clear kz5 kf5 hb6 ho6))
            refine bodyPost_ret (v := .tuple #[.agg #[.int .i64 nb2, .int .i64 fr2, .bool false, .int .i64 (W : Int), .int .i64 (no : Int), .slice a6 (picks p).length c6], .int .i64 0]) (by simp [results, Tryd.results7, go_sem, kz6]) rfl ?_
            refine ⟨_, rfl, ?_, ?_⟩
            · rw [unhide HL2, pkL_len]
              refine Go.Joins.ownsRow_le (base := w.heap.size + 1) ?_ (by omega)
              repeat refine ownsRow_setCell_below ?_ (by exact Nat.lt_succ_self _) _
              exact unhide HO6
            · repeat refine Below.setCell ?_ (by exact Nat.le_refl _) _
              exact unhide HB6
end Go.Proofs.YtnbifggochgagaaDoor
