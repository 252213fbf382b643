/- DiffView: what the specification answers. -/
import Derived.Test.YtnbifggochgagaaDoorFvM
import Derived.Test.YtnbifggochgagaaDoorMrS
import Derived.Test.YtnbifggochgagaaDoorRwL
import Derived.Lib.Fold
namespace Go.Proofs.YtnbifggochgagaaDoor
open Go.ChangeShapes Go.WideShapes Go.ChangeAt Go.RowKit
set_option linter.unusedVariables false
theorem bytes_injS {a b : ByteArray} (h : a.toList = b.toList) : a = b := by
  have h2 : a.data.toList = b.data.toList := by rw [← Go.Lib.toList_data, ← Go.Lib.toList_data]; exact h
  apply ByteArray.ext
  exact Array.ext' h2
set_option maxHeartbeats 4000000 in
set_option maxRecDepth 100000 in
theorem sdiff11 (fr nb vw vh : Int) (o : Option Addr) (capo no : Nat) (O : List ByteArray) (HNO : Hid (O.length = no)) (hno : no ≤ 1048576) (HSO : Hid (∀ k (h : k < O.length), O[k].size ≤ 1048576)) (a : Option Addr) (cap n : Nat) (R : List ByteArray) (HN : Hid (R.length = n)) (hn : n ≤ 1048576) (HS : Hid (∀ k (h : k < R.length), R[k].size ≤ 1048576)) (nb2 fr2 w2 h2 : Int) (L : List Rw) (c : Int) (HI : Hid (DvIs fr nb vw vh O R nb2 fr2 w2 h2 L c)) (w : World) (hro : RowV w o (cS O)) (hr : RowV w a (cS R)) :
    Calls Tryd.prog 5 #[.int .i64 fr, .int .i64 nb, .int .i64 vw, .int .i64 vh, .slice o no capo, .slice a n cap] w fun e w' => ∃ v, e = .returned (.tuple #[.agg #[.int .i64 nb2, .int .i64 fr2, .bool false, .int .i64 w2, .int .i64 h2, v], .int .i64 c]) ∧ w'.ownsRow w.heap.size 38 2 v L.length (cE L) ∧ Below w.heap.size w w' := by
  have B0 := hide (Go.Joins.below_alloc1 w (.cells #[.int .i64 0, .int .i64 0, .bool false, .int .i64 0, .int .i64 0, .slice none 0 0] 26))
  have HZ0 := hide (BF.new w #[.int .i64 0, .int .i64 0, .bool false, .int .i64 0, .int .i64 0, .slice none 0 0] 26)
  have HR := hide hr
  have HRO := hide hro
  have HNI := hide hn
  have HNOI := hide hno
  clear hr hro hn hno
  have hC : c = dvC fr nb vw vh O R := (unhide HI).1
  by_cases hlongo : (4096 : Int) < (no : Int)
  · have hc : c = 2 := by rw [hC]; unfold dvC; rw [unhide HN, unhide HNO, if_pos (by omega)]
    obtain ⟨rfl, rfl, rfl, rfl, rfl⟩ := (unhide HI).2.2 (by rw [hc]; decide)
    subst hc
    clear hC HI
    go_enter Tryd.func5, Tryd.ntmps5
    go_wp2_with fail
    refine bodyPost_ret (v := .tuple #[.agg #[.int .i64 0, .int .i64 0, .bool false, .int .i64 0, .int .i64 0, .slice none 0 0], .int .i64 2]) (by simp [results, Tryd.results5, go_sem]) rfl ?_
    exact ⟨_, rfl, World.ownsRow_nil _ _ _ _, by (repeat refine Below.setCell ?_ (by exact Nat.le_refl _) _); exact unhide B0⟩
  by_cases hlong : (4096 : Int) < (n : Int)
  · have hc : c = 2 := by rw [hC]; unfold dvC; rw [unhide HN, unhide HNO, if_pos (by omega)]
    obtain ⟨rfl, rfl, rfl, rfl, rfl⟩ := (unhide HI).2.2 (by rw [hc]; decide)
    subst hc
    clear hC HI
    go_enter Tryd.func5, Tryd.ntmps5
    go_wp2_with fail
    refine bodyPost_ret (v := .tuple #[.agg #[.int .i64 0, .int .i64 0, .bool false, .int .i64 0, .int .i64 0, .slice none 0 0], .int .i64 2]) (by simp [results, Tryd.results5, go_sem]) rfl ?_
    exact ⟨_, rfl, World.ownsRow_nil _ _ _ _, by (repeat refine Below.setCell ?_ (by exact Nat.le_refl _) _); exact unhide B0⟩
  have hC2 : c = if inB nb 0 60 && (inB fr 0 (nb - 1) && sizeB vw vh) then (if rowsB vw.toNat vh.toNat O && rowsB vw.toNat vh.toNat R then 0 else 1) else 4 := by rw [hC]; unfold dvC; rw [unhide HN, unhide HNO, if_neg (by omega)]
  have hn4 : n ≤ 4096 := by omega
  have hno4 : no ≤ 4096 := by omega
  clear hC
  have TOK2 : True := trivial
  obtain ⟨cf, hcf⟩ : ∃ c, c = inB fr 0 60 := ⟨_, rfl⟩
  have HCF := hide hcf
  have hall : (inB nb 0 60 && (inB fr 0 (nb - 1) && sizeB vw vh)) = (inB fr 0 60 && (inB nb 0 60 && (decide (fr < nb) && sizeB vw vh))) := by
    cases sizeB vw vh
    · simp
    · rw [Bool.eq_iff_iff]; simp only [Bool.and_true, inB, Bool.and_eq_true, decide_eq_true_eq]; omega
  rw [hall, ← hcf] at hC2
  clear hall hcf
  cases cf with
  | false =>
    have hc : c = 4 := hC2
    obtain ⟨rfl, rfl, rfl, rfl, rfl⟩ := (unhide HI).2.2 (by rw [hc]; decide)
    subst hc
    clear HI
    clear hC2
    go_enter Tryd.func5, Tryd.ntmps5
    go_wp2_with (clear TOK2; go_at_call 13; refine (sin _ 0 60 _).mono ?_; rintro e w3 ⟨rfl, rfl⟩; rw [← unhide HCF])
    refine bodyPost_ret (v := .tuple #[.agg #[.int .i64 0, .int .i64 0, .bool false, .int .i64 0, .int .i64 0, .slice none 0 0], .int .i64 4]) (by simp [results, Tryd.results5, go_sem]) rfl ?_
    exact ⟨_, rfl, World.ownsRow_nil _ _ _ _, by (repeat refine Below.setCell ?_ (by exact Nat.le_refl _) _); exact unhide B0⟩
  | true =>
    obtain ⟨c1, hc1⟩ : ∃ c, c = inB nb 0 60 := ⟨_, rfl⟩
    have HC1 := hide hc1
    rw [← hc1] at hC2
    clear hc1
    cases c1 with
    | false =>
      have hc : c = 4 := hC2
      obtain ⟨rfl, rfl, rfl, rfl, rfl⟩ := (unhide HI).2.2 (by rw [hc]; decide)
      subst hc
      clear HI
      clear hC2
      go_enter Tryd.func5, Tryd.ntmps5
      go_wp2_with (first | (clear TOK2; go_at_call 13; refine (sin _ 0 60 _).mono ?_; rintro e w3 ⟨rfl, rfl⟩; rw [← unhide HCF]) | (go_at_call 13; refine (sin _ 0 60 _).mono ?_; rintro e w3 ⟨rfl, rfl⟩; rw [← unhide HC1]))
      refine bodyPost_ret (v := .tuple #[.agg #[.int .i64 0, .int .i64 0, .bool false, .int .i64 0, .int .i64 0, .slice none 0 0], .int .i64 4]) (by simp [results, Tryd.results5, go_sem]) rfl ?_
      exact ⟨_, rfl, World.ownsRow_nil _ _ _ _, by (repeat refine Below.setCell ?_ (by exact Nat.le_refl _) _); exact unhide B0⟩
    | true =>
     by_cases hlt0 : fr < nb
     rotate_left 1
     · have hle : nb ≤ fr := by omega
       have hc : c = 4 := by rw [hC2, decide_eq_false hlt0]; rfl
       obtain ⟨rfl, rfl, rfl, rfl, rfl⟩ := (unhide HI).2.2 (by rw [hc]; decide)
       subst hc
       clear HI hlt0 hC2
       go_enter Tryd.func5, Tryd.ntmps5
       go_wp2_with (first | (clear TOK2; go_at_call 13; refine (sin _ 0 60 _).mono ?_; rintro e w3 ⟨rfl, rfl⟩; rw [← unhide HCF]) | (go_at_call 13; refine (sin _ 0 60 _).mono ?_; rintro e w3 ⟨rfl, rfl⟩; rw [← unhide HC1]))
       refine bodyPost_ret (v := .tuple #[.agg #[.int .i64 0, .int .i64 0, .bool false, .int .i64 0, .int .i64 0, .slice none 0 0], .int .i64 4]) (by simp [results, Tryd.results5, go_sem]) rfl ?_
       exact ⟨_, rfl, World.ownsRow_nil _ _ _ _, by (repeat refine Below.setCell ?_ (by exact Nat.le_refl _) _); exact unhide B0⟩
     · have hle : ¬ nb ≤ fr := by omega
       rw [decide_eq_true hlt0] at hC2
       clear hlt0
       cases hc2 : sizeB vw vh with
       | false =>
         have hc : c = 4 := by rw [hC2, hc2]; rfl
         obtain ⟨rfl, rfl, rfl, rfl, rfl⟩ := (unhide HI).2.2 (by rw [hc]; decide)
         subst hc
         clear HI
         have HC2 := hide hc2
         clear hc2 hC2
         go_enter Tryd.func5, Tryd.ntmps5
         go_wp2_with (first | (clear TOK2; go_at_call 13; refine (sin _ 0 60 _).mono ?_; rintro e w3 ⟨rfl, rfl⟩; rw [← unhide HCF]) | (go_at_call 13; refine (sin _ 0 60 _).mono ?_; rintro e w3 ⟨rfl, rfl⟩; rw [← unhide HC1]) | (go_at_call 14; refine (ssize _ _ _).mono ?_; rintro e w3 ⟨rfl, rfl⟩; rw [unhide HC2]))
         refine bodyPost_ret (v := .tuple #[.agg #[.int .i64 0, .int .i64 0, .bool false, .int .i64 0, .int .i64 0, .slice none 0 0], .int .i64 4]) (by simp [results, Tryd.results5, go_sem]) rfl ?_
         exact ⟨_, rfl, World.ownsRow_nil _ _ _ _, by (repeat refine Below.setCell ?_ (by exact Nat.le_refl _) _); exact unhide B0⟩
       | true =>
         obtain ⟨W, H, rfl, rfl, hW1, hW2, hH1, hH2⟩ := sizeB_nat hc2
         have HC2 := hide hc2
         obtain ⟨co, hco⟩ : ∃ c, c = rowsB W H O := ⟨_, rfl⟩
         have HCO := hide hco
         obtain ⟨cr, hcr⟩ : ∃ c, c = rowsB W H R := ⟨_, rfl⟩
         have HCR := hide hcr
         have hC3 : c = if co && cr then 0 else 1 := by rw [hC2, hc2, hco, hcr]; simp
         have TOK : True := trivial
         clear hc2 hC2 hco hcr
         cases co with
         | false =>
           have hc : c = 1 := hC3
           obtain ⟨rfl, rfl, rfl, rfl, rfl⟩ := (unhide HI).2.2 (by rw [hc]; decide)
           subst hc
           clear HI
           clear hC3
           go_enter Tryd.func5, Tryd.ntmps5
           go_wp2_with (first | (clear TOK2; go_at_call 13; refine (sin _ 0 60 _).mono ?_; rintro e w3 ⟨rfl, rfl⟩; rw [← unhide HCF]) | (go_at_call 13; refine (sin _ 0 60 _).mono ?_; rintro e w3 ⟨rfl, rfl⟩; rw [← unhide HC1]) | (go_at_call 14; refine (ssize _ _ _).mono ?_; rintro e w3 ⟨rfl, rfl⟩; rw [unhide HC2]) | (clear TOK; go_at_call 15; refine (srows o capo W _ _ hW2 hH2 O HNO (unhide HNOI) HSO false HCO _ ((unhide HRO).below (unhide B0))).mono ?_; rintro e w4 ⟨rfl, hb4⟩; have HB4 := hide ((unhide B0).trans (hb4.mono (unhide B0).size)); have HZ4 := hide ((unhide HZ0).below hb4); have kz4 := (unhide HZ4).S; have kf4 := (unhide HZ4).F; clear hb4))
           refine bodyPost_ret (v := .tuple #[.agg #[.int .i64 0, .int .i64 0, .bool false, .int .i64 0, .int .i64 0, .slice none 0 0], .int .i64 1]) (by simp [results, Tryd.results5, go_sem, kz4]) rfl ?_
           exact ⟨_, rfl, World.ownsRow_nil _ _ _ _, by (repeat refine Below.setCell ?_ (by exact Nat.le_refl _) _); exact unhide HB4⟩
         | true =>
           cases cr with
           | false =>
             have hc : c = 1 := hC3
             obtain ⟨rfl, rfl, rfl, rfl, rfl⟩ := (unhide HI).2.2 (by rw [hc]; decide)
             subst hc
             clear HI
             clear hC3
             go_enter Tryd.func5, Tryd.ntmps5
             go_wp2_with (first | (clear TOK2; go_at_call 13; refine (sin _ 0 60 _).mono ?_; rintro e w3 ⟨rfl, rfl⟩; rw [← unhide HCF]) | (go_at_call 13; refine (sin _ 0 60 _).mono ?_; rintro e w3 ⟨rfl, rfl⟩; rw [← unhide HC1]) | (go_at_call 14; refine (ssize _ _ _).mono ?_; rintro e w3 ⟨rfl, rfl⟩; rw [unhide HC2]) | (clear TOK; go_at_call 15; refine (srows o capo W _ _ hW2 hH2 O HNO (unhide HNOI) HSO true HCO _ ((unhide HRO).below (unhide B0))).mono ?_; rintro e w4 ⟨rfl, hb4⟩; have HB4 := hide ((unhide B0).trans (hb4.mono (unhide B0).size)); have HZ4 := hide ((unhide HZ0).below hb4); have kz4 := (unhide HZ4).S; have kf4 := (unhide HZ4).F; clear hb4) | (go_at_call 15; refine (srows a cap W _ _ hW2 hH2 R HN (unhide HNI) HS false HCR _ ((unhide HR).below (unhide HB4))).mono ?_; rintro e w5 ⟨rfl, hb5⟩; have HB5 := hide ((unhide HB4).trans (hb5.mono (unhide HB4).size)); have HZ5 := hide ((unhide HZ4).below hb5); have kz5 := (unhide HZ5).S; have kf5 := (unhide HZ5).F; clear hb5; clear kz4 kf4))
             refine bodyPost_ret (v := .tuple #[.agg #[.int .i64 0, .int .i64 0, .bool false, .int .i64 0, .int .i64 0, .slice none 0 0], .int .i64 1]) (by simp [results, Tryd.results5, go_sem, kz5]) rfl ?_
             exact ⟨_, rfl, World.ownsRow_nil _ _ _ _, by (repeat refine Below.setCell ?_ (by exact Nat.le_refl _) _); exact unhide HB5⟩
           | true =>
             have hc : c = 0 := hC3
             obtain ⟨e1, e2, e3, e4, e5⟩ := (unhide HI).2.1 hc
             have HE5 := hide e5
             subst e1 e2 e3 e4 hc
             have hlen : ∀ X : List ByteArray, rowsB W H X = true → X.length = H := fun X h => by
               unfold rowsB at h
               rw [Bool.and_eq_true, decide_eq_true_eq] at h
               exact h.1
             obtain rfl : n = H := by rw [← unhide HN]; exact hlen R (unhide HCR).symm
             obtain rfl : no = n := by rw [← unhide HNO]; exact hlen O (unhide HCO).symm
             clear HI hC3 e5 hlen
             obtain ⟨i0, hi, hz0, hz1, hz2⟩ := info_parts Tryd.infL38
             go_enter Tryd.func5, Tryd.ntmps5
             go_wp2_with (first | (clear TOK2; go_at_call 13; refine (sin _ 0 60 _).mono ?_; rintro e w3 ⟨rfl, rfl⟩; rw [← unhide HCF]) | (go_at_call 13; refine (sin _ 0 60 _).mono ?_; rintro e w3 ⟨rfl, rfl⟩; rw [← unhide HC1]) | (go_at_call 14; refine (ssize _ _ _).mono ?_; rintro e w3 ⟨rfl, rfl⟩; rw [unhide HC2]) | (clear TOK; go_at_call 15; refine (srows o capo W _ _ hW2 hH2 O HNO (unhide HNOI) HSO true HCO _ ((unhide HRO).below (unhide B0))).mono ?_; rintro e w4 ⟨rfl, hb4⟩; have HB4 := hide ((unhide B0).trans (hb4.mono (unhide B0).size)); have HZ4 := hide ((unhide HZ0).below hb4); have kz4 := (unhide HZ4).S; have kf4 := (unhide HZ4).F; clear hb4) | (go_at_call 15; refine (srows a cap W _ _ hW2 hH2 R HN (unhide HNI) HS true HCR _ ((unhide HR).below (unhide HB4))).mono ?_; rintro e w5 ⟨rfl, hb5⟩; have HB5 := hide ((unhide HB4).trans (hb5.mono (unhide HB4).size)); have HZ5 := hide ((unhide HZ4).below hb5); have kz5 := (unhide HZ5).S; have kf5 := (unhide HZ5).F; clear hb5; clear kz4 kf4))
             have B0l := hide (((unhide HB5).alloc (unhide HB5).size (.cells #[] 38)).alloc (((unhide HB5).alloc (unhide HB5).size (.cells #[] 38)).size) (.cells #[.int .i64 nb2, .int .i64 fr2, .bool false, .int .i64 (W : Int), .int .i64 (no : Int), .slice (some ⟨w5.heap.size, 0, none⟩) 0 0] 26))
             have P0l := hide (BF.new (w5.alloc (.cells #[] 38)) #[.int .i64 nb2, .int .i64 fr2, .bool false, .int .i64 (W : Int), .int .i64 (no : Int), .slice (some ⟨w5.heap.size, 0, none⟩) 0 0] 26)
             rw [show (w5.alloc (.cells #[] 38)).heap.size = w5.heap.size + 1 from by simp] at P0l
             have Z0l := hide (((unhide HZ5).alloc (.cells #[] 38)).alloc (.cells #[.int .i64 nb2, .int .i64 fr2, .bool false, .int .i64 (W : Int), .int .i64 (no : Int), .slice (some ⟨w5.heap.size, 0, none⟩) 0 0] 26))
             have E0l : Hid (((w5.alloc (.cells #[] 38)).alloc (.cells #[.int .i64 nb2, .int .i64 fr2, .bool false, .int .i64 (W : Int), .int .i64 (no : Int), .slice (some ⟨w5.heap.size, 0, none⟩) 0 0] 26)).ownsRow w5.heap.size 38 2 (.slice (some ⟨w5.heap.size, 0, none⟩) 0 0) 0 (cE (pkL R ((List.range 0).filter (chB O R))))) := (lit_atE _ w5.heap.size w5.heap.size 38 rfl (Nat.le_refl _)).alloc _
             have LP : Hid (w.heap.size + 1 ≤ w5.heap.size) := (unhide HZ5).lt
             have HCLR := hide (cS_len R)
             have HCLO := hide (cS_len O)
             clear kz5 kf5
             go_loopw [15] (fun i wr => ∃ (k : Nat) (aV : Option Addr) (cV m : Nat), k ≤ no ∧ i = .int .i64 (k : Int) ∧ Hid (((List.range k).filter (chB O R)).length = m) ∧ Hid (Below w.heap.size w wr) ∧ Hid (BF (w5.heap.size + 1) #[.int .i64 nb2, .int .i64 fr2, .bool false, .int .i64 (W : Int), .int .i64 (no : Int), .slice aV m cV] wr) ∧ Hid (wr.ownsRow w5.heap.size 38 2 (.slice aV m cV) m (cE (pkL R ((List.range k).filter (chB O R))))) ∧ Hid (∀ j, (Value.slice aV m cV).ownBlock = some j → w5.heap.size ≤ j ∧ j ≠ (w5.heap.size + 1)) ∧ Hid (BF w.heap.size #[.int .i64 0, .int .i64 0, .bool false, .int .i64 0, .int .i64 0, .slice none 0 0] wr)) (fun i _ => no - (intOf i).toNat)
             case atStart => exact ⟨0, _, _, 0, by omega, rfl, rfl, B0l, P0l, E0l, fun j hj => by have e : w5.heap.size = j := Option.some.inj hj; omega, Z0l⟩
             case round =>
               clear B0l P0l E0l Z0l
               obtain ⟨k, aV, cV, m, hk, rfl, HM, HB, HP, HE, HF, HZ⟩ := hrel
               have hm10 : m ≤ 10 := by
                 rw [← unhide HM]
                 have := List.length_filter_le (chB O R) (List.range k)
                 rw [List.length_range] at this
                 omega
               by_cases hlt : k < no
               · have hlt' : (k : Int) < (no : Int) := by omega
                 have hkR : k < R.length := by rw [unhide HN]; exact hlt
                 have hkO : k < O.length := by rw [unhide HNO]; exact hlt
                 obtain ⟨b1, off, ha, hblt, hc⟩ := (unhide HR).at (by rw [unhide HCLR]; omega)
                 obtain ⟨b2, off2, ha2, hblt2, hc2⟩ := (unhide HRO).at (by rw [unhide HCLO]; omega)
                 subst ha ha2
                 obtain ⟨d, hd⟩ : ∃ d, d = R[k] := ⟨_, rfl⟩
                 obtain ⟨e, he⟩ : ∃ e, e = O[k] := ⟨_, rfl⟩
                 have HCS : Hid (w.cell? ⟨b1, off + k, none⟩ = some (.string d)) := by show _ = _; rw [hd]; exact hc k _ (cS_at R k hkR)
                 have HCS2 : Hid (w.cell? ⟨b2, off2 + k, none⟩ = some (.string e)) := by show _ = _; rw [he]; exact hc2 k _ (cS_at O k hkO)
                 have HGD : Hid (R.getD k ⟨#[]⟩ = d) := by show _ = _; rw [hd]; simp [hkR]
                 have HCH : Hid (chB O R k = decide (e ≠ d)) := by show _ = _; unfold chB; rw [unhide HGD, show O.getD k ⟨#[]⟩ = e from by rw [he]; simp [hkO]]
                 clear hc hc2 hd he hkR hkO
                 by_cases hed : e = d
                 · have HFK : Hid (((List.range (k + 1)).filter (chB O R)) = ((List.range k).filter (chB O R))) := by show _ = _; rw [List.range_succ, List.filter_append]; simp [show chB O R k = false from by rw [unhide HCH]; exact decide_eq_false (fun h => h hed)]
                   have HM2 : Hid (((List.range (k + 1)).filter (chB O R)).length = m) := by show _ = _; rw [unhide HFK]; exact unhide HM
                   have hne : (e.toList != d.toList) = false := by rw [hed]; simp
                   have hne2 : (e.toList == d.toList) = true := by rw [hed]; simp
                   clear HM hed
                   go_wp2_with fail
                   refine wp_region_held_drew (S := (fun w' => w'.cell? ⟨b1, off + k, none⟩ = some (.string d) ∧ w'.cell? ⟨b2, off2 + k, none⟩ = some (.string e))) (by kernel_rfl) ⟨((unhide HB).cell (p := ⟨b1, off + k, none⟩) hblt).trans (unhide HCS), ((unhide HB).cell (p := ⟨b2, off2 + k, none⟩) hblt2).trans (unhide HCS2)⟩ (fun hHeld => ?_)
                   have HBq := hide ((unhide HB).drew)
                   have HPq := hide ((unhide HP).drew)
                   have HEq : Hid (wr.drew.ownsRow w5.heap.size 38 2 (.slice aV m cV) m (cE (pkL R ((List.range k).filter (chB O R))))) := unhide HE
                   have HZq := hide ((unhide HZ).drew)
                   clear HB HP HE HZ
                   generalize wr.drew = w9 at HBq HPq HEq HZq hHeld ⊢
                   have HB := HBq
                   have HP := HPq
                   have HE := HEq
                   have HZ := HZq
                   clear HBq HPq HEq HZq
                   refine wpAnyH_take (i := 0) (oi := { dst := some 69, op := .move (.tmp 4), type := 22, pos := "l11_view.go:64", after := #[], guard := none }) (v := ?_) rfl (by kernel_rfl) (by kernel_rfl) (by kernel_rfl) (fun _ _ _ h => h) (Or.inl ⟨by rfl, ?_⟩) (by assumption) ?_
                   rotate_left 1
                   · (intro w' hSw; (try dsimp only at hSw); go_simp; try with_reducible rfl)
                   try simp only [Act.put, List.setIfInBounds_toArray, List.set_cons_zero, List.set_cons_succ]
                   refine wpAnyH_take (i := 1) (oi := { dst := some 70, op := .move (.tmp 15), type := 3, pos := "l11_view.go:64", after := #[], guard := none }) (v := ?_) rfl (by kernel_rfl) (by kernel_rfl) (by kernel_rfl) (fun _ _ _ h => h) (Or.inl ⟨by rfl, ?_⟩) (by assumption) ?_
                   rotate_left 1
                   · (intro w' hSw; (try dsimp only at hSw); go_simp; try with_reducible rfl)
                   try simp only [Act.put, List.setIfInBounds_toArray, List.set_cons_zero, List.set_cons_succ]
                   refine wpAnyH_take (i := 2) (oi := { dst := some 71, op := .indexAddr 22 (.tmp 69) (.tmp 70), type := 0, pos := "l11_view.go:64", after := #[{ on := 0, ground := .data }, { on := 1, ground := .data }], guard := none }) (v := ?_) rfl (by kernel_rfl) (by kernel_rfl) (by kernel_rfl) (fun _ _ _ h => h) (Or.inl ⟨by rfl, ?_⟩) (by assumption) ?_
                   rotate_left 1
                   · (intro w' hSw; (try dsimp only at hSw); go_simp; try with_reducible rfl)
                   try simp only [Act.put, List.setIfInBounds_toArray, List.set_cons_zero, List.set_cons_succ]
                   refine wpAnyH_take (i := 3) (oi := { dst := some 72, op := .load 9 (.tmp 71), type := 9, pos := "l11_view.go:64", after := #[{ on := 2, ground := .data }], guard := none }) (v := ?_) rfl (by kernel_rfl) (by kernel_rfl) (by kernel_rfl) (fun _ _ _ h => h) (Or.inl ⟨by rfl, ?_⟩) (by assumption) ?_
                   rotate_left 1
                   · (intro w' hSw; (try dsimp only at hSw); go_simp; try with_reducible rfl)
                   try simp only [Act.put, List.setIfInBounds_toArray, List.set_cons_zero, List.set_cons_succ]
                   refine wpAnyH_take (i := 4) (oi := { dst := some 73, op := .move (.tmp 5), type := 22, pos := "l11_view.go:64", after := #[], guard := none }) (v := ?_) rfl (by kernel_rfl) (by kernel_rfl) (by kernel_rfl) (fun _ _ _ h => h) (Or.inl ⟨by rfl, ?_⟩) (by assumption) ?_
                   rotate_left 1
                   · (intro w' hSw; (try dsimp only at hSw); go_simp; try with_reducible rfl)
                   try simp only [Act.put, List.setIfInBounds_toArray, List.set_cons_zero, List.set_cons_succ]
                   refine wpAnyH_take (i := 5) (oi := { dst := some 74, op := .move (.tmp 15), type := 3, pos := "l11_view.go:64", after := #[], guard := none }) (v := ?_) rfl (by kernel_rfl) (by kernel_rfl) (by kernel_rfl) (fun _ _ _ h => h) (Or.inl ⟨by rfl, ?_⟩) (by assumption) ?_
                   rotate_left 1
                   · (intro w' hSw; (try dsimp only at hSw); go_simp; try with_reducible rfl)
                   try simp only [Act.put, List.setIfInBounds_toArray, List.set_cons_zero, List.set_cons_succ]
                   refine wpAnyH_take (i := 6) (oi := { dst := some 75, op := .indexAddr 22 (.tmp 73) (.tmp 74), type := 0, pos := "l11_view.go:64", after := #[{ on := 4, ground := .data }, { on := 5, ground := .data }], guard := none }) (v := ?_) rfl (by kernel_rfl) (by kernel_rfl) (by kernel_rfl) (fun _ _ _ h => h) (Or.inl ⟨by rfl, ?_⟩) (by assumption) ?_
                   rotate_left 1
                   · (intro w' hSw; (try dsimp only at hSw); go_simp; try with_reducible rfl)
                   try simp only [Act.put, List.setIfInBounds_toArray, List.set_cons_zero, List.set_cons_succ]
                   refine wpAnyH_take (i := 7) (oi := { dst := some 76, op := .load 9 (.tmp 75), type := 9, pos := "l11_view.go:64", after := #[{ on := 6, ground := .data }], guard := none }) (v := ?_) rfl (by kernel_rfl) (by kernel_rfl) (by kernel_rfl) (fun _ _ _ h => h) (Or.inl ⟨by rfl, ?_⟩) (by assumption) ?_
                   rotate_left 1
                   · (intro w' hSw; (try dsimp only at hSw); go_simp; try with_reducible rfl)
                   try simp only [Act.put, List.setIfInBounds_toArray, List.set_cons_zero, List.set_cons_succ]
                   refine wpAnyH_take (i := 8) (oi := { dst := some 77, op := .binOp .neq 9 (.tmp 72) (.tmp 76) 9, type := 4, pos := "l11_view.go:64", after := #[{ on := 3, ground := .data }, { on := 7, ground := .data }], guard := none }) (v := ?_) rfl (by kernel_rfl) (by kernel_rfl) (by kernel_rfl) (fun _ _ _ h => h) (Or.inl ⟨by rfl, ?_⟩) (by assumption) ?_
                   rotate_left 1
                   · (intro w' hSw; (try dsimp only at hSw); go_simp; try with_reducible rfl)
                   try simp only [Act.put, List.setIfInBounds_toArray, List.set_cons_zero, List.set_cons_succ]
                   refine wpAnyH_done (by kernel_rfl) ?_ _
                   have HE2 : Hid (w9.ownsRow w5.heap.size 38 2 (.slice aV m cV) m (cE (pkL R ((List.range (k + 1)).filter (chB O R))))) := by show World.ownsRow _ _ _ _ _ _ _; rw [unhide HFK]; exact unhide HE
                   go_wp2_with fail
                   go_roundw
                   case rel => exact ⟨k + 1, _, _, m, by omega, by go_num, HM2, HB, HP, HE2, HF, HZ⟩
                   case measure => simp [intOf]; omega
                 · have HFK : Hid (((List.range (k + 1)).filter (chB O R)) = ((List.range k).filter (chB O R)) ++ [k]) := by show _ = _; rw [List.range_succ, List.filter_append]; simp [show chB O R k = true from by rw [unhide HCH]; exact decide_eq_true hed]
                   have HM2 : Hid (((List.range (k + 1)).filter (chB O R)).length = m + 1) := by show _ = _; rw [unhide HFK, List.length_append, unhide HM]; rfl
                   have HSN : Hid (cE (pkL R ((List.range (k + 1)).filter (chB O R))) = cE (pkL R ((List.range k).filter (chB O R))) ++ [.int .i64 (k : Int), .string d]) := by
                     show _ = _
                     rw [unhide HFK, pkL_snoc, cE_app, unhide HGD]; rfl
                   have hne : (e.toList != d.toList) = true := by
                     rw [bne_iff_ne]
                     intro h
                     exact hed (bytes_injS h)
                   have hne2 : (e.toList == d.toList) = false := by rw [beq_eq_false_iff_ne]; intro h; exact hed (bytes_injS h)
                   clear hed HM
                   go_wp2_with fail
                   refine wp_region_held_drew (S := (fun w' => w'.cell? ⟨b1, off + k, none⟩ = some (.string d) ∧ w'.cell? ⟨b2, off2 + k, none⟩ = some (.string e))) (by kernel_rfl) ⟨((unhide HB).cell (p := ⟨b1, off + k, none⟩) hblt).trans (unhide HCS), ((unhide HB).cell (p := ⟨b2, off2 + k, none⟩) hblt2).trans (unhide HCS2)⟩ (fun hHeld => ?_)
                   have HBq := hide ((unhide HB).drew)
                   have HPq := hide ((unhide HP).drew)
                   have HEq : Hid (wr.drew.ownsRow w5.heap.size 38 2 (.slice aV m cV) m (cE (pkL R ((List.range k).filter (chB O R))))) := unhide HE
                   have HZq := hide ((unhide HZ).drew)
                   clear HB HP HE HZ
                   generalize wr.drew = w9 at HBq HPq HEq HZq hHeld ⊢
                   have HB := HBq
                   have HP := HPq
                   have HE := HEq
                   have HZ := HZq
                   clear HBq HPq HEq HZq
                   refine wpAnyH_take (i := 0) (oi := { dst := some 69, op := .move (.tmp 4), type := 22, pos := "l11_view.go:64", after := #[], guard := none }) (v := ?_) rfl (by kernel_rfl) (by kernel_rfl) (by kernel_rfl) (fun _ _ _ h => h) (Or.inl ⟨by rfl, ?_⟩) (by assumption) ?_
                   rotate_left 1
                   · (intro w' hSw; (try dsimp only at hSw); go_simp; try with_reducible rfl)
                   try simp only [Act.put, List.setIfInBounds_toArray, List.set_cons_zero, List.set_cons_succ]
                   refine wpAnyH_take (i := 1) (oi := { dst := some 70, op := .move (.tmp 15), type := 3, pos := "l11_view.go:64", after := #[], guard := none }) (v := ?_) rfl (by kernel_rfl) (by kernel_rfl) (by kernel_rfl) (fun _ _ _ h => h) (Or.inl ⟨by rfl, ?_⟩) (by assumption) ?_
                   rotate_left 1
                   · (intro w' hSw; (try dsimp only at hSw); go_simp; try with_reducible rfl)
                   try simp only [Act.put, List.setIfInBounds_toArray, List.set_cons_zero, List.set_cons_succ]
                   refine wpAnyH_take (i := 2) (oi := { dst := some 71, op := .indexAddr 22 (.tmp 69) (.tmp 70), type := 0, pos := "l11_view.go:64", after := #[{ on := 0, ground := .data }, { on := 1, ground := .data }], guard := none }) (v := ?_) rfl (by kernel_rfl) (by kernel_rfl) (by kernel_rfl) (fun _ _ _ h => h) (Or.inl ⟨by rfl, ?_⟩) (by assumption) ?_
                   rotate_left 1
                   · (intro w' hSw; (try dsimp only at hSw); go_simp; try with_reducible rfl)
                   try simp only [Act.put, List.setIfInBounds_toArray, List.set_cons_zero, List.set_cons_succ]
                   refine wpAnyH_take (i := 3) (oi := { dst := some 72, op := .load 9 (.tmp 71), type := 9, pos := "l11_view.go:64", after := #[{ on := 2, ground := .data }], guard := none }) (v := ?_) rfl (by kernel_rfl) (by kernel_rfl) (by kernel_rfl) (fun _ _ _ h => h) (Or.inl ⟨by rfl, ?_⟩) (by assumption) ?_
                   rotate_left 1
                   · (intro w' hSw; (try dsimp only at hSw); go_simp; try with_reducible rfl)
                   try simp only [Act.put, List.setIfInBounds_toArray, List.set_cons_zero, List.set_cons_succ]
                   refine wpAnyH_take (i := 4) (oi := { dst := some 73, op := .move (.tmp 5), type := 22, pos := "l11_view.go:64", after := #[], guard := none }) (v := ?_) rfl (by kernel_rfl) (by kernel_rfl) (by kernel_rfl) (fun _ _ _ h => h) (Or.inl ⟨by rfl, ?_⟩) (by assumption) ?_
                   rotate_left 1
                   · (intro w' hSw; (try dsimp only at hSw); go_simp; try with_reducible rfl)
                   try simp only [Act.put, List.setIfInBounds_toArray, List.set_cons_zero, List.set_cons_succ]
                   refine wpAnyH_take (i := 5) (oi := { dst := some 74, op := .move (.tmp 15), type := 3, pos := "l11_view.go:64", after := #[], guard := none }) (v := ?_) rfl (by kernel_rfl) (by kernel_rfl) (by kernel_rfl) (fun _ _ _ h => h) (Or.inl ⟨by rfl, ?_⟩) (by assumption) ?_
                   rotate_left 1
                   · (intro w' hSw; (try dsimp only at hSw); go_simp; try with_reducible rfl)
                   try simp only [Act.put, List.setIfInBounds_toArray, List.set_cons_zero, List.set_cons_succ]
                   refine wpAnyH_take (i := 6) (oi := { dst := some 75, op := .indexAddr 22 (.tmp 73) (.tmp 74), type := 0, pos := "l11_view.go:64", after := #[{ on := 4, ground := .data }, { on := 5, ground := .data }], guard := none }) (v := ?_) rfl (by kernel_rfl) (by kernel_rfl) (by kernel_rfl) (fun _ _ _ h => h) (Or.inl ⟨by rfl, ?_⟩) (by assumption) ?_
                   rotate_left 1
                   · (intro w' hSw; (try dsimp only at hSw); go_simp; try with_reducible rfl)
                   try simp only [Act.put, List.setIfInBounds_toArray, List.set_cons_zero, List.set_cons_succ]
                   refine wpAnyH_take (i := 7) (oi := { dst := some 76, op := .load 9 (.tmp 75), type := 9, pos := "l11_view.go:64", after := #[{ on := 6, ground := .data }], guard := none }) (v := ?_) rfl (by kernel_rfl) (by kernel_rfl) (by kernel_rfl) (fun _ _ _ h => h) (Or.inl ⟨by rfl, ?_⟩) (by assumption) ?_
                   rotate_left 1
                   · (intro w' hSw; (try dsimp only at hSw); go_simp; try with_reducible rfl)
                   try simp only [Act.put, List.setIfInBounds_toArray, List.set_cons_zero, List.set_cons_succ]
                   refine wpAnyH_take (i := 8) (oi := { dst := some 77, op := .binOp .neq 9 (.tmp 72) (.tmp 76) 9, type := 4, pos := "l11_view.go:64", after := #[{ on := 3, ground := .data }, { on := 7, ground := .data }], guard := none }) (v := ?_) rfl (by kernel_rfl) (by kernel_rfl) (by kernel_rfl) (fun _ _ _ h => h) (Or.inl ⟨by rfl, ?_⟩) (by assumption) ?_
                   rotate_left 1
                   · (intro w' hSw; (try dsimp only at hSw); go_simp; try with_reducible rfl)
                   try simp only [Act.put, List.setIfInBounds_toArray, List.set_cons_zero, List.set_cons_succ]
                   refine wpAnyH_done (by kernel_rfl) ?_ _
                   go_wp2_with fail
                   refine wp_region_held_drew (S := (fun w' => w'.cell? ⟨b1, off + k, none⟩ = some (.string d))) (by kernel_rfl) (((unhide HB).cell (p := ⟨b1, off + k, none⟩) hblt).trans (unhide HCS)) (fun hHeld => ?_)
                   have B5 := hide ((unhide HB).drew)
                   have P5 := hide ((unhide HP).drew)
                   have E5 : Hid (w9.drew.ownsRow w5.heap.size 38 2 (.slice aV m cV) m (cE (pkL R ((List.range k).filter (chB O R))))) := unhide HE
                   have Z5 := hide ((unhide HZ).drew)
                   clear HB HP HE HZ
                   generalize w9.drew = w5q at B5 P5 E5 Z5 hHeld ⊢
                   refine wpAnyH_take (i := 0) (oi := { dst := some 78, op := .fieldAddr 26 (.tmp 14) 5, type := 0, pos := "l11_view.go:65", after := #[], guard := none }) (v := ?_) rfl (by kernel_rfl) (by kernel_rfl) (by kernel_rfl) (fun _ _ _ h => h) (Or.inl ⟨by rfl, ?_⟩) (by assumption) ?_
                   rotate_left 1
                   · (intro w' hSw; (try dsimp only at hSw); go_simp; try with_reducible rfl)
                   try simp only [Act.put, List.setIfInBounds_toArray, List.set_cons_zero, List.set_cons_succ]
                   refine wpAnyH_take (i := 2) (oi := { dst := some 80, op := .move (.tmp 15), type := 3, pos := "l11_view.go:65", after := #[], guard := none }) (v := ?_) rfl (by kernel_rfl) (by kernel_rfl) (by kernel_rfl) (fun _ _ _ h => h) (Or.inl ⟨by rfl, ?_⟩) (by assumption) ?_
                   rotate_left 1
                   · (intro w' hSw; (try dsimp only at hSw); go_simp; try with_reducible rfl)
                   try simp only [Act.put, List.setIfInBounds_toArray, List.set_cons_zero, List.set_cons_succ]
                   refine wpAnyH_take (i := 3) (oi := { dst := some 81, op := .move (.tmp 5), type := 22, pos := "l11_view.go:65", after := #[], guard := none }) (v := ?_) rfl (by kernel_rfl) (by kernel_rfl) (by kernel_rfl) (fun _ _ _ h => h) (Or.inl ⟨by rfl, ?_⟩) (by assumption) ?_
                   rotate_left 1
                   · (intro w' hSw; (try dsimp only at hSw); go_simp; try with_reducible rfl)
                   try simp only [Act.put, List.setIfInBounds_toArray, List.set_cons_zero, List.set_cons_succ]
                   refine wpAnyH_take (i := 4) (oi := { dst := some 82, op := .move (.tmp 15), type := 3, pos := "l11_view.go:65", after := #[], guard := none }) (v := ?_) rfl (by kernel_rfl) (by kernel_rfl) (by kernel_rfl) (fun _ _ _ h => h) (Or.inl ⟨by rfl, ?_⟩) (by assumption) ?_
                   rotate_left 1
                   · (intro w' hSw; (try dsimp only at hSw); go_simp; try with_reducible rfl)
                   try simp only [Act.put, List.setIfInBounds_toArray, List.set_cons_zero, List.set_cons_succ]
                   refine wpAnyH_take (i := 5) (oi := { dst := some 83, op := .indexAddr 22 (.tmp 81) (.tmp 82), type := 0, pos := "l11_view.go:65", after := #[{ on := 3, ground := .data }, { on := 4, ground := .data }], guard := none }) (v := ?_) rfl (by kernel_rfl) (by kernel_rfl) (by kernel_rfl) (fun _ _ _ h => h) (Or.inl ⟨by rfl, ?_⟩) (by assumption) ?_
                   rotate_left 1
                   · (intro w' hSw; (try dsimp only at hSw); go_simp; try with_reducible rfl)
                   try simp only [Act.put, List.setIfInBounds_toArray, List.set_cons_zero, List.set_cons_succ]
                   refine wpAnyH_take (i := 6) (oi := { dst := some 84, op := .load 9 (.tmp 83), type := 9, pos := "l11_view.go:65", after := #[{ on := 5, ground := .data }], guard := none }) (v := ?_) rfl (by kernel_rfl) (by kernel_rfl) (by kernel_rfl) (fun _ _ _ h => h) (Or.inl ⟨by rfl, ?_⟩) (by assumption) ?_
                   rotate_left 1
                   · (intro w' hSw; (try dsimp only at hSw); go_simp; try with_reducible rfl)
                   try simp only [Act.put, List.setIfInBounds_toArray, List.set_cons_zero, List.set_cons_succ]
                   refine wpAnyH_take (i := 7) (oi := { dst := some 85, op := .build 38 #[(0, .tmp 80), (1, .tmp 84)], type := 38, pos := "l11_view.go:65", after := #[{ on := 2, ground := .data }, { on := 6, ground := .data }], guard := none }) (v := ?_) rfl (by kernel_rfl) (by kernel_rfl) (by kernel_rfl) (fun _ _ _ h => h) (Or.inl ⟨by rfl, ?_⟩) (by assumption) ?_
                   rotate_left 1
                   · (intro w' hSw; (try dsimp only at hSw); go_simp; try with_reducible rfl)
                   try simp only [Act.put, List.setIfInBounds_toArray, List.set_cons_zero, List.set_cons_succ]
                   refine wpAnyH_ready (rs := [1, 8]) (by kernel_rfl) (by simp) ?_
                   refine AllReadyH.cons (o := { dst := some 79, op := .load 24 (.tmp 78), type := 24, pos := "l11_view.go:65", after := #[{ on := 0, ground := .data }], guard := none }) rfl (fun K hK => ?_) (AllReadyH.cons (o := { dst := some 86, op := .buildSlice 24 1 #[(0, .tmp 85)], type := 24, pos := "l11_view.go:65", after := #[{ on := 7, ground := .data }], guard := none }) rfl (fun K hK => ?_) AllReadyH.nil)
                   · skip
                     have kp := (unhide P5).S
                     go_simp
                     refine hK.out _ _ ?_ (fun hHeldL => ?_)
                     · exact ((unhide B5).cell (p := ⟨b1, off + k, none⟩) hblt).trans (unhide HCS)
                     clear hK K kp
                     try simp only [Act.put, List.setIfInBounds_toArray, List.set_cons_zero, List.set_cons_succ]
                     refine wpAnyH_ready (rs := [8]) (by kernel_rfl) (by simp) ?_
                     refine AllReadyH.cons (o := { dst := some 86, op := .buildSlice 24 1 #[(0, .tmp 85)], type := 24, pos := "l11_view.go:65", after := #[{ on := 7, ground := .data }], guard := none }) rfl (fun K hK => ?_) AllReadyH.nil
                     obtain ⟨G, hG⟩ : ∃ G, G = w5q.heap.size := ⟨_, rfl⟩
                     have hb6 : Below w5q.heap.size w5q (w5q.alloc (.cells #[.int .i64 (k : Int), .string d] 38)) := Go.Joins.below_alloc1 w5q (.cells #[.int .i64 (k : Int), .string d] 38)
                     have R6 := hide (BF.new w5q #[.int .i64 (k : Int), .string d] 38)
                     have P6 := hide ((unhide P5).below hb6)
                     have B6 := hide ((unhide B5).trans (hb6.mono (unhide B5).size))
                     have E6 := hide (((heldZ_of (unhide E5)).below hb6 (Nat.le_refl _)).own)
                     have Z6 := hide ((unhide Z5).below hb6)
                     have z6 : Hid ((w5.heap.size + 1) < (w5q.alloc (.cells #[.int .i64 (k : Int), .string d] 38)).heap.size) := (unhide P6).lt
                     rw [← hG] at R6
                     go_simp
                     refine hK.out _ _ ?_ (fun hHeldB => ?_)
                     · exact ((unhide B6).cell (p := ⟨b1, off + k, none⟩) hblt).trans (unhide HCS)
                     clear hK K
                     try simp only [Act.put, List.setIfInBounds_toArray, List.set_cons_zero, List.set_cons_succ]
                     rw [← hG]
                     clear hb6 hG
                     generalize w5q.alloc (.cells #[.int .i64 (k : Int), .string d] 38) = w6 at R6 P6 B6 E6 Z6 z6 hHeldB ⊢
                     refine wpAnyH_ready (rs := [9]) (by kernel_rfl) (by simp) ?_
                     refine AllReadyH.cons (o := { dst := some 87, op := .call { callee := .builtin Go.Builtin.append, args := #[.tmp 79, .tmp 86], argTypes := #[24, 24] }, type := 24, pos := "l11_view.go:65", after := #[{ on := 1, ground := .data }, { on := 8, ground := .data }], guard := none }) rfl (fun K hK => ?_) AllReadyH.nil
                     refine step_append_lies w6 rfl (.tmp 79) (.tmp 86) 24 rfl w5.heap.size 38 i0 (.agg #[.int .i64 0, .string ⟨#[]⟩]) 2 24 Tryd.underlying24 hi hz0 hz1 hz2 rfl (by decide) (.slice aV m cV) m (cE (pkL R ((List.range k).filter (chB O R)))) rfl (unhide E6) ⟨G, 0, none⟩ 1 1 [.int .i64 (k : Int), .string d] rfl rfl (by intro j u hj; have e := (unhide R6).S j; rw [show (⟨G, 0, none⟩ : Addr).add j = ⟨G, j, none⟩ from (by unfold Addr.add; split <;> simp_all)]; rw [e]; simpa using hj) (by intro u hu; simp at hu; rcases hu with rfl | rfl <;> rfl) (by decide) (by unfold maxLen; omega) (by omega) (by have := unhide z6; have := unhide LP; omega) _ rfl ?_
                     intro g7 c7 w7 ho7 hg7 hat7 hlt7
                     have P7 := hide ((unhide P6).grown hg7 (fun h => (unhide HF _ h).2 rfl))
                     have B7 := hide ((unhide B6).grown hg7 (unhide B6).size (fun j hj => by have := (unhide HF j hj).1; have := unhide LP; omega))
                     have Z7 := hide ((unhide Z6).grown hg7 (fun h => by have := (unhide HF _ h).1; have := unhide LP; omega))
                     have F7 : Hid (w5.heap.size ≤ g7 ∧ g7 ≠ (w5.heap.size + 1)) := by
                       show _ ∧ _
                       rcases hat7 with h | h
                       · exact unhide HF _ h
                       · have := unhide z6; have := unhide LP; omega
                     have E7 : Hid (w7.ownsRow w5.heap.size 38 2 (.slice (some ⟨g7, 0, none⟩) (m + 1) c7) (m + 1) (cE (pkL R ((List.range (k + 1)).filter (chB O R))))) := by show World.ownsRow _ _ _ _ _ _ _; rw [unhide HSN]; exact ho7
                     clear ho7 hg7 hat7 hlt7 P6 B6 E6 Z6 R6 z6
                     refine hK.out _ _ ?_ (fun hHeld9 => ?_)
                     · exact ((unhide B7).cell (p := ⟨b1, off + k, none⟩) hblt).trans (unhide HCS)
                     clear hK K
                     try simp only [Act.put, List.setIfInBounds_toArray, List.set_cons_zero, List.set_cons_succ]
                     refine wpAnyH_take (i := 10) (oi := { dst := some 88, op := .fieldAddr 26 (.tmp 14) 5, type := 0, pos := "l11_view.go:65", after := #[{ on := 0, ground := .phase }, { on := 1, ground := .phase }, { on := 2, ground := .phase }, { on := 3, ground := .phase }, { on := 4, ground := .phase }, { on := 5, ground := .phase }, { on := 6, ground := .phase }, { on := 7, ground := .phase }, { on := 8, ground := .phase }, { on := 9, ground := .phase }], guard := none }) (v := ?_) rfl (by kernel_rfl) (by kernel_rfl) (by kernel_rfl) (fun _ _ _ h => h) (Or.inl ⟨by rfl, ?_⟩) (by assumption) ?_
                     rotate_left 1
                     · (intro w' hSw; (try dsimp only at hSw); go_simp; try with_reducible rfl)
                     try simp only [Act.put, List.setIfInBounds_toArray, List.set_cons_zero, List.set_cons_succ]
                     refine wpAnyH_ready (rs := [11]) (by kernel_rfl) (by simp) ?_
                     refine AllReadyH.cons (o := { dst := none, op := .store 24 (.tmp 88) (.tmp 87), type := 0, pos := "l11_view.go:65", after := #[{ on := 10, ground := .data }, { on := 9, ground := .data }, { on := 9, ground := .chain }, { on := 0, ground := .phase }, { on := 1, ground := .phase }, { on := 2, ground := .phase }, { on := 3, ground := .phase }, { on := 4, ground := .phase }, { on := 5, ground := .phase }, { on := 6, ground := .phase }, { on := 7, ground := .phase }, { on := 8, ground := .phase }, { on := 9, ground := .phase }], guard := none }) rfl (fun K hK => ?_) AllReadyH.nil
                     have kp := (unhide P7).S
                     have kpf := (unhide P7).F
                     obtain ⟨w8, hw8⟩ : ∃ w8, w8 = w7.setCell ⟨(w5.heap.size + 1), 5, none⟩ (.slice (some ⟨g7, 0, none⟩) (m + 1) c7) := ⟨_, rfl⟩
                     have P8 : Hid (BF (w5.heap.size + 1) #[.int .i64 nb2, .int .i64 fr2, .bool false, .int .i64 (W : Int), .int .i64 (no : Int), .slice (some ⟨g7, 0, none⟩) (m + 1) c7] w8) := by rw [hw8]; exact (unhide P7).set 5 (by simp) _
                     have B8 : Hid (Below w.heap.size w w8) := by rw [hw8]; exact (unhide B7).setCell (p := ⟨(w5.heap.size + 1), 5, none⟩) (by show w.heap.size ≤ (w5.heap.size + 1); have := unhide LP; omega) _
                     have E8 : Hid (w8.ownsRow w5.heap.size 38 2 (.slice (some ⟨g7, 0, none⟩) (m + 1) c7) (m + 1) (cE (pkL R ((List.range (k + 1)).filter (chB O R))))) := by rw [hw8]; exact own_keepBR (unhide E7) (Below.heap_setCell _ _ _ _ (unhide F7).2)
                     have Z8 : Hid (BF w.heap.size #[.int .i64 0, .int .i64 0, .bool false, .int .i64 0, .int .i64 0, .slice none 0 0] w8) := by rw [hw8]; exact (unhide Z7).far _ _ (by show (w5.heap.size + 1) ≠ w.heap.size; have := unhide LP; omega)
                     have F8 : Hid (∀ j, (Value.slice (some ⟨g7, 0, none⟩) (m + 1) c7).ownBlock = some j → w5.heap.size ≤ j ∧ j ≠ (w5.heap.size + 1)) := fun j hj => by have e : g7 = j := Option.some.inj hj; subst e; exact unhide F7
                     go_simp
                     rw [← hw8]
                     refine hK.out _ _ ?_ (fun hHeld11 => ?_)
                     · exact ((unhide B8).cell (p := ⟨b1, off + k, none⟩) hblt).trans (unhide HCS)
                     clear hK K
                     try simp only [Act.put, List.setIfInBounds_toArray, List.set_cons_zero, List.set_cons_succ]
                     refine wpAnyH_done (by kernel_rfl) ?_ _
                     clear kp kpf hw8 P7 B7 E7 F7 Z7
                     go_wp2_with fail
                     go_roundw
                     case rel => exact ⟨k + 1, _, _, m + 1, by omega, by go_num, HM2, B8, P8, E8, F8, Z8⟩
                     case measure => simp [intOf]; omega
                   · skip
                     obtain ⟨G, hG⟩ : ∃ G, G = w5q.heap.size := ⟨_, rfl⟩
                     have hb6 : Below w5q.heap.size w5q (w5q.alloc (.cells #[.int .i64 (k : Int), .string d] 38)) := Go.Joins.below_alloc1 w5q (.cells #[.int .i64 (k : Int), .string d] 38)
                     have R6 := hide (BF.new w5q #[.int .i64 (k : Int), .string d] 38)
                     have P6 := hide ((unhide P5).below hb6)
                     have B6 := hide ((unhide B5).trans (hb6.mono (unhide B5).size))
                     have E6 := hide (((heldZ_of (unhide E5)).below hb6 (Nat.le_refl _)).own)
                     have Z6 := hide ((unhide Z5).below hb6)
                     have z6 : Hid ((w5.heap.size + 1) < (w5q.alloc (.cells #[.int .i64 (k : Int), .string d] 38)).heap.size) := (unhide P6).lt
                     rw [← hG] at R6
                     go_simp
                     refine hK.out _ _ ?_ (fun hHeldB => ?_)
                     · exact ((unhide B6).cell (p := ⟨b1, off + k, none⟩) hblt).trans (unhide HCS)
                     clear hK K
                     try simp only [Act.put, List.setIfInBounds_toArray, List.set_cons_zero, List.set_cons_succ]
                     rw [← hG]
                     clear hb6 hG
                     generalize w5q.alloc (.cells #[.int .i64 (k : Int), .string d] 38) = w6 at R6 P6 B6 E6 Z6 z6 hHeldB ⊢
                     refine wpAnyH_ready (rs := [1]) (by kernel_rfl) (by simp) ?_
                     refine AllReadyH.cons (o := { dst := some 79, op := .load 24 (.tmp 78), type := 24, pos := "l11_view.go:65", after := #[{ on := 0, ground := .data }], guard := none }) rfl (fun K hK => ?_) AllReadyH.nil
                     have kp := (unhide P6).S
                     go_simp
                     refine hK.out _ _ ?_ (fun hHeldL => ?_)
                     · exact ((unhide B6).cell (p := ⟨b1, off + k, none⟩) hblt).trans (unhide HCS)
                     clear hK K kp
                     try simp only [Act.put, List.setIfInBounds_toArray, List.set_cons_zero, List.set_cons_succ]
                     refine wpAnyH_ready (rs := [9]) (by kernel_rfl) (by simp) ?_
                     refine AllReadyH.cons (o := { dst := some 87, op := .call { callee := .builtin Go.Builtin.append, args := #[.tmp 79, .tmp 86], argTypes := #[24, 24] }, type := 24, pos := "l11_view.go:65", after := #[{ on := 1, ground := .data }, { on := 8, ground := .data }], guard := none }) rfl (fun K hK => ?_) AllReadyH.nil
                     refine step_append_lies w6 rfl (.tmp 79) (.tmp 86) 24 rfl w5.heap.size 38 i0 (.agg #[.int .i64 0, .string ⟨#[]⟩]) 2 24 Tryd.underlying24 hi hz0 hz1 hz2 rfl (by decide) (.slice aV m cV) m (cE (pkL R ((List.range k).filter (chB O R)))) rfl (unhide E6) ⟨G, 0, none⟩ 1 1 [.int .i64 (k : Int), .string d] rfl rfl (by intro j u hj; have e := (unhide R6).S j; rw [show (⟨G, 0, none⟩ : Addr).add j = ⟨G, j, none⟩ from (by unfold Addr.add; split <;> simp_all)]; rw [e]; simpa using hj) (by intro u hu; simp at hu; rcases hu with rfl | rfl <;> rfl) (by decide) (by unfold maxLen; omega) (by omega) (by have := unhide z6; have := unhide LP; omega) _ rfl ?_
                     intro g7 c7 w7 ho7 hg7 hat7 hlt7
                     have P7 := hide ((unhide P6).grown hg7 (fun h => (unhide HF _ h).2 rfl))
                     have B7 := hide ((unhide B6).grown hg7 (unhide B6).size (fun j hj => by have := (unhide HF j hj).1; have := unhide LP; omega))
                     have Z7 := hide ((unhide Z6).grown hg7 (fun h => by have := (unhide HF _ h).1; have := unhide LP; omega))
                     have F7 : Hid (w5.heap.size ≤ g7 ∧ g7 ≠ (w5.heap.size + 1)) := by
                       show _ ∧ _
                       rcases hat7 with h | h
                       · exact unhide HF _ h
                       · have := unhide z6; have := unhide LP; omega
                     have E7 : Hid (w7.ownsRow w5.heap.size 38 2 (.slice (some ⟨g7, 0, none⟩) (m + 1) c7) (m + 1) (cE (pkL R ((List.range (k + 1)).filter (chB O R))))) := by show World.ownsRow _ _ _ _ _ _ _; rw [unhide HSN]; exact ho7
                     clear ho7 hg7 hat7 hlt7 P6 B6 E6 Z6 R6 z6
                     refine hK.out _ _ ?_ (fun hHeld9 => ?_)
                     · exact ((unhide B7).cell (p := ⟨b1, off + k, none⟩) hblt).trans (unhide HCS)
                     clear hK K
                     try simp only [Act.put, List.setIfInBounds_toArray, List.set_cons_zero, List.set_cons_succ]
                     refine wpAnyH_take (i := 10) (oi := { dst := some 88, op := .fieldAddr 26 (.tmp 14) 5, type := 0, pos := "l11_view.go:65", after := #[{ on := 0, ground := .phase }, { on := 1, ground := .phase }, { on := 2, ground := .phase }, { on := 3, ground := .phase }, { on := 4, ground := .phase }, { on := 5, ground := .phase }, { on := 6, ground := .phase }, { on := 7, ground := .phase }, { on := 8, ground := .phase }, { on := 9, ground := .phase }], guard := none }) (v := ?_) rfl (by kernel_rfl) (by kernel_rfl) (by kernel_rfl) (fun _ _ _ h => h) (Or.inl ⟨by rfl, ?_⟩) (by assumption) ?_
                     rotate_left 1
                     · (intro w' hSw; (try dsimp only at hSw); go_simp; try with_reducible rfl)
                     try simp only [Act.put, List.setIfInBounds_toArray, List.set_cons_zero, List.set_cons_succ]
                     refine wpAnyH_ready (rs := [11]) (by kernel_rfl) (by simp) ?_
                     refine AllReadyH.cons (o := { dst := none, op := .store 24 (.tmp 88) (.tmp 87), type := 0, pos := "l11_view.go:65", after := #[{ on := 10, ground := .data }, { on := 9, ground := .data }, { on := 9, ground := .chain }, { on := 0, ground := .phase }, { on := 1, ground := .phase }, { on := 2, ground := .phase }, { on := 3, ground := .phase }, { on := 4, ground := .phase }, { on := 5, ground := .phase }, { on := 6, ground := .phase }, { on := 7, ground := .phase }, { on := 8, ground := .phase }, { on := 9, ground := .phase }], guard := none }) rfl (fun K hK => ?_) AllReadyH.nil
                     have kp := (unhide P7).S
                     have kpf := (unhide P7).F
                     obtain ⟨w8, hw8⟩ : ∃ w8, w8 = w7.setCell ⟨(w5.heap.size + 1), 5, none⟩ (.slice (some ⟨g7, 0, none⟩) (m + 1) c7) := ⟨_, rfl⟩
                     have P8 : Hid (BF (w5.heap.size + 1) #[.int .i64 nb2, .int .i64 fr2, .bool false, .int .i64 (W : Int), .int .i64 (no : Int), .slice (some ⟨g7, 0, none⟩) (m + 1) c7] w8) := by rw [hw8]; exact (unhide P7).set 5 (by simp) _
                     have B8 : Hid (Below w.heap.size w w8) := by rw [hw8]; exact (unhide B7).setCell (p := ⟨(w5.heap.size + 1), 5, none⟩) (by show w.heap.size ≤ (w5.heap.size + 1); have := unhide LP; omega) _
                     have E8 : Hid (w8.ownsRow w5.heap.size 38 2 (.slice (some ⟨g7, 0, none⟩) (m + 1) c7) (m + 1) (cE (pkL R ((List.range (k + 1)).filter (chB O R))))) := by rw [hw8]; exact own_keepBR (unhide E7) (Below.heap_setCell _ _ _ _ (unhide F7).2)
                     have Z8 : Hid (BF w.heap.size #[.int .i64 0, .int .i64 0, .bool false, .int .i64 0, .int .i64 0, .slice none 0 0] w8) := by rw [hw8]; exact (unhide Z7).far _ _ (by show (w5.heap.size + 1) ≠ w.heap.size; have := unhide LP; omega)
                     have F8 : Hid (∀ j, (Value.slice (some ⟨g7, 0, none⟩) (m + 1) c7).ownBlock = some j → w5.heap.size ≤ j ∧ j ≠ (w5.heap.size + 1)) := fun j hj => by have e : g7 = j := Option.some.inj hj; subst e; exact unhide F7
                     go_simp
                     rw [← hw8]
                     refine hK.out _ _ ?_ (fun hHeld11 => ?_)
                     · exact ((unhide B8).cell (p := ⟨b1, off + k, none⟩) hblt).trans (unhide HCS)
                     clear hK K
                     try simp only [Act.put, List.setIfInBounds_toArray, List.set_cons_zero, List.set_cons_succ]
                     refine wpAnyH_done (by kernel_rfl) ?_ _
                     clear kp kpf hw8 P7 B7 E7 F7 Z7
                     go_wp2_with fail
                     go_roundw
                     case rel => exact ⟨k + 1, _, _, m + 1, by omega, by go_num, HM2, B8, P8, E8, F8, Z8⟩
                     case measure => simp [intOf]; omega
               · obtain rfl : k = no := by omega
                 have kp := (unhide HP).S
                 have kz := (unhide HZ).S
                 have kf := (unhide HZ).F
                 have HL2 : Hid (L = pkL R ((List.range k).filter (chB O R))) := by show _ = _; rw [unhide HE5]; simp
                 have hmL : L.length = m := by rw [unhide HL2, pkL_len]; exact unhide HM
                 have HML := hide hmL
                 clear hmL
                 go_wp2_with fail
                 refine bodyPost_ret (v := .tuple #[.agg #[.int .i64 nb2, .int .i64 fr2, .bool false, .int .i64 (W : Int), .int .i64 (k : Int), .slice aV m cV], .int .i64 0]) (by simp [results, Tryd.results5, go_sem, kz]) rfl ?_
                 refine ⟨_, rfl, ?_, ?_⟩
                 · rw [unhide HML, unhide HL2]
                   refine Go.Joins.ownsRow_le (base := w5.heap.size) ?_ (by have := unhide LP; omega)
                   repeat refine ownsRow_setCell_below ?_ (by exact unhide LP) _
                   exact unhide HE
                 · repeat refine Below.setCell ?_ (by exact Nat.le_refl _) _
                   exact unhide HB
end Go.Proofs.YtnbifggochgagaaDoor
