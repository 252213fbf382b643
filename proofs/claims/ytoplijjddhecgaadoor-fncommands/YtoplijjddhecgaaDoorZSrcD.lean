/- A source's draw of a command. -/
import Derived.Test.YtoplijjddhecgaaDoorZSrcC
import Derived.Test.YtoplijjddhecgaaDoorZG2
import Derived.Test.YtoplijjddhecgaaDoorZG20
namespace Go.Proofs.YtoplijjddhecgaaDoor
open Go.ChangeShapes Go.WideShapes Go.ChangeAt Go.RowKit
set_option linter.unusedVariables false
set_option linter.unusedSimpArgs false
theorem snextI (n : Nat) (g : Nat) (a : Option Addr) (cap : Nat) (l : List UInt8) (p s : Nat) (hn : 2 ≤ n) (hn2 : n ≤ 256) (hl : l.length ≤ 1048600) (hp : p ≤ 2000000) (hs : s < 2147483648) (w : World) (h : SrcAt w g a cap l p s) (hr : Row8 w a l) (hg : ApartOf a l g) :
    Calls Tryd.prog 25 #[.pointer (some ⟨g, 0, none⟩), .int .i64 (n : Int)] w fun e w' => ∃ (x : Int) (s' : Nat), e = .returned (.int .i64 x) ∧ (0 ≤ x ∧ x < n) ∧ s' < 2147483648 ∧ SrcAt w' g a cap l (p + 1) s' ∧ w.grownBy w' (some g) := by
  refine (snext n g a cap l p s hn hn2 hl hp hs w h hr hg).mono ?_
  rintro e w' ⟨x, s', rfl, hx, h1, h2, h3⟩
  exact ⟨x, s', rfl, ⟨by omega, by omega⟩, h1, h2, h3⟩
theorem grown_set {w c : World} {g B : Nat} (h : w.grownBy c (some g)) (hB : w.heap.size ≤ B) (o : Nat) (v : Value) : w.grownBy (c.setCell ⟨B, o, none⟩ v) (some g) :=
  ⟨h.os, h.tape, h.output, by rw [World.size_setCell]; exact h.size, fun k hk hne => (Below.heap_setCell _ _ _ k (by show k ≠ B; omega)).trans (h.block k hk hne)⟩
theorem texts_wn {m : List ByteArray} (h : (m.all fun b => wnB b) = true) (k : Nat) (hk : k < m.length) : wnB m[k] = true := List.all_eq_true.1 h m[k] (List.getElem_mem hk)
set_option maxHeartbeats 8000000 in
set_option maxRecDepth 100000 in
theorem scommand (cl sq : Int) (hcl : inB cl 0 200 = true) (hsq : inB sq 1 60000 = true) (g : Nat) (a : Option Addr) (cap : Nat) (l : List UInt8) (p s : Nat) (hl : l.length ≤ 1048600) (hp : p ≤ 900000) (hs : s < 2147483648) (w : World) (h : SrcAt w g a cap l p s) (hr : Row8 w a l) (hg : ApartOf a l g) :
    Calls Tryd.prog 12 #[.pointer (some ⟨g, 0, none⟩), .int .i64 cl, .int .i64 sq] w fun e w' => ∃ (k pn n ep : Int) (r : Bool) (nm dt : ByteArray) (p' s' : Nat), e = .returned (.agg #[.int .i64 k, .int .i64 cl, .int .i64 sq, .int .i64 pn, .int .i64 n, .int .i64 ep, .bool r, .string nm, .string dt]) ∧ cmdB k cl sq pn n ep r nm dt = true ∧ p' ≤ p + 20 ∧ s' < 2147483648 ∧ SrcAt w' g a cap l p' s' ∧ w.grownBy w' (some g) := by
  have hgw : g < w.heap.size := ArrAt.lt h
  have HR := hide hr
  have HGN := hide hg
  have HCL := hide hcl
  have HSQ := hide hsq
  have hG0 := grown_alloc w (.cells #[.int .i64 0, .int .i64 0, .int .i64 0, .int .i64 0, .int .i64 0, .int .i64 0, .bool false, .string ⟨#[]⟩, .string ⟨#[]⟩] 24) (some g)
  have Z0 := hide (BF.new w #[.int .i64 0, .int .i64 0, .int .i64 0, .int .i64 0, .int .i64 0, .int .i64 0, .bool false, .string ⟨#[]⟩, .string ⟨#[]⟩] 24)
  have HN := hide (snextI 8 g a cap l p s (by omega) (by omega) hl (by omega) hs _ (ArrAt.alloc h (.cells #[.int .i64 0, .int .i64 0, .int .i64 0, .int .i64 0, .int .i64 0, .int .i64 0, .bool false, .string ⟨#[]⟩, .string ⟨#[]⟩] 24)) (hr.grown hG0 hg) hg)
  have G0 := hide hG0
  clear h hr hg hs hcl hsq hG0
  go_enter Tryd.func12, Tryd.ntmps12
  go_wp2_with fail
  refine (unhide HN).mono ?_
  rintro e w1 ⟨x, s1, rfl, hx, hs1, hA1, hG1⟩
  have Z1 := hide ((unhide Z0).grown hG1 (by intro e; injection e with e; omega))
  have G1 := hide (World.grownBy.trans' (unhide G0) hG1)
  clear Z0 G0
  have S1 := hide hA1
  have Q1 := hide hs1
  clear hA1 hs1 hG1
  clear HN
  have hB : w.heap.size < w1.heap.size := (unhide Z1).lt
  have Z2 := hide ((unhide Z1).alloc (.cells #[.int .i64 (1 + x), .int .i64 cl, .int .i64 sq, .int .i64 0, .int .i64 0, .int .i64 0, .bool false, .string ⟨#[]⟩, .string ⟨#[]⟩] 24))
  have G2 := hide (World.grownBy.trans' (unhide G1) (grown_alloc _ (.cells #[.int .i64 (1 + x), .int .i64 cl, .int .i64 sq, .int .i64 0, .int .i64 0, .int .i64 0, .bool false, .string ⟨#[]⟩, .string ⟨#[]⟩] 24) (some g)))
  have S2 := hide (ArrAt.alloc (unhide S1) (.cells #[.int .i64 (1 + x), .int .i64 cl, .int .i64 sq, .int .i64 0, .int .i64 0, .int .i64 0, .bool false, .string ⟨#[]⟩, .string ⟨#[]⟩] 24))
  clear Z1 G1 S1
  have C2 := hide (BF.new w1 #[.int .i64 (1 + x), .int .i64 cl, .int .i64 sq, .int .i64 0, .int .i64 0, .int .i64 0, .bool false, .string ⟨#[]⟩, .string ⟨#[]⟩] 24)
  have bS := (unhide C2).S
  have bF := (unhide C2).F
  go_wp2_with fail
  clear bS bF
  refine (schance 3 g a cap l (p + 1) s1 (by omega) (by omega) hl (by omega) (unhide Q1) _ (unhide S2) ((unhide HR).grown (unhide G2) (unhide HGN)) (unhide HGN)).mono ?_
  rintro e v3 ⟨y3, s3, rfl, hs3, hA3, hG3⟩
  have Z3 := hide ((unhide Z2).grown hG3 (by intro e; injection e with e; omega))
  have C3 := hide ((unhide C2).grown hG3 (by intro e; injection e with e; omega))
  have G3 := hide (World.grownBy.trans' (unhide G2) hG3)
  clear Z2 G2 C2
  have S3 := hide hA3
  have Q3 := hide hs3
  clear S2 Q1
  clear hA3 hs3 hG3
  cases y3 with
  | true =>
    have Z4 := hide ((unhide Z3).far ⟨w1.heap.size, 0, none⟩ (.int .i64 5) (by show w1.heap.size ≠ w.heap.size; omega))
    have C4 : Hid (BF w1.heap.size #[.int .i64 5, .int .i64 cl, .int .i64 sq, .int .i64 0, .int .i64 0, .int .i64 0, .bool false, .string ⟨#[]⟩, .string ⟨#[]⟩] _) := (unhide C3).set 0 (by simp) (.int .i64 5)
    have G4 := hide (grown_set (unhide G3) (Nat.le_of_lt hB) 0 (.int .i64 5))
    have S4 := hide (ArrAt.other (unhide S3) (show g ≠ w1.heap.size by omega) 0 (.int .i64 5))
    clear Z3 G3 S3
    have bS := (unhide C4).S
    have bF := (unhide C4).F
    have pS := (unhide C3).S
    have pF := (unhide C3).F
    go_wp2_with fail
    clear bS bF pS pF C3
    refine (snextI 5 g a cap l (p + 2) s3 (by omega) (by omega) hl (by omega) (unhide Q3) _ (unhide S4) ((unhide HR).grown (unhide G4) (unhide HGN)) (unhide HGN)).mono ?_
    rintro e v5 ⟨y5, s5, rfl, hy5, hs5, hA5, hG5⟩
    have Z5 := hide ((unhide Z4).grown hG5 (by intro e; injection e with e; omega))
    have C5 := hide ((unhide C4).grown hG5 (by intro e; injection e with e; omega))
    have G5 := hide (World.grownBy.trans' (unhide G4) hG5)
    clear Z4 G4 C4
    have S5 := hide hA5
    have Q5 := hide hs5
    clear S4 Q3
    clear hA5 hs5 hG5
    have Z6 := hide ((unhide Z5).far ⟨w1.heap.size, 3, none⟩ (.int .i64 (1 + y5)) (by show w1.heap.size ≠ w.heap.size; omega))
    have C6 : Hid (BF w1.heap.size #[.int .i64 5, .int .i64 cl, .int .i64 sq, .int .i64 (1 + y5), .int .i64 0, .int .i64 0, .bool false, .string ⟨#[]⟩, .string ⟨#[]⟩] _) := (unhide C5).set 3 (by simp) (.int .i64 (1 + y5))
    have G6 := hide (grown_set (unhide G5) (Nat.le_of_lt hB) 3 (.int .i64 (1 + y5)))
    have S6 := hide (ArrAt.other (unhide S5) (show g ≠ w1.heap.size by omega) 3 (.int .i64 (1 + y5)))
    clear Z5 G5 S5
    have bS := (unhide C6).S
    have bF := (unhide C6).F
    have pS := (unhide C5).S
    have pF := (unhide C5).F
    go_wp2_with fail
    clear bS bF pS pF C5
    refine (snextI 12 g a cap l (p + 3) s5 (by omega) (by omega) hl (by omega) (unhide Q5) _ (unhide S6) ((unhide HR).grown (unhide G6) (unhide HGN)) (unhide HGN)).mono ?_
    rintro e v7 ⟨y7, s7, rfl, hy7, hs7, hA7, hG7⟩
    have Z7 := hide ((unhide Z6).grown hG7 (by intro e; injection e with e; omega))
    have C7 := hide ((unhide C6).grown hG7 (by intro e; injection e with e; omega))
    have G7 := hide (World.grownBy.trans' (unhide G6) hG7)
    clear Z6 G6 C6
    have S7 := hide hA7
    have Q7 := hide hs7
    clear S6 Q5
    clear hA7 hs7 hG7
    obtain ⟨d, hd⟩ : ∃ d : Int, d = y7 / 10 := ⟨_, rfl⟩
    have hd1 : y7.tdiv 10 = d := by rw [Int.tdiv_eq_ediv_of_nonneg (by omega)]; exact hd.symm
    have hd2 : y7 / 10 = d := hd.symm
    have hd3 : 0 ≤ d ∧ d ≤ 1 := by omega
    clear hd
    have Z8 := hide ((unhide Z7).far ⟨w1.heap.size, 5, none⟩ (.int .i64 (1 + d)) (by show w1.heap.size ≠ w.heap.size; omega))
    have C8 : Hid (BF w1.heap.size #[.int .i64 5, .int .i64 cl, .int .i64 sq, .int .i64 (1 + y5), .int .i64 0, .int .i64 (1 + d), .bool false, .string ⟨#[]⟩, .string ⟨#[]⟩] _) := (unhide C7).set 5 (by simp) (.int .i64 (1 + d))
    have G8 := hide (grown_set (unhide G7) (Nat.le_of_lt hB) 5 (.int .i64 (1 + d)))
    have S8 := hide (ArrAt.other (unhide S7) (show g ≠ w1.heap.size by omega) 5 (.int .i64 (1 + d)))
    clear Z7 G7 S7
    have bS := (unhide C8).S
    have bF := (unhide C8).F
    have pS := (unhide C7).S
    have pF := (unhide C7).F
    go_wp2_with fail
    clear bS bF pS pF C7
    refine (soutput g a cap l (p + 4) s7 hl (by omega) (unhide Q7) _ (unhide S8) ((unhide HR).grown (unhide G8) (unhide HGN)) (unhide HGN)).mono ?_
    rintro e v9 ⟨y9, pq9, s9, rfl, hz9, hz29, hpq9, hs9, hA9, hG9⟩
    have Z9 := hide ((unhide Z8).grown hG9 (by intro e; injection e with e; omega))
    have C9 := hide ((unhide C8).grown hG9 (by intro e; injection e with e; omega))
    have G9 := hide (World.grownBy.trans' (unhide G8) hG9)
    clear Z8 G8 C8
    have S9 := hide hA9
    have Q9 := hide hs9
    clear S8 Q7
    clear hA9 hs9 hG9
    have hsz1 : (1 : Int) ≤ (y9.size : Int) := by omega
    have hsz2 : (y9.size : Int) ≤ 200 := by omega
    have Z10 := hide ((unhide Z9).far ⟨w1.heap.size, 8, none⟩ (.string y9) (by show w1.heap.size ≠ w.heap.size; omega))
    have C10 : Hid (BF w1.heap.size #[.int .i64 5, .int .i64 cl, .int .i64 sq, .int .i64 (1 + y5), .int .i64 0, .int .i64 (1 + d), .bool false, .string ⟨#[]⟩, .string y9] _) := (unhide C9).set 8 (by simp) (.string y9)
    have G10 := hide (grown_set (unhide G9) (Nat.le_of_lt hB) 8 (.string y9))
    have S10 := hide (ArrAt.other (unhide S9) (show g ≠ w1.heap.size by omega) 8 (.string y9))
    clear Z9 G9 S9
    have bS := (unhide C10).S
    have zS := (unhide Z10).S
    have zF := (unhide Z10).F
    have bF := (unhide C10).F
    have pS := (unhide C9).S
    have pF := (unhide C9).F
    have hne : ¬ w1.heap.size = w.heap.size := by omega
    have hne2 : ¬ w.heap.size = w1.heap.size := by omega
    go_wp2_with fail
    refine bodyPost_ret (v := .agg #[.int .i64 5, .int .i64 cl, .int .i64 sq, .int .i64 (1 + y5), .int .i64 0, .int .i64 (1 + d), .bool false, .string ⟨#[]⟩, .string y9]) (by simp [results, Tryd.results12, go_sem, zS]) rfl ⟨_, _, _, _, _, _, _, pq9, s9, rfl, ?_, by omega, unhide Q9, ?_, ?_⟩
    · unfold cmdB; rw [unhide HCL, unhide HSQ]; simp [kindB, isWindowB, isSplitB, isKillB, isMoveB, isOutputB, isOwnB, isResizeB, isRenameB, jst, inB, sizeB, ]; omega
    · iterate 9 refine ArrAt.other ?_ (show g ≠ w.heap.size by omega) _ _
      exact unhide S10
    · iterate 9 refine grown_set ?_ (Nat.le_refl _) _ _
      exact unhide G10
  | false =>
    rcases (by omega : x = 0 ∨ x = 1 ∨ x = 2 ∨ x = 3 ∨ x = 4 ∨ x = 5 ∨ x = 6 ∨ x = 7) with rfl | rfl | rfl | rfl | rfl | rfl | rfl | rfl
    · skip
      have C11 : Hid (BF w1.heap.size #[.int .i64 1, .int .i64 cl, .int .i64 sq, .int .i64 0, .int .i64 0, .int .i64 0, .bool false, .string ⟨#[]⟩, .string ⟨#[]⟩] _) := unhide C3
      clear C3
      have bS := (unhide C11).S
      have bF := (unhide C11).F
      go_wp2_with fail
      clear bS bF
      refine (swinname g a cap l (p + 2) s3 hl (by omega) (unhide Q3) _ (unhide S3) ((unhide HR).grown (unhide G3) (unhide HGN)) (unhide HGN)).mono ?_
      rintro e v12 ⟨y12, hy12, s12, rfl, hs12, hA12, hG12⟩
      have Z12 := hide ((unhide Z3).grown hG12 (by intro e; injection e with e; omega))
      have C12 := hide ((unhide C11).grown hG12 (by intro e; injection e with e; omega))
      have G12 := hide (World.grownBy.trans' (unhide G3) hG12)
      clear Z3 G3 C11
      have S12 := hide hA12
      have Q12 := hide hs12
      clear S3 Q3
      clear hA12 hs12 hG12
      obtain ⟨N, hN⟩ : ∃ N, N = textsW[y12] := ⟨_, rfl⟩
      have hW : wnB N = true := by rw [hN]; exact texts_wn (by decide +kernel) _ hy12
      rw [← hN]
      clear hN
      have Z13 := hide ((unhide Z12).far ⟨w1.heap.size, 7, none⟩ (.string N) (by show w1.heap.size ≠ w.heap.size; omega))
      have C13 : Hid (BF w1.heap.size #[.int .i64 1, .int .i64 cl, .int .i64 sq, .int .i64 0, .int .i64 0, .int .i64 0, .bool false, .string N, .string ⟨#[]⟩] _) := (unhide C12).set 7 (by simp) (.string N)
      have G13 := hide (grown_set (unhide G12) (Nat.le_of_lt hB) 7 (.string N))
      have S13 := hide (ArrAt.other (unhide S12) (show g ≠ w1.heap.size by omega) 7 (.string N))
      clear Z12 G12 S12
      have bS := (unhide C13).S
      have zS := (unhide Z13).S
      have zF := (unhide Z13).F
      have bF := (unhide C13).F
      have pS := (unhide C12).S
      have pF := (unhide C12).F
      have hne : ¬ w1.heap.size = w.heap.size := by omega
      have hne2 : ¬ w.heap.size = w1.heap.size := by omega
      go_wp2_with fail
      refine bodyPost_ret (v := .agg #[.int .i64 1, .int .i64 cl, .int .i64 sq, .int .i64 0, .int .i64 0, .int .i64 0, .bool false, .string N, .string ⟨#[]⟩]) (by simp [results, Tryd.results12, go_sem, zS]) rfl ⟨_, _, _, _, _, _, _, p + 3, s12, rfl, ?_, by omega, unhide Q12, ?_, ?_⟩
      · unfold cmdB; rw [unhide HCL, unhide HSQ]; simp [kindB, isWindowB, isSplitB, isKillB, isMoveB, isOutputB, isOwnB, isResizeB, isRenameB, jst, inB, sizeB, hW]
      · iterate 9 refine ArrAt.other ?_ (show g ≠ w.heap.size by omega) _ _
        exact unhide S13
      · iterate 9 refine grown_set ?_ (Nat.le_refl _) _ _
        exact unhide G13
    · skip
      have C14 : Hid (BF w1.heap.size #[.int .i64 2, .int .i64 cl, .int .i64 sq, .int .i64 0, .int .i64 0, .int .i64 0, .bool false, .string ⟨#[]⟩, .string ⟨#[]⟩] _) := unhide C3
      clear C3
      have bS := (unhide C14).S
      have bF := (unhide C14).F
      go_wp2_with fail
      clear bS bF
      refine (snextI 5 g a cap l (p + 2) s3 (by omega) (by omega) hl (by omega) (unhide Q3) _ (unhide S3) ((unhide HR).grown (unhide G3) (unhide HGN)) (unhide HGN)).mono ?_
      rintro e v15 ⟨y15, s15, rfl, hy15, hs15, hA15, hG15⟩
      have Z15 := hide ((unhide Z3).grown hG15 (by intro e; injection e with e; omega))
      have C15 := hide ((unhide C14).grown hG15 (by intro e; injection e with e; omega))
      have G15 := hide (World.grownBy.trans' (unhide G3) hG15)
      clear Z3 G3 C14
      have S15 := hide hA15
      have Q15 := hide hs15
      clear S3 Q3
      clear hA15 hs15 hG15
      have Z16 := hide ((unhide Z15).far ⟨w1.heap.size, 3, none⟩ (.int .i64 (1 + y15)) (by show w1.heap.size ≠ w.heap.size; omega))
      have C16 : Hid (BF w1.heap.size #[.int .i64 2, .int .i64 cl, .int .i64 sq, .int .i64 (1 + y15), .int .i64 0, .int .i64 0, .bool false, .string ⟨#[]⟩, .string ⟨#[]⟩] _) := (unhide C15).set 3 (by simp) (.int .i64 (1 + y15))
      have G16 := hide (grown_set (unhide G15) (Nat.le_of_lt hB) 3 (.int .i64 (1 + y15)))
      have S16 := hide (ArrAt.other (unhide S15) (show g ≠ w1.heap.size by omega) 3 (.int .i64 (1 + y15)))
      clear Z15 G15 S15
      have bS := (unhide C16).S
      have bF := (unhide C16).F
      have pS := (unhide C15).S
      have pF := (unhide C15).F
      go_wp2_with fail
      clear bS bF pS pF C15
      refine (schance 2 g a cap l (p + 3) s15 (by omega) (by omega) hl (by omega) (unhide Q15) _ (unhide S16) ((unhide HR).grown (unhide G16) (unhide HGN)) (unhide HGN)).mono ?_
      rintro e v17 ⟨y17, s17, rfl, hs17, hA17, hG17⟩
      have Z17 := hide ((unhide Z16).grown hG17 (by intro e; injection e with e; omega))
      have C17 := hide ((unhide C16).grown hG17 (by intro e; injection e with e; omega))
      have G17 := hide (World.grownBy.trans' (unhide G16) hG17)
      clear Z16 G16 C16
      have S17 := hide hA17
      have Q17 := hide hs17
      clear S16 Q15
      clear hA17 hs17 hG17
      have Z18 := hide ((unhide Z17).far ⟨w1.heap.size, 6, none⟩ (.bool y17) (by show w1.heap.size ≠ w.heap.size; omega))
      have C18 : Hid (BF w1.heap.size #[.int .i64 2, .int .i64 cl, .int .i64 sq, .int .i64 (1 + y15), .int .i64 0, .int .i64 0, .bool y17, .string ⟨#[]⟩, .string ⟨#[]⟩] _) := (unhide C17).set 6 (by simp) (.bool y17)
      have G18 := hide (grown_set (unhide G17) (Nat.le_of_lt hB) 6 (.bool y17))
      have S18 := hide (ArrAt.other (unhide S17) (show g ≠ w1.heap.size by omega) 6 (.bool y17))
      clear Z17 G17 S17
      have bS := (unhide C18).S
      have zS := (unhide Z18).S
      have zF := (unhide Z18).F
      have bF := (unhide C18).F
      have pS := (unhide C17).S
      have pF := (unhide C17).F
      have hne : ¬ w1.heap.size = w.heap.size := by omega
      have hne2 : ¬ w.heap.size = w1.heap.size := by omega
      go_wp2_with fail
      refine bodyPost_ret (v := .agg #[.int .i64 2, .int .i64 cl, .int .i64 sq, .int .i64 (1 + y15), .int .i64 0, .int .i64 0, .bool y17, .string ⟨#[]⟩, .string ⟨#[]⟩]) (by simp [results, Tryd.results12, go_sem, zS]) rfl ⟨_, _, _, _, _, _, _, p + 4, s17, rfl, ?_, by omega, unhide Q17, ?_, ?_⟩
      · unfold cmdB; rw [unhide HCL, unhide HSQ]; simp [kindB, isWindowB, isSplitB, isKillB, isMoveB, isOutputB, isOwnB, isResizeB, isRenameB, jst, inB, sizeB, ]; omega
      · iterate 9 refine ArrAt.other ?_ (show g ≠ w.heap.size by omega) _ _
        exact unhide S18
      · iterate 9 refine grown_set ?_ (Nat.le_refl _) _ _
        exact unhide G18
    · skip
      have C19 : Hid (BF w1.heap.size #[.int .i64 3, .int .i64 cl, .int .i64 sq, .int .i64 0, .int .i64 0, .int .i64 0, .bool false, .string ⟨#[]⟩, .string ⟨#[]⟩] _) := unhide C3
      clear C3
      have bS := (unhide C19).S
      have bF := (unhide C19).F
      go_wp2_with fail
      clear bS bF
      refine (snextI 5 g a cap l (p + 2) s3 (by omega) (by omega) hl (by omega) (unhide Q3) _ (unhide S3) ((unhide HR).grown (unhide G3) (unhide HGN)) (unhide HGN)).mono ?_
      rintro e v20 ⟨y20, s20, rfl, hy20, hs20, hA20, hG20⟩
      have Z20 := hide ((unhide Z3).grown hG20 (by intro e; injection e with e; omega))
      have C20 := hide ((unhide C19).grown hG20 (by intro e; injection e with e; omega))
      have G20 := hide (World.grownBy.trans' (unhide G3) hG20)
      clear Z3 G3 C19
      have S20 := hide hA20
      have Q20 := hide hs20
      clear S3 Q3
      clear hA20 hs20 hG20
      have Z21 := hide ((unhide Z20).far ⟨w1.heap.size, 3, none⟩ (.int .i64 (1 + y20)) (by show w1.heap.size ≠ w.heap.size; omega))
      have C21 : Hid (BF w1.heap.size #[.int .i64 3, .int .i64 cl, .int .i64 sq, .int .i64 (1 + y20), .int .i64 0, .int .i64 0, .bool false, .string ⟨#[]⟩, .string ⟨#[]⟩] _) := (unhide C20).set 3 (by simp) (.int .i64 (1 + y20))
      have G21 := hide (grown_set (unhide G20) (Nat.le_of_lt hB) 3 (.int .i64 (1 + y20)))
      have S21 := hide (ArrAt.other (unhide S20) (show g ≠ w1.heap.size by omega) 3 (.int .i64 (1 + y20)))
      clear Z20 G20 S20
      have bS := (unhide C21).S
      have zS := (unhide Z21).S
      have zF := (unhide Z21).F
      have bF := (unhide C21).F
      have pS := (unhide C20).S
      have pF := (unhide C20).F
      have hne : ¬ w1.heap.size = w.heap.size := by omega
      have hne2 : ¬ w.heap.size = w1.heap.size := by omega
      go_wp2_with fail
      refine bodyPost_ret (v := .agg #[.int .i64 3, .int .i64 cl, .int .i64 sq, .int .i64 (1 + y20), .int .i64 0, .int .i64 0, .bool false, .string ⟨#[]⟩, .string ⟨#[]⟩]) (by simp [results, Tryd.results12, go_sem, zS]) rfl ⟨_, _, _, _, _, _, _, p + 3, s20, rfl, ?_, by omega, unhide Q20, ?_, ?_⟩
      · unfold cmdB; rw [unhide HCL, unhide HSQ]; simp [kindB, isWindowB, isSplitB, isKillB, isMoveB, isOutputB, isOwnB, isResizeB, isRenameB, jst, inB, sizeB, ]; omega
      · iterate 9 refine ArrAt.other ?_ (show g ≠ w.heap.size by omega) _ _
        exact unhide S21
      · iterate 9 refine grown_set ?_ (Nat.le_refl _) _ _
        exact unhide G21
    · skip
      have C22 : Hid (BF w1.heap.size #[.int .i64 4, .int .i64 cl, .int .i64 sq, .int .i64 0, .int .i64 0, .int .i64 0, .bool false, .string ⟨#[]⟩, .string ⟨#[]⟩] _) := unhide C3
      clear C3
      have bS := (unhide C22).S
      have bF := (unhide C22).F
      go_wp2_with fail
      clear bS bF
      refine (snextI 5 g a cap l (p + 2) s3 (by omega) (by omega) hl (by omega) (unhide Q3) _ (unhide S3) ((unhide HR).grown (unhide G3) (unhide HGN)) (unhide HGN)).mono ?_
      rintro e v23 ⟨y23, s23, rfl, hy23, hs23, hA23, hG23⟩
      have Z23 := hide ((unhide Z3).grown hG23 (by intro e; injection e with e; omega))
      have C23 := hide ((unhide C22).grown hG23 (by intro e; injection e with e; omega))
      have G23 := hide (World.grownBy.trans' (unhide G3) hG23)
      clear Z3 G3 C22
      have S23 := hide hA23
      have Q23 := hide hs23
      clear S3 Q3
      clear hA23 hs23 hG23
      have Z24 := hide ((unhide Z23).far ⟨w1.heap.size, 3, none⟩ (.int .i64 (1 + y23)) (by show w1.heap.size ≠ w.heap.size; omega))
      have C24 : Hid (BF w1.heap.size #[.int .i64 4, .int .i64 cl, .int .i64 sq, .int .i64 (1 + y23), .int .i64 0, .int .i64 0, .bool false, .string ⟨#[]⟩, .string ⟨#[]⟩] _) := (unhide C23).set 3 (by simp) (.int .i64 (1 + y23))
      have G24 := hide (grown_set (unhide G23) (Nat.le_of_lt hB) 3 (.int .i64 (1 + y23)))
      have S24 := hide (ArrAt.other (unhide S23) (show g ≠ w1.heap.size by omega) 3 (.int .i64 (1 + y23)))
      clear Z23 G23 S23
      have bS := (unhide C24).S
      have bF := (unhide C24).F
      have pS := (unhide C23).S
      have pF := (unhide C23).F
      go_wp2_with fail
      clear bS bF pS pF C23
      refine (snextI 9 g a cap l (p + 3) s23 (by omega) (by omega) hl (by omega) (unhide Q23) _ (unhide S24) ((unhide HR).grown (unhide G24) (unhide HGN)) (unhide HGN)).mono ?_
      rintro e v25 ⟨y25, s25, rfl, hy25, hs25, hA25, hG25⟩
      have Z25 := hide ((unhide Z24).grown hG25 (by intro e; injection e with e; omega))
      have C25 := hide ((unhide C24).grown hG25 (by intro e; injection e with e; omega))
      have G25 := hide (World.grownBy.trans' (unhide G24) hG25)
      clear Z24 G24 C24
      have S25 := hide hA25
      have Q25 := hide hs25
      clear S24 Q23
      clear hA25 hs25 hG25
      have Z26 := hide ((unhide Z25).far ⟨w1.heap.size, 4, none⟩ (.int .i64 (y25 - 4)) (by show w1.heap.size ≠ w.heap.size; omega))
      have C26 : Hid (BF w1.heap.size #[.int .i64 4, .int .i64 cl, .int .i64 sq, .int .i64 (1 + y23), .int .i64 (y25 - 4), .int .i64 0, .bool false, .string ⟨#[]⟩, .string ⟨#[]⟩] _) := (unhide C25).set 4 (by simp) (.int .i64 (y25 - 4))
      have G26 := hide (grown_set (unhide G25) (Nat.le_of_lt hB) 4 (.int .i64 (y25 - 4)))
      have S26 := hide (ArrAt.other (unhide S25) (show g ≠ w1.heap.size by omega) 4 (.int .i64 (y25 - 4)))
      clear Z25 G25 S25
      have bS := (unhide C26).S
      have zS := (unhide Z26).S
      have zF := (unhide Z26).F
      have bF := (unhide C26).F
      have pS := (unhide C25).S
      have pF := (unhide C25).F
      have hne : ¬ w1.heap.size = w.heap.size := by omega
      have hne2 : ¬ w.heap.size = w1.heap.size := by omega
      go_wp2_with fail
      refine bodyPost_ret (v := .agg #[.int .i64 4, .int .i64 cl, .int .i64 sq, .int .i64 (1 + y23), .int .i64 (y25 - 4), .int .i64 0, .bool false, .string ⟨#[]⟩, .string ⟨#[]⟩]) (by simp [results, Tryd.results12, go_sem, zS]) rfl ⟨_, _, _, _, _, _, _, p + 4, s25, rfl, ?_, by omega, unhide Q25, ?_, ?_⟩
      · unfold cmdB; rw [unhide HCL, unhide HSQ]; simp [kindB, isWindowB, isSplitB, isKillB, isMoveB, isOutputB, isOwnB, isResizeB, isRenameB, jst, inB, sizeB, ]; omega
      · iterate 9 refine ArrAt.other ?_ (show g ≠ w.heap.size by omega) _ _
        exact unhide S26
      · iterate 9 refine grown_set ?_ (Nat.le_refl _) _ _
        exact unhide G26
    · skip
      have C27 : Hid (BF w1.heap.size #[.int .i64 5, .int .i64 cl, .int .i64 sq, .int .i64 0, .int .i64 0, .int .i64 0, .bool false, .string ⟨#[]⟩, .string ⟨#[]⟩] _) := unhide C3
      clear C3
      have bS := (unhide C27).S
      have bF := (unhide C27).F
      go_wp2_with fail
      clear bS bF
      refine (snextI 5 g a cap l (p + 2) s3 (by omega) (by omega) hl (by omega) (unhide Q3) _ (unhide S3) ((unhide HR).grown (unhide G3) (unhide HGN)) (unhide HGN)).mono ?_
      rintro e v28 ⟨y28, s28, rfl, hy28, hs28, hA28, hG28⟩
      have Z28 := hide ((unhide Z3).grown hG28 (by intro e; injection e with e; omega))
      have C28 := hide ((unhide C27).grown hG28 (by intro e; injection e with e; omega))
      have G28 := hide (World.grownBy.trans' (unhide G3) hG28)
      clear Z3 G3 C27
      have S28 := hide hA28
      have Q28 := hide hs28
      clear S3 Q3
      clear hA28 hs28 hG28
      have Z29 := hide ((unhide Z28).far ⟨w1.heap.size, 3, none⟩ (.int .i64 (1 + y28)) (by show w1.heap.size ≠ w.heap.size; omega))
      have C29 : Hid (BF w1.heap.size #[.int .i64 5, .int .i64 cl, .int .i64 sq, .int .i64 (1 + y28), .int .i64 0, .int .i64 0, .bool false, .string ⟨#[]⟩, .string ⟨#[]⟩] _) := (unhide C28).set 3 (by simp) (.int .i64 (1 + y28))
      have G29 := hide (grown_set (unhide G28) (Nat.le_of_lt hB) 3 (.int .i64 (1 + y28)))
      have S29 := hide (ArrAt.other (unhide S28) (show g ≠ w1.heap.size by omega) 3 (.int .i64 (1 + y28)))
      clear Z28 G28 S28
      have bS := (unhide C29).S
      have bF := (unhide C29).F
      have pS := (unhide C28).S
      have pF := (unhide C28).F
      go_wp2_with fail
      clear bS bF pS pF C28
      refine (snextI 12 g a cap l (p + 3) s28 (by omega) (by omega) hl (by omega) (unhide Q28) _ (unhide S29) ((unhide HR).grown (unhide G29) (unhide HGN)) (unhide HGN)).mono ?_
      rintro e v30 ⟨y30, s30, rfl, hy30, hs30, hA30, hG30⟩
      have Z30 := hide ((unhide Z29).grown hG30 (by intro e; injection e with e; omega))
      have C30 := hide ((unhide C29).grown hG30 (by intro e; injection e with e; omega))
      have G30 := hide (World.grownBy.trans' (unhide G29) hG30)
      clear Z29 G29 C29
      have S30 := hide hA30
      have Q30 := hide hs30
      clear S29 Q28
      clear hA30 hs30 hG30
      obtain ⟨d, hd⟩ : ∃ d : Int, d = y30 / 10 := ⟨_, rfl⟩
      have hd1 : y30.tdiv 10 = d := by rw [Int.tdiv_eq_ediv_of_nonneg (by omega)]; exact hd.symm
      have hd2 : y30 / 10 = d := hd.symm
      have hd3 : 0 ≤ d ∧ d ≤ 1 := by omega
      clear hd
      have Z31 := hide ((unhide Z30).far ⟨w1.heap.size, 5, none⟩ (.int .i64 (1 + d)) (by show w1.heap.size ≠ w.heap.size; omega))
      have C31 : Hid (BF w1.heap.size #[.int .i64 5, .int .i64 cl, .int .i64 sq, .int .i64 (1 + y28), .int .i64 0, .int .i64 (1 + d), .bool false, .string ⟨#[]⟩, .string ⟨#[]⟩] _) := (unhide C30).set 5 (by simp) (.int .i64 (1 + d))
      have G31 := hide (grown_set (unhide G30) (Nat.le_of_lt hB) 5 (.int .i64 (1 + d)))
      have S31 := hide (ArrAt.other (unhide S30) (show g ≠ w1.heap.size by omega) 5 (.int .i64 (1 + d)))
      clear Z30 G30 S30
      have bS := (unhide C31).S
      have bF := (unhide C31).F
      have pS := (unhide C30).S
      have pF := (unhide C30).F
      go_wp2_with fail
      clear bS bF pS pF C30
      refine (soutput g a cap l (p + 4) s30 hl (by omega) (unhide Q30) _ (unhide S31) ((unhide HR).grown (unhide G31) (unhide HGN)) (unhide HGN)).mono ?_
      rintro e v32 ⟨y32, pq32, s32, rfl, hz32, hz232, hpq32, hs32, hA32, hG32⟩
      have Z32 := hide ((unhide Z31).grown hG32 (by intro e; injection e with e; omega))
      have C32 := hide ((unhide C31).grown hG32 (by intro e; injection e with e; omega))
      have G32 := hide (World.grownBy.trans' (unhide G31) hG32)
      clear Z31 G31 C31
      have S32 := hide hA32
      have Q32 := hide hs32
      clear S31 Q30
      clear hA32 hs32 hG32
      have hsz1 : (1 : Int) ≤ (y32.size : Int) := by omega
      have hsz2 : (y32.size : Int) ≤ 200 := by omega
      have Z33 := hide ((unhide Z32).far ⟨w1.heap.size, 8, none⟩ (.string y32) (by show w1.heap.size ≠ w.heap.size; omega))
      have C33 : Hid (BF w1.heap.size #[.int .i64 5, .int .i64 cl, .int .i64 sq, .int .i64 (1 + y28), .int .i64 0, .int .i64 (1 + d), .bool false, .string ⟨#[]⟩, .string y32] _) := (unhide C32).set 8 (by simp) (.string y32)
      have G33 := hide (grown_set (unhide G32) (Nat.le_of_lt hB) 8 (.string y32))
      have S33 := hide (ArrAt.other (unhide S32) (show g ≠ w1.heap.size by omega) 8 (.string y32))
      clear Z32 G32 S32
      have bS := (unhide C33).S
      have zS := (unhide Z33).S
      have zF := (unhide Z33).F
      have bF := (unhide C33).F
      have pS := (unhide C32).S
      have pF := (unhide C32).F
      have hne : ¬ w1.heap.size = w.heap.size := by omega
      have hne2 : ¬ w.heap.size = w1.heap.size := by omega
      go_wp2_with fail
      refine bodyPost_ret (v := .agg #[.int .i64 5, .int .i64 cl, .int .i64 sq, .int .i64 (1 + y28), .int .i64 0, .int .i64 (1 + d), .bool false, .string ⟨#[]⟩, .string y32]) (by simp [results, Tryd.results12, go_sem, zS]) rfl ⟨_, _, _, _, _, _, _, pq32, s32, rfl, ?_, by omega, unhide Q32, ?_, ?_⟩
      · unfold cmdB; rw [unhide HCL, unhide HSQ]; simp [kindB, isWindowB, isSplitB, isKillB, isMoveB, isOutputB, isOwnB, isResizeB, isRenameB, jst, inB, sizeB, ]; omega
      · iterate 9 refine ArrAt.other ?_ (show g ≠ w.heap.size by omega) _ _
        exact unhide S33
      · iterate 9 refine grown_set ?_ (Nat.le_refl _) _ _
        exact unhide G33
    · skip
      have C34 : Hid (BF w1.heap.size #[.int .i64 6, .int .i64 cl, .int .i64 sq, .int .i64 0, .int .i64 0, .int .i64 0, .bool false, .string ⟨#[]⟩, .string ⟨#[]⟩] _) := unhide C3
      clear C3
      have bS := (unhide C34).S
      have bF := (unhide C34).F
      go_wp2_with fail
      clear bS bF
      refine (snextI 5 g a cap l (p + 2) s3 (by omega) (by omega) hl (by omega) (unhide Q3) _ (unhide S3) ((unhide HR).grown (unhide G3) (unhide HGN)) (unhide HGN)).mono ?_
      rintro e v35 ⟨y35, s35, rfl, hy35, hs35, hA35, hG35⟩
      have Z35 := hide ((unhide Z3).grown hG35 (by intro e; injection e with e; omega))
      have C35 := hide ((unhide C34).grown hG35 (by intro e; injection e with e; omega))
      have G35 := hide (World.grownBy.trans' (unhide G3) hG35)
      clear Z3 G3 C34
      have S35 := hide hA35
      have Q35 := hide hs35
      clear S3 Q3
      clear hA35 hs35 hG35
      have Z36 := hide ((unhide Z35).far ⟨w1.heap.size, 3, none⟩ (.int .i64 (1 + y35)) (by show w1.heap.size ≠ w.heap.size; omega))
      have C36 : Hid (BF w1.heap.size #[.int .i64 6, .int .i64 cl, .int .i64 sq, .int .i64 (1 + y35), .int .i64 0, .int .i64 0, .bool false, .string ⟨#[]⟩, .string ⟨#[]⟩] _) := (unhide C35).set 3 (by simp) (.int .i64 (1 + y35))
      have G36 := hide (grown_set (unhide G35) (Nat.le_of_lt hB) 3 (.int .i64 (1 + y35)))
      have S36 := hide (ArrAt.other (unhide S35) (show g ≠ w1.heap.size by omega) 3 (.int .i64 (1 + y35)))
      clear Z35 G35 S35
      have bS := (unhide C36).S
      have bF := (unhide C36).F
      have pS := (unhide C35).S
      have pF := (unhide C35).F
      go_wp2_with fail
      clear bS bF pS pF C35
      refine (snextI 3 g a cap l (p + 3) s35 (by omega) (by omega) hl (by omega) (unhide Q35) _ (unhide S36) ((unhide HR).grown (unhide G36) (unhide HGN)) (unhide HGN)).mono ?_
      rintro e v37 ⟨y37, s37, rfl, hy37, hs37, hA37, hG37⟩
      have Z37 := hide ((unhide Z36).grown hG37 (by intro e; injection e with e; omega))
      have C37 := hide ((unhide C36).grown hG37 (by intro e; injection e with e; omega))
      have G37 := hide (World.grownBy.trans' (unhide G36) hG37)
      clear Z36 G36 C36
      have S37 := hide hA37
      have Q37 := hide hs37
      clear S36 Q35
      clear hA37 hs37 hG37
      have Z38 := hide ((unhide Z37).far ⟨w1.heap.size, 4, none⟩ (.int .i64 y37) (by show w1.heap.size ≠ w.heap.size; omega))
      have C38 : Hid (BF w1.heap.size #[.int .i64 6, .int .i64 cl, .int .i64 sq, .int .i64 (1 + y35), .int .i64 y37, .int .i64 0, .bool false, .string ⟨#[]⟩, .string ⟨#[]⟩] _) := (unhide C37).set 4 (by simp) (.int .i64 y37)
      have G38 := hide (grown_set (unhide G37) (Nat.le_of_lt hB) 4 (.int .i64 y37))
      have S38 := hide (ArrAt.other (unhide S37) (show g ≠ w1.heap.size by omega) 4 (.int .i64 y37))
      clear Z37 G37 S37
      have bS := (unhide C38).S
      have zS := (unhide Z38).S
      have zF := (unhide Z38).F
      have bF := (unhide C38).F
      have pS := (unhide C37).S
      have pF := (unhide C37).F
      have hne : ¬ w1.heap.size = w.heap.size := by omega
      have hne2 : ¬ w.heap.size = w1.heap.size := by omega
      go_wp2_with fail
      refine bodyPost_ret (v := .agg #[.int .i64 6, .int .i64 cl, .int .i64 sq, .int .i64 (1 + y35), .int .i64 y37, .int .i64 0, .bool false, .string ⟨#[]⟩, .string ⟨#[]⟩]) (by simp [results, Tryd.results12, go_sem, zS]) rfl ⟨_, _, _, _, _, _, _, p + 4, s37, rfl, ?_, by omega, unhide Q37, ?_, ?_⟩
      · unfold cmdB; rw [unhide HCL, unhide HSQ]; simp [kindB, isWindowB, isSplitB, isKillB, isMoveB, isOutputB, isOwnB, isResizeB, isRenameB, jst, inB, sizeB, ]; omega
      · iterate 9 refine ArrAt.other ?_ (show g ≠ w.heap.size by omega) _ _
        exact unhide S38
      · iterate 9 refine grown_set ?_ (Nat.le_refl _) _ _
        exact unhide G38
    · skip
      have C39 : Hid (BF w1.heap.size #[.int .i64 7, .int .i64 cl, .int .i64 sq, .int .i64 0, .int .i64 0, .int .i64 0, .bool false, .string ⟨#[]⟩, .string ⟨#[]⟩] _) := unhide C3
      clear C3
      have bS := (unhide C39).S
      have bF := (unhide C39).F
      go_wp2_with fail
      clear bS bF
      refine (snextI 17 g a cap l (p + 2) s3 (by omega) (by omega) hl (by omega) (unhide Q3) _ (unhide S3) ((unhide HR).grown (unhide G3) (unhide HGN)) (unhide HGN)).mono ?_
      rintro e v40 ⟨y40, s40, rfl, hy40, hs40, hA40, hG40⟩
      have Z40 := hide ((unhide Z3).grown hG40 (by intro e; injection e with e; omega))
      have C40 := hide ((unhide C39).grown hG40 (by intro e; injection e with e; omega))
      have G40 := hide (World.grownBy.trans' (unhide G3) hG40)
      clear Z3 G3 C39
      have S40 := hide hA40
      have Q40 := hide hs40
      clear S3 Q3
      clear hA40 hs40 hG40
      have Z41 := hide ((unhide Z40).far ⟨w1.heap.size, 4, none⟩ (.int .i64 (8 + y40)) (by show w1.heap.size ≠ w.heap.size; omega))
      have C41 : Hid (BF w1.heap.size #[.int .i64 7, .int .i64 cl, .int .i64 sq, .int .i64 0, .int .i64 (8 + y40), .int .i64 0, .bool false, .string ⟨#[]⟩, .string ⟨#[]⟩] _) := (unhide C40).set 4 (by simp) (.int .i64 (8 + y40))
      have G41 := hide (grown_set (unhide G40) (Nat.le_of_lt hB) 4 (.int .i64 (8 + y40)))
      have S41 := hide (ArrAt.other (unhide S40) (show g ≠ w1.heap.size by omega) 4 (.int .i64 (8 + y40)))
      clear Z40 G40 S40
      have bS := (unhide C41).S
      have bF := (unhide C41).F
      have pS := (unhide C40).S
      have pF := (unhide C40).F
      go_wp2_with fail
      clear bS bF pS pF C40
      refine (snextI 7 g a cap l (p + 3) s40 (by omega) (by omega) hl (by omega) (unhide Q40) _ (unhide S41) ((unhide HR).grown (unhide G41) (unhide HGN)) (unhide HGN)).mono ?_
      rintro e v42 ⟨y42, s42, rfl, hy42, hs42, hA42, hG42⟩
      have Z42 := hide ((unhide Z41).grown hG42 (by intro e; injection e with e; omega))
      have C42 := hide ((unhide C41).grown hG42 (by intro e; injection e with e; omega))
      have G42 := hide (World.grownBy.trans' (unhide G41) hG42)
      clear Z41 G41 C41
      have S42 := hide hA42
      have Q42 := hide hs42
      clear S41 Q40
      clear hA42 hs42 hG42
      have Z43 := hide ((unhide Z42).far ⟨w1.heap.size, 5, none⟩ (.int .i64 (4 + y42)) (by show w1.heap.size ≠ w.heap.size; omega))
      have C43 : Hid (BF w1.heap.size #[.int .i64 7, .int .i64 cl, .int .i64 sq, .int .i64 0, .int .i64 (8 + y40), .int .i64 (4 + y42), .bool false, .string ⟨#[]⟩, .string ⟨#[]⟩] _) := (unhide C42).set 5 (by simp) (.int .i64 (4 + y42))
      have G43 := hide (grown_set (unhide G42) (Nat.le_of_lt hB) 5 (.int .i64 (4 + y42)))
      have S43 := hide (ArrAt.other (unhide S42) (show g ≠ w1.heap.size by omega) 5 (.int .i64 (4 + y42)))
      clear Z42 G42 S42
      have bS := (unhide C43).S
      have zS := (unhide Z43).S
      have zF := (unhide Z43).F
      have bF := (unhide C43).F
      have pS := (unhide C42).S
      have pF := (unhide C42).F
      have hne : ¬ w1.heap.size = w.heap.size := by omega
      have hne2 : ¬ w.heap.size = w1.heap.size := by omega
      go_wp2_with fail
      refine bodyPost_ret (v := .agg #[.int .i64 7, .int .i64 cl, .int .i64 sq, .int .i64 0, .int .i64 (8 + y40), .int .i64 (4 + y42), .bool false, .string ⟨#[]⟩, .string ⟨#[]⟩]) (by simp [results, Tryd.results12, go_sem, zS]) rfl ⟨_, _, _, _, _, _, _, p + 4, s42, rfl, ?_, by omega, unhide Q42, ?_, ?_⟩
      · unfold cmdB; rw [unhide HCL, unhide HSQ]; simp [kindB, isWindowB, isSplitB, isKillB, isMoveB, isOutputB, isOwnB, isResizeB, isRenameB, jst, inB, sizeB, ]; omega
      · iterate 9 refine ArrAt.other ?_ (show g ≠ w.heap.size by omega) _ _
        exact unhide S43
      · iterate 9 refine grown_set ?_ (Nat.le_refl _) _ _
        exact unhide G43
    · skip
      have C44 : Hid (BF w1.heap.size #[.int .i64 8, .int .i64 cl, .int .i64 sq, .int .i64 0, .int .i64 0, .int .i64 0, .bool false, .string ⟨#[]⟩, .string ⟨#[]⟩] _) := unhide C3
      clear C3
      have bS := (unhide C44).S
      have bF := (unhide C44).F
      go_wp2_with fail
      clear bS bF
      refine (swinname g a cap l (p + 2) s3 hl (by omega) (unhide Q3) _ (unhide S3) ((unhide HR).grown (unhide G3) (unhide HGN)) (unhide HGN)).mono ?_
      rintro e v45 ⟨y45, hy45, s45, rfl, hs45, hA45, hG45⟩
      have Z45 := hide ((unhide Z3).grown hG45 (by intro e; injection e with e; omega))
      have C45 := hide ((unhide C44).grown hG45 (by intro e; injection e with e; omega))
      have G45 := hide (World.grownBy.trans' (unhide G3) hG45)
      clear Z3 G3 C44
      have S45 := hide hA45
      have Q45 := hide hs45
      clear S3 Q3
      clear hA45 hs45 hG45
      obtain ⟨N, hN⟩ : ∃ N, N = textsW[y45] := ⟨_, rfl⟩
      have hW : wnB N = true := by rw [hN]; exact texts_wn (by decide +kernel) _ hy45
      rw [← hN]
      clear hN
      have Z46 := hide ((unhide Z45).far ⟨w1.heap.size, 7, none⟩ (.string N) (by show w1.heap.size ≠ w.heap.size; omega))
      have C46 : Hid (BF w1.heap.size #[.int .i64 8, .int .i64 cl, .int .i64 sq, .int .i64 0, .int .i64 0, .int .i64 0, .bool false, .string N, .string ⟨#[]⟩] _) := (unhide C45).set 7 (by simp) (.string N)
      have G46 := hide (grown_set (unhide G45) (Nat.le_of_lt hB) 7 (.string N))
      have S46 := hide (ArrAt.other (unhide S45) (show g ≠ w1.heap.size by omega) 7 (.string N))
      clear Z45 G45 S45
      have HLc : w1.heap.size < (v45.setCell ⟨w1.heap.size, 7, none⟩ (.string N)).heap.size := (unhide C46).lt
      have HLd : w1.heap.size < v45.heap.size := by have := HLc; rwa [World.size_setCell] at this
      have hRC : ∀ k (h : k < textsR.length), ((v45.setCell ⟨w1.heap.size, 7, none⟩ (.string N)).alloc (.cells #[.string ⟨#[109, 97, 105, 110]⟩, .string ⟨#[111, 116, 104, 101, 114]⟩, .string ⟨#[108, 111, 103, 115]⟩] 9)).cell? ⟨v45.heap.size, k, none⟩ = some (.string textsR[k]) := by have := textsR_cells (v45.setCell ⟨w1.heap.size, 7, none⟩ (.string N)) 9; rwa [World.size_setCell] at this
      have Z47 := hide ((unhide Z46).alloc (.cells #[.string ⟨#[109, 97, 105, 110]⟩, .string ⟨#[111, 116, 104, 101, 114]⟩, .string ⟨#[108, 111, 103, 115]⟩] 9))
      have C47 := hide ((unhide C46).alloc (.cells #[.string ⟨#[109, 97, 105, 110]⟩, .string ⟨#[111, 116, 104, 101, 114]⟩, .string ⟨#[108, 111, 103, 115]⟩] 9))
      have G47 := hide (World.grownBy.trans' (unhide G46) (grown_alloc _ (.cells #[.string ⟨#[109, 97, 105, 110]⟩, .string ⟨#[111, 116, 104, 101, 114]⟩, .string ⟨#[108, 111, 103, 115]⟩] 9) (some g)))
      have S47 := hide (ArrAt.alloc (unhide S46) (.cells #[.string ⟨#[109, 97, 105, 110]⟩, .string ⟨#[111, 116, 104, 101, 114]⟩, .string ⟨#[108, 111, 103, 115]⟩] 9))
      clear Z46 G46 S46 C46
      have HPK := hide (spick g v45.heap.size 3 textsR a cap l (p + 3) s45 (by decide) (by decide) hl (by omega) (unhide Q45) ((v45.setCell ⟨w1.heap.size, 7, none⟩ (.string N)).alloc (.cells #[.string ⟨#[109, 97, 105, 110]⟩, .string ⟨#[111, 116, 104, 101, 114]⟩, .string ⟨#[108, 111, 103, 115]⟩] 9)) (by simp) (by omega) hRC (unhide S47) ((unhide HR).grown (unhide G47) (unhide HGN)) (unhide HGN))
      clear hRC
      have bS := (unhide C47).S
      have bF := (unhide C47).F
      have pS := (unhide C45).S
      have pF := (unhide C45).F
      go_wp2_with fail
      clear bS bF pS pF C45
      refine (unhide HPK).mono ?_
      rintro e v48 ⟨y48, hy48, s48, rfl, hs48, hA48, hG48⟩
      have Z48 := hide ((unhide Z47).grown hG48 (by intro e; injection e with e; omega))
      have C48 := hide ((unhide C47).grown hG48 (by intro e; injection e with e; omega))
      have G48 := hide (World.grownBy.trans' (unhide G47) hG48)
      clear Z47 G47 C47
      have S48 := hide hA48
      have Q48 := hide hs48
      clear S47 Q45
      clear hA48 hs48 hG48
      clear HPK
      obtain ⟨M, hM⟩ : ∃ M, M = textsR[y48] := ⟨_, rfl⟩
      have hV : wnB M = true := by rw [hM]; exact texts_wn (by decide +kernel) _ hy48
      rw [← hM]
      clear hM
      have Z49 := hide ((unhide Z48).far ⟨w1.heap.size, 8, none⟩ (.string M) (by show w1.heap.size ≠ w.heap.size; omega))
      have C49 : Hid (BF w1.heap.size #[.int .i64 8, .int .i64 cl, .int .i64 sq, .int .i64 0, .int .i64 0, .int .i64 0, .bool false, .string N, .string M] _) := (unhide C48).set 8 (by simp) (.string M)
      have G49 := hide (grown_set (unhide G48) (Nat.le_of_lt hB) 8 (.string M))
      have S49 := hide (ArrAt.other (unhide S48) (show g ≠ w1.heap.size by omega) 8 (.string M))
      clear Z48 G48 S48
      have bS := (unhide C49).S
      have zS := (unhide Z49).S
      have zF := (unhide Z49).F
      have bF := (unhide C49).F
      have pS := (unhide C48).S
      have pF := (unhide C48).F
      have hne : ¬ w1.heap.size = w.heap.size := by omega
      have hne2 : ¬ w.heap.size = w1.heap.size := by omega
      go_wp2_with fail
      refine bodyPost_ret (v := .agg #[.int .i64 8, .int .i64 cl, .int .i64 sq, .int .i64 0, .int .i64 0, .int .i64 0, .bool false, .string N, .string M]) (by simp [results, Tryd.results12, go_sem, zS]) rfl ⟨_, _, _, _, _, _, _, p + 4, s48, rfl, ?_, by omega, unhide Q48, ?_, ?_⟩
      · unfold cmdB; rw [unhide HCL, unhide HSQ]; simp [kindB, isWindowB, isSplitB, isKillB, isMoveB, isOutputB, isOwnB, isResizeB, isRenameB, jst, inB, sizeB, hW, hV]
      · iterate 9 refine ArrAt.other ?_ (show g ≠ w.heap.size by omega) _ _
        exact unhide S49
      · iterate 9 refine grown_set ?_ (Nat.le_refl _) _ _
        exact unhide G49
set_option maxHeartbeats 400000 in
set_option maxRecDepth 100000 in
theorem scommandOf (cl sq : Int) (hcl : inB cl 0 200 = true) (hsq : inB sq 1 60000 = true) (a : Option Addr) (cap : Nat) (l : List UInt8) (hl : l.length ≤ 1048600) (w : World) (hr : Row8 w a l) :
    Calls Tryd.prog 4 #[.slice a l.length cap, .int .i64 cl, .int .i64 sq] w fun e w' => ∃ (k pn n ep : Int) (r : Bool) (nm dt : ByteArray), e = .returned (.agg #[.int .i64 k, .int .i64 cl, .int .i64 sq, .int .i64 pn, .int .i64 n, .int .i64 ep, .bool r, .string nm, .string dt]) ∧ cmdB k cl sq pn n ep r nm dt = true ∧ Below w.heap.size w w' := by
  obtain ⟨s0, hs0⟩ : ∃ s0 : Nat, s0 = l.length % 1000 := ⟨_, rfl⟩
  have k1 : (l.length : Int).tmod 1000 = (s0 : Int) := by rw [Int.tmod_eq_emod_of_nonneg (by omega)]; omega
  have k2 : (l.length : Int) % 1000 = (s0 : Int) := by omega
  have RS := hide (BF.new w #[.int .i64 0, .int .i64 0, .int .i64 0, .int .i64 0, .int .i64 0, .int .i64 0, .bool false, .string ⟨#[]⟩, .string ⟨#[]⟩] 24)
  obtain ⟨w0, hw0⟩ : ∃ w0, w0 = w.alloc (.cells #[.int .i64 0, .int .i64 0, .int .i64 0, .int .i64 0, .int .i64 0, .int .i64 0, .bool false, .string ⟨#[]⟩, .string ⟨#[]⟩] 24) := ⟨_, rfl⟩
  obtain ⟨w1, hw1⟩ : ∃ w1, w1 = w0.alloc (.cells #[.slice a l.length cap, .int .i64 0, .int .i64 (s0 : Int)] 51) := ⟨_, rfl⟩
  have hz0 : w0.heap.size = w.heap.size + 1 := by rw [hw0]; simp
  have hb0 : Below w.heap.size w w0 := by rw [hw0]; exact (Below.refl _ _).alloc (Nat.le_refl _) _
  have hb1 : Below w.heap.size w w1 := by rw [hw1]; exact hb0.alloc hb0.size _
  have hA : SrcAt w1 w0.heap.size a cap l 0 s0 := by rw [hw1]; exact arr_new w0 [.slice a l.length cap, .int .i64 0, .int .i64 (s0 : Int)] _
  have hap : ApartOf a l w0.heap.size := by
    rcases hr with h | ⟨b, off, e, hb, _⟩
    · exact .inl h
    · refine .inr (fun x hx => ?_)
      rw [e] at hx; injection hx with hx; subst hx; exact Nat.ne_of_lt (by show b < _; omega)
  have HH := hide (scommand cl sq hcl hsq w0.heap.size a cap l 0 s0 hl (by omega) (by omega) w1 hA (hr.below hb1) hap)
  rw [hz0] at HH
  rw [← hw0] at RS
  have RS1 : Hid (BF w.heap.size #[.int .i64 0, .int .i64 0, .int .i64 0, .int .i64 0, .int .i64 0, .int .i64 0, .bool false, .string ⟨#[]⟩, .string ⟨#[]⟩] w1) := by show BF _ _ _; rw [hw1]; exact (unhide RS).alloc _
  have HB1 := hide hb1
  have hw0' := hw0.symm
  have hw1' := hw1.symm
  clear hr hap hb1 hA hw1 hs0 hw0 hb0 RS
  go_enter Tryd.func4, Tryd.ntmps4
  go_wp2_with (go_at_call 11; refine (ssource a cap l s0 k1 k2 _).mono ?_; rintro e w2 ⟨rfl, hw2⟩; rw [hw1'] at hw2; subst w2)
  refine (unhide HH).mono ?_
  rintro e w3 ⟨k, pn, n, ep, r, nm, dt, p', s', rfl, hok, -, -, -, hg⟩
  have HB3 : Hid (Below w.heap.size w w3) := ⟨hg.os.trans (unhide HB1).os, hg.tape.trans (unhide HB1).tape, hg.output.trans (unhide HB1).output, Nat.le_trans (unhide HB1).size hg.size, fun k hk => (hg.block k (Nat.lt_of_lt_of_le hk (unhide HB1).size) (by intro e; injection e with e; omega)).trans ((unhide HB1).block k hk)⟩
  have RS3 := hide ((unhide RS1).grown hg (by intro e; injection e with e; omega))
  have HOK := hide hok
  have zS := (unhide RS3).S
  have zF := (unhide RS3).F
  clear hg hok HH RS1
  go_wp2_with fail
  refine bodyPost_ret (v := .agg #[.int .i64 k, .int .i64 cl, .int .i64 sq, .int .i64 pn, .int .i64 n, .int .i64 ep, .bool r, .string nm, .string dt]) (by simp [results, Tryd.results4, go_sem, zS]) rfl ⟨k, pn, n, ep, r, nm, dt, rfl, unhide HOK, ?_⟩
  iterate 9 refine Below.setCell ?_ (by exact Nat.le_refl _) _
  exact unhide HB3
end Go.Proofs.YtoplijjddhecgaaDoor
