/- Rows of a view: what the program says of them. -/
import Derived.Test.YtblhediekdeffaaDoorZG5
import Derived.Test.YtblhediekdeffaaDoorZCofI
import Derived.Test.YtblhediekdeffaaDoorZG11
import Derived.Lib.ConvBytes
import Derived.Deep.LoopGhost
import Derived.WalkMore
namespace Go.Proofs.YtblhediekdeffaaDoor
open Go.ChangeShapes Go.WideShapes Go.ChangeAt Go.RowKit
set_option linter.unusedVariables false
theorem row_pr {w : World} {b off : Nat} {l : List (Int × Int)} (hc : ∀ i u, (cP l)[i]? = some u → w.cell? ⟨b, off + i, none⟩ = some u) (k : Nat) (h : k < l.length) :
    w.cell? ⟨b, off + k * 2, none⟩ = some (.int .i64 l[k].1) ∧ w.cell? ⟨b, off + k * 2 + 1, none⟩ = some (.int .i64 l[k].2) :=
  ⟨hc _ _ (cP_at l k h).1, hc _ _ (cP_at l k h).2⟩
theorem to_bytesV (w : World) (s : ByteArray) : ∃ w' cap, (convert 9 22 (.string s)).run Tryd.prog w = .ok (.slice (some ⟨w.heap.size, 0, none⟩) s.size cap) w' ∧ w.heap.size < w'.heap.size ∧ (∀ i (h : i < s.data.toList.length), w'.cell? ⟨w.heap.size, 0 + i, none⟩ = some (.int .u8 (s.data.toList[i].toNat : Int))) ∧ s.size ≤ cap ∧ Below w.heap.size w w' := by
  refine ⟨_, _, Go.Lib.run_convert_string_bytes w _ _ 5 s Tryd.underlying9 Tryd.underlying22 Tryd.underlying5, by rw [Go.Lib.bytesWorld_size]; omega, fun i h => ?_, grownCap_ge _ _ _ _, ⟨rfl, rfl, rfl, by rw [Go.Lib.bytesWorld_size]; omega, fun k hk => Go.Lib.bytesWorld_at_old w _ _ k hk⟩⟩
  have hi : i < s.size := by simpa using h
  rw [Nat.zero_add, Go.Lib.bytesWorld_cell w 5 s i hi]
  simp [hi]
set_option maxHeartbeats 4000000 in
set_option maxRecDepth 100000 in
theorem iright (a : Option Addr) (cap W n : Nat) (hW : W ≤ 24) (R : List ByteArray) (HN : Hid (R.length = n)) (hn : n ≤ 10) (HS : Hid (∀ k (h : k < R.length), R[k].size ≤ 1048576)) (q : Nat) (HQ : Hid (q = bset (rowAt W R) n)) (w : World) (hr : RowV w a (cS R)) :
    Calls Tryd.prog 45 #[.slice a n cap, .int .i64 (W : Int)] w fun e w' => e = .returned (.int .u16 (q : Int)) ∧ Below w.heap.size w w' := by
  have HR := hide hr
  have HCL := hide (cS_len R)
  have HW4 : Hid (4 * W ≤ 96) := by show _ ≤ _; omega
  obtain ⟨m, hm⟩ : ∃ m, m = 4 * W := ⟨_, rfl⟩
  have m1 : (W : Int) * 4 = (m : Int) := by omega
  have m2 : IntKind.i64.wrap (m : Int) = (m : Int) := wrapi _ (by omega) (by omega)
  have HM := hide hm
  clear hr hm
  have B0 := hide (Below.refl w.heap.size w)
  go_enter Tryd.func45, Tryd.ntmps45
  go_wp2_with fail
  go_step3
  go_wp2_with fail
  go_step3
  go_wp2_with fail
  go_loopg [5, 12] n (fun g s5 s12 wx => ∃ (k s : Nat), k + g = n ∧ s12 = .int .i64 (k : Int) ∧ s5 = .int .u16 (s : Int) ∧ Hid (s = bset (rowAt W R) k) ∧ Hid (Below w.heap.size w wx))
  case atStart => exact ⟨0, 0, by omega, rfl, rfl, rfl, B0⟩
  case round =>
    obtain ⟨k, s, hkg, rfl, rfl, HSS, HB⟩ := hrel
    cases gk with
    | zero =>
      obtain rfl : k = n := by omega
      have hkz : ¬ (k : Int) < (k : Int) := by omega
      obtain rfl : q = s := (unhide HQ).trans (unhide HSS).symm
      clear hkg
      go_wp2_with fail
      try rw [Exit.noGoto_ret]
      go_ret
      exact ⟨rfl, unhide HB⟩
    | succ g =>
      have hlt : k < n := by omega
      have hlt' : (k : Int) < (n : Int) := by omega
      have hkR : k < R.length := by rw [unhide HN]; exact hlt
      obtain ⟨b1, off, ha, hblt, hc⟩ := (unhide HR).at (by rw [unhide HCL]; omega)
      subst ha
      obtain ⟨r, hr⟩ : ∃ r, r = R[k] := ⟨_, rfl⟩
      have hc1 : wr.cell? ⟨b1, off + k, none⟩ = some (.string r) := by rw [hr]; exact ((unhide HB).cell (p := ⟨b1, off + k, none⟩) hblt).trans (hc k _ (cS_at R k hkR))
      have hrs : r.size ≤ 1048576 := by rw [hr]; exact unhide HS k hkR
      have HAT : Hid (rowAt W R k = rowB W r) := by show _ = _; rw [hr]; exact rowAt_at W R k hkR
      have hs10 : s < 1024 := by rw [unhide HSS]; exact bset_small _ _ (by omega)
      have HKG := hide hkg
      clear hc hr hkg
      by_cases hsz : r.size = m
      · have hne : ((r.size : Int) != (m : Int)) = false := by rw [hsz]; simp
        obtain ⟨w1, cap1, hconv, hlt1, hcells, hcap1, hbel1⟩ := to_bytesV wr r
        have HSZ := hide hsz
        have HB1 := hide ((unhide HB).trans (hbel1.mono (unhide HB).size))
        have HC1 := hide hcells
        have HLT1 := hide hlt1
        have HCAP1 := hide hcap1
        have hz1 := (unhide HB).size
        have HZ1 := hide hz1
        obtain ⟨d, hd⟩ : ∃ d, d = r.data.toList := ⟨_, rfl⟩
        have HD : Hid (d.length = r.size) := by show _ = _; rw [hd]; simp
        rw [← hd] at HC1
        have HDD := hide hd
        clear hcells hlt1 hcap1 hbel1 hz1 hsz hd
        go_wp2_with fail
        refine (icellsOf wr.heap.size 0 cap1 W r.size d HD (by rw [unhide HSZ, unhide HM]) (by omega) (unhide HCAP1) w1 (unhide HLT1) (unhide HC1)).mono ?_
        rintro e w2 ⟨v, rfl, hown2, hbel2⟩
        have HB2 := hide ((unhide HB1).trans (hbel2.mono (unhide HB1).size))
        obtain ⟨aF, cF, rfl, hrow2⟩ := ownZ_rowV hown2
        have HRW := hide hrow2
        have HCW := hide (cP_len (cells4 d W))
        have HCL4 := hide (cells4_len d W)
        clear hown2 hbel2 HC1 HLT1 HCAP1 HB1 hconv
        go_wp2_with fail
        go_loopg [26] W (fun g2 s26 wx => ∃ j : Nat, j + g2 = W ∧ s26 = .int .i64 (j : Int) ∧ Hid (∀ q (h : q < (cells4 d W).length), q < j → cellB (cells4 d W)[q] = true) ∧ Hid (Below w.heap.size w wx) ∧ Hid (RowV wx aF (cP (cells4 d W))))
        case atStart => exact ⟨0, by omega, rfl, fun q _ h => absurd h (Nat.not_lt_zero _), HB2, HRW⟩
        case round =>
          clear HB2 HRW
          obtain ⟨j, hjg, rfl, HF, HB3, HRW⟩ := hrel
          cases gk with
          | zero =>
            obtain rfl : j = W := by omega
            have hjz : ¬ (j : Int) < (j : Int) := by omega
            have HS2 : Hid (bset (rowAt j R) (k + 1) = (s ||| 2 ^ k)) := by show _ = _; rw [bset_yes (by rw [unhide HAT]; exact rowB_yes (by rw [unhide HSZ, unhide HM]) (by rw [← unhide HDD]; exact fun q hq => unhide HF q hq (by have := unhide HCL4; omega))), unhide HSS]
            obtain ⟨t, ht⟩ : ∃ t, t = (s ||| 2 ^ k) := ⟨_, rfl⟩
            have HT := hide ht
            have HS3 : Hid (t = bset (rowAt j R) (k + 1)) := by show _ = _; rw [unhide HS2, ht]
            clear hjg HF HSS HS2 ht
            go_wp2_with (go_at_call 58; refine (iwith s k t hs10 (by omega) HT _).mono ?_; rintro e w4 ⟨rfl, rfl⟩)
            go_roundg g
            case measure => omega
            case rel => exact ⟨k + 1, t, by have := unhide HKG; omega, by go_num, rfl, HS3, HB3⟩
          | succ g2 =>
            have hjlt : j < W := by omega
            have hjlt' : (j : Int) < (W : Int) := by omega
            have hj4 : j < (cells4 d W).length := by rw [unhide HCL4]; exact hjlt
            obtain ⟨b5, off5, ha5, hblt5, hc5⟩ := (unhide HRW).at (by rw [unhide HCW]; omega)
            subst ha5
            obtain ⟨x0, x1⟩ := row_pr hc5 j hj4
            obtain ⟨x, ex⟩ : ∃ x, x = (cells4 d W)[j].1 := ⟨_, rfl⟩
            obtain ⟨y, ey⟩ : ∃ y, y = (cells4 d W)[j].2 := ⟨_, rfl⟩
            obtain ⟨C, hC⟩ : ∃ C, C = cellB (x, y) := ⟨_, rfl⟩
            have HXY : Hid (cellB (cells4 d W)[j] = C) := by show _ = _; rw [hC, ex, ey]
            have HC := hide hC
            rw [← ex] at x0
            rw [← ey] at x1
            have HB4 := hide ((unhide HB3).alloc (unhide HB3).size (.cells #[.int .i64 x, .int .i64 y] 92))
            have HRW4 := hide ((unhide HRW).below (Go.Joins.below_alloc1 _ (.cells #[.int .i64 x, .int .i64 y] 92)))
            have HJG := hide hjg
            have HX0 := x0
            have HX1 := x1
            clear hc5 ex ey hC hjg
            cases C with
            | false =>
              have HS2 : Hid (s = bset (rowAt W R) (k + 1)) := by show _ = _; rw [bset_no (by rw [unhide HAT]; exact rowB_noD (unhide HDD) hj4 (unhide HXY))]; exact unhide HSS
              clear HSS HF
              go_wp2_with (go_at_call 60; refine (icellok x y false HC _).mono ?_; rintro e w4 ⟨rfl, hb4⟩; have HB5 := hide ((unhide HB4).trans (hb4.mono (unhide HB4).size)); clear hb4)
              go_roundg g
              case measure => omega
              case rel => exact ⟨k + 1, s, by have := unhide HKG; omega, by go_num, rfl, HS2, HB5⟩
            | true =>
              have HF2 : Hid (∀ q (h : q < (cells4 d W).length), q < j + 1 → cellB (cells4 d W)[q] = true) := fun q h hq => by
                by_cases e : q = j
                · subst e; exact unhide HXY
                · exact unhide HF q h (by omega)
              clear HF
              go_wp2_with (go_at_call 60; refine (icellok x y true HC _).mono ?_; rintro e w4 ⟨rfl, hb4⟩; have HB5 := hide ((unhide HB4).trans (hb4.mono (unhide HB4).size)); have HRW5 := hide ((unhide HRW4).below hb4); clear hb4)
              go_roundg g2
              case measure => omega
              case rel => exact ⟨j + 1, by have := unhide HJG; omega, by go_num, HF2, HB5, HRW5⟩
      · have hne : ((r.size : Int) != (m : Int)) = true := by rw [bne_iff_ne]; omega
        have HS2 : Hid (s = bset (rowAt W R) (k + 1)) := by show _ = _; rw [bset_no (by rw [unhide HAT]; exact rowB_len (by rw [← unhide HM]; exact hsz))]; exact unhide HSS
        clear hsz HSS
        go_wp2_with fail
        go_roundg g
        case measure => omega
        case rel => exact ⟨k + 1, s, by have := unhide HKG; omega, by go_num, rfl, HS2, HB⟩
end Go.Proofs.YtblhediekdeffaaDoor
