/- cellsText: what the program answers. -/
import Derived.Test.YtjdkafcplnghlaaTxN
import Derived.Test.YtjdkafcplnghlaaCelM
namespace Go.Proofs.Ytjdkafcplnghlaa
open Go.ChangeShapes Go.WideShapes Go.ChangeAt Go.RowKit
set_option linter.unusedVariables false
theorem Try.infR21 : (Try.prog.info? 21).map (fun i => (i.zero, i.size, i.bytes)) = some (some (.int .i32 0), 1, 4) := by kernel_rfl
theorem conv_runes {w : World} {base : Nat} {v : Value} {l : List Int} (h : w.ownsRow base 21 1 v l.length (cR l)) : (convert 60 9 v).run Try.prog w = .ok (.string (runesBytes l)) w := by
  rcases h.2 with ⟨rfl, h0⟩ | ⟨g, cap, cur, rfl, _, hg, _, _, _, ht⟩
  · obtain rfl : l = [] := List.length_eq_zero_iff.1 h0
    exact run_convert_runes_nil w _ _ _ 0 0 Try.underlying60 Try.underlying21 Try.underlying9
  · have := run_convert_runes (P := Try.prog) w 60 9 21 ⟨g, 0, none⟩ l.length cap l (Nat.le_refl _) Try.underlying60 Try.underlying21 Try.underlying9 (fun j hj => World.ownsRow.cells h rfl j _ (by simp [cR, hj]))
    rw [List.take_length] at this
    exact this
theorem wrap32' (n : Int) (h0 : 0 ≤ n) (h1 : n ≤ 1114111) : IntKind.i32.wrap n = n := by
  simp only [IntKind.wrap, IntKind.signed, IntKind.bits]
  simp
  omega
set_option maxHeartbeats 2000000 in
set_option maxRecDepth 100000 in
theorem icelltext (b off W cap : Nat) (r : List (Int × Int)) (rl : r.length = W) (hW : 0 < W ∧ W ≤ 24) (hcap : W ≤ cap) (hcell : ∀ q (h : q < r.length), cellB r[q] = true) (w : World) (hb : b < w.heap.size) (hr : ∀ i u, (cP r)[i]? = some u → w.cell? ⟨b, off + i, none⟩ = some u) :
    Calls Try.prog 25 #[.slice (some ⟨b, off, none⟩) W cap] w fun e w' => e = .returned (.string (rowT r W)) ∧ Below w.heap.size w w' := by
  obtain ⟨i0, hi, hz0, hz1, hz2⟩ := info_parts Try.infR21
  have HX : Hid (∀ q (h : q < r.length), ∃ x z : Nat, r[q].1 = (x : Int) ∧ x ≤ 1114111 ∧ w.cell? ⟨b, off + q * 2, none⟩ = some (.int .i64 (x : Int)) ∧ w.cell? ⟨b, off + q * 2 + 1, none⟩ = some (.int .i64 (z : Int))) := fun q hq => by
    have x0 := hr _ _ (cP_at r q hq).1
    have x1 := hr _ _ (cP_at r q hq).2
    have hcb := hcell q hq
    unfold cellB at hcb
    rw [Bool.and_eq_true] at hcb
    have h1 : 32 ≤ r[q].1 ∧ r[q].1 ≤ 1114111 ∧ r[q].1 ≠ 127 ∧ ¬ (55296 ≤ r[q].1 ∧ r[q].1 ≤ 57343) := of_decide_eq_true hcb.1
    have h2 : 0 ≤ r[q].2 ∧ r[q].2 ≤ 127 := of_decide_eq_true hcb.2
    refine ⟨r[q].1.toNat, r[q].2.toNat, by omega, by omega, ?_, ?_⟩
    · rw [x0]; congr 2; omega
    · rw [show off + q * 2 + 1 = off + (q * 2 + 1) from by omega, x1]; congr 2; omega
  have HRL := hide rl
  have HB2 := hide (Below.refl w.heap.size w)
  clear hr hcell rl
  go_enter Try.func25, Try.ntmps25
  go_wp2_with fail
  go_loopw [0] (fun v wr => ∃ k : Nat, k ≤ W ∧ v = .slice (some ⟨b, off, none⟩) k cap ∧ Hid (trim r k = trim r W) ∧ Hid (Below w.heap.size w wr)) (fun v _ => (match v with | .slice _ k _ => k | _ => 0))
  case atStart => exact ⟨W, Nat.le_refl _, rfl, rfl, HB2⟩
  case round =>
    clear HB2
    obtain ⟨k, hk, rfl, HTR, HB2⟩ := hrel
    by_cases h0 : k = 0
    · subst h0
      have HTK : Hid (0 = trim r W) := by show _ = _; rw [← unhide HTR]; rfl
      clear HTR
      go_wp2_with fail
      go_loopw [3, 26] (fun v i wr => ∃ j : Nat, j ≤ 0 ∧ i = .int .i64 j ∧ Hid (wr.ownsRow w.heap.size 21 1 v j (cR (firsts r j))) ∧ Hid (Below w.heap.size w wr)) (fun _ i _ => 0 - (intOf i).toNat)
      case atStart => exact ⟨0, Nat.zero_le _, rfl, World.ownsRow_nil _ _ _ _, HB2⟩
      case round =>
        obtain ⟨j, hj, rfl, HO, HB⟩ := hrel
        have ej : j = 0 := by omega
        subst ej
        have hcv := conv_runes (l := firsts r 0) (by rw [firsts_len r 0 (by rw [unhide HRL]; omega)]; exact unhide HO)
        have HV : Hid (rowT r W = runesBytes (firsts r 0)) := by show _ = _; unfold rowT; rw [← unhide HTK]
        go_wp2_with fail
        go_ret
        exact ⟨ret_string (unhide HV).symm, unhide HB⟩
    · obtain ⟨j, rfl⟩ : ∃ j, k = j + 1 := ⟨k - 1, by omega⟩
      have hjr : j < r.length := by rw [unhide HRL]; omega
      obtain ⟨x, z, ex, hx, y0, y1⟩ := unhide HX j hjr
      have hy0 : wr.cell? ⟨b, off + j * 2, none⟩ = some (.int .i64 (x : Int)) := ((unhide HB2).cell (p := ⟨b, off + j * 2, none⟩) hb).trans y0
      have hk1 : ((j + 1 : Nat) : Int) - 1 = (j : Int) := by omega
      have hk2 : (0 : Int) < ((j + 1 : Nat) : Int) := by omega
      by_cases hx32 : x = 32
      · have HTR2 : Hid (trim r j = trim r W) := by show _ = _; rw [← unhide HTR, trim_blank hjr (by rw [ex, hx32]; rfl)]
        subst hx32
        clear y0 y1 ex HTR
        go_wp2_with fail
        go_roundw
        case rel => exact ⟨j, by omega, by first | rfl | simp, HTR2, HB2⟩
        case measure => simp
      · have HTK : Hid (j + 1 = trim r W) := by show _ = _; rw [← unhide HTR, trim_not hjr (by rw [ex]; omega)]
        have hne : ((x : Int) == 32) = false := by rw [beq_eq_false_iff_ne]; omega
        clear y0 y1 ex HTR hx32
        go_wp2_with fail
        go_loopw [3, 26] (fun v i wr => ∃ q : Nat, q ≤ (j + 1) ∧ i = .int .i64 q ∧ Hid (wr.ownsRow w.heap.size 21 1 v q (cR (firsts r q))) ∧ Hid (Below w.heap.size w wr)) (fun _ i _ => (j + 1) - (intOf i).toNat)
        case atStart => exact ⟨0, Nat.zero_le _, rfl, World.ownsRow_nil _ _ _ _, HB2⟩
        case round =>
          obtain ⟨q, hj, rfl, HO, HB⟩ := hrel
          by_cases hlt : q < (j + 1)
          · have hqr : q < r.length := by rw [unhide HRL]; omega
            obtain ⟨x, z, ex, hx, y0, y1⟩ := unhide HX q hqr
            have hy0 : wr.cell? ⟨b, off + q * 2, none⟩ = some (.int .i64 (x : Int)) := ((unhide HB).cell (p := ⟨b, off + q * 2, none⟩) hb).trans y0
            have hy1 : wr.cell? ⟨b, off + q * 2 + 1, none⟩ = some (.int .i64 (z : Int)) := ((unhide HB).cell (p := ⟨b, off + q * 2 + 1, none⟩) hb).trans y1
            have HN : Hid (cR (firsts r (q + 1)) = cR (firsts r q) ++ [.int .i32 (x : Int)]) := by show _ = _; rw [firsts_snoc r q hqr, ex]; unfold cR; rw [List.map_append]; rfl
            have hw32 := wrap32' (x : Int) (by omega) (by omega)
            have hlt' : (q : Int) < (j : Int) + 1 := by omega
            have hown := unhide HO
            have hz := (unhide HB).size
            have HBC := hide ((unhide HB).alloc hz (.cells #[.int .i64 (x : Int), .int .i64 (z : Int)] 49))
            clear y0 y1 ex hqr
            go_wp2_with (at_builtin; refine wpList_append_lies _ rfl (.tmp 30) (.tmp 34) 60 rfl w.heap.size 21 i0 (.int .i32 0) 1 4 Try.underlying60 hi hz0 hz1 hz2 rfl (by decide) _ _ _ rfl ((hown.alloc (.cells #[.int .i64 (x : Int), .int .i64 (z : Int)] 49)).alloc (.cells #[.int .i32 (x : Int)] 21)) ⟨wr.heap.size + 1, 0, none⟩ 1 1 [.int .i32 (x : Int)] rfl rfl (by have h := news_new (wr.alloc (.cells #[.int .i64 (x : Int), .int .i64 (z : Int)] 49)) [.int .i32 (x : Int)] 21; rw [World.size_alloc] at h; exact h) (by intro u hu; simp at hu; subst hu; rfl) (by decide) (by unfold maxLen; omega) (by omega) (by simp; omega) _ rfl ?_; intro g2 c2 w3 hown2 hgrow2 hat2 hlt2; have HB3 := hide (below_app (unhide HBC) (by simp; omega) (hown.alloc _) (Nat.le_refl _) hgrow2); have HO3 := hide hown2; clear hown2 hgrow2 hat2 hlt2)
            go_roundw
            case rel => exact ⟨q + 1, by omega, by go_num, by show World.ownsRow _ _ _ _ _ _ _; rw [unhide HN]; exact unhide HO3, HB3⟩
            case measure => simp [intOf]; omega
          · have ej : q = j + 1 := by omega
            subst ej
            have hcv := conv_runes (l := firsts r (j + 1)) (by rw [firsts_len r (j + 1) (by rw [unhide HRL]; omega)]; exact unhide HO)
            have HV : Hid (rowT r W = runesBytes (firsts r (j + 1))) := by show _ = _; unfold rowT; rw [← unhide HTK]
            go_wp2_with fail
            go_ret
            exact ⟨ret_string (unhide HV).symm, unhide HB⟩
end Go.Proofs.Ytjdkafcplnghlaa
