/- Bytes cut into pieces: what the specification answers. -/
import Derived.Test.YtffnehaccgfnjaaChkM
import Derived.Test.YtffnehaccgfnjaaFrbS
import Derived.Test.YtffnehaccgfnjaaInS
import Derived.Test.YtffnehaccgfnjaaMinM
import Derived.Lib.SmallJoins
namespace Go.Proofs.Ytffnehaccgfnjaa
open Go.ChangeShapes Go.WideShapes Go.ChangeAt Go.RowKit
set_option linter.unusedVariables false
attribute [local go_sem ↓] run_mn
theorem mn_end (n i s m : Nat) (hm : m = min s (n - i)) (hi : i < n) : mn (n : Int) ((i : Int) + (s : Int)) = (i : Int) + (m : Int) := by
  unfold mn; split <;> omega
set_option maxHeartbeats 4000000 in
set_option maxRecDepth 100000 in
theorem scut_ok (s : Nat) (h16 : 16 ≤ s) (h4 : s ≤ 4096) (cap n : Nat) (l : List UInt8) (HN : Hid (l.length = n)) (hn : n ≤ 65536) (hcap : n ≤ cap) (w : World) (a : Option Addr) (hr : RowV w a (B8 l)) :
    Calls Try.prog 4 #[.slice a n cap, .int .i64 (s : Int)] w fun e w' => ∃ v, e = .returned (.tuple #[v, .int .i64 0]) ∧ w'.ownsRow w.heap.size 9 1 v (pcN n s) (cS (cutS s l (pcN n s))) ∧ Below w.heap.size w w' := by
  have HR := hide hr
  clear hr
  have B0 := hide (Go.Joins.below_alloc1 w (.cells #[] 9))
  have Hin := in_yes (n := (s : Int)) (a := 16) (b := 4096) ⟨by omega, by omega⟩
  have hb1 : ¬ (65536 : Int) < (n : Int) := by omega
  go_enter Try.func4, Try.ntmps4
  go_wp2_with (go_at_call 12; refine (sin (s : Int) 16 4096 _).mono ?_; rintro e w1 ⟨rfl, hw⟩; subst w1; rw [Hin])
  obtain ⟨i0, hi, hz0, hz1, hz2⟩ := info_parts Try.infL9
  go_loopw [6, 7] (fun l0 i wr => ∃ (k j : Nat) (v : Value), k ≤ pcN n s ∧ j ≤ 65536 + 4096 ∧ Hid (j = k * s) ∧ i = .int .i64 (j : Int) ∧ l0 = v ∧ Hid (wr.ownsRow w.heap.size 9 1 v k (cS (cutS s l k))) ∧ Hid (Below w.heap.size w wr)) (fun _ i _ => n - (intOf i).toNat)
  case atStart => exact ⟨0, 0, _, by omega, by omega, (by show _ = _; omega), rfl, rfl, (by have h := World.ownsRow_lit (e := 9) (base := w.heap.size) (size := 1) w #[] 0 (by simp) (by unfold maxLen; omega) rfl; exact h), B0⟩
  case round =>
    obtain ⟨k, j, v, hk, hj, HJ, rfl, rfl, HO, B1⟩ := hrel
    by_cases hlt : j < n
    · have hkn : k + 1 ≤ pcN n s := (pc_lt n s k (by omega)).2 (by rw [← unhide HJ]; exact hlt)
      have hk6 : pcN n s ≤ 65536 := Nat.le_trans (pcN_le n s (by omega)) hn
      rcases rowV_8 (unhide HR) with h0 | ⟨b, off, rfl, hblt, hc⟩
      · have := unhide HN; rw [h0] at this; simp at this; omega
      obtain ⟨m, em⟩ : ∃ m, m = min s (n - j) := ⟨_, rfl⟩
      have hm1 : 1 ≤ m := by omega
      have hms : m ≤ s := by omega
      have hmn : m ≤ n - j := by omega
      have E1 := mn_end n j s m em hlt
      have HP : Hid (pcL s l k = (l.drop j).take m) := by show _ = _; rw [pcL_part s l k m (by rw [unhide HN, ← unhide HJ]; exact em), ← unhide HJ]
      have HPL : Hid ((pcL s l k).length = m) := by show _ = _; rw [pcL_len s l k m (by rw [unhide HN, ← unhide HJ]; exact em)]
      obtain ⟨d, ed⟩ : ∃ d : ByteArray, d = ⟨(pcL s l k).toArray⟩ := ⟨_, rfl⟩
      have hdl : d.data.toList = pcL s l k := by rw [ed]
      have hds : d.size = m := by rw [ed]; show (pcL s l k).toArray.size = m; simp; exact unhide HPL
      have hrow : Row8 wr (some ⟨b, off + j, none⟩) (pcL s l k) := by
        rw [unhide HP]
        refine row8_part (Nat.lt_of_lt_of_le hblt (unhide B1).size) (fun i h => ?_) j m (by rw [unhide HN]; omega)
        exact ((unhide B1).cell (p := ⟨b, off + i, none⟩) hblt).trans (hc i h)
      have hcv : (convert 22 9 (.slice (some ⟨b, off + j, none⟩) m (cap - j))).run Try.prog wr = .ok (.string d) wr := by
        have := conv_row8 (P := Try.prog) (cap := cap - j) Try.underlying22 Try.underlying5 Try.underlying9 hrow
        rw [unhide HPL, ← ed] at this
        exact this
      obtain ⟨g, eg⟩ : ∃ g : ByteArray, g = pcT s l k := ⟨_, rfl⟩
      have HG : Hid (g = ⟨(frmB d.data.toList).toArray⟩) := by show _ = _; rw [eg, hdl]; rfl
      have HS : Hid (cS (cutS s l (k + 1)) = cS (cutS s l k) ++ [.string g]) := by show _ = _; rw [cutS_snoc, cS_app, eg]; rfl
      have HJ2 : Hid (j + s = (k + 1) * s) := by show _ = _; rw [Nat.succ_mul, unhide HJ]
      have T1 := sframe1 d (by omega) (by omega) wr
      have HT1 := hide T1
      have hlt' : (j : Int) < (n : Int) := by omega
      clear T1 hc hrow em hdl eg ed HP HPL
      go_wp2_with (first
        | (go_at_call 13; refine (unhide HT1).mono ?_; rintro e w2 ⟨v2, rfl, o2, hb2⟩; obtain ⟨a2, c2, rfl, -⟩ := own_rowV o2; have hcv2 := conv_own (P := Try.prog) Try.underlying22 Try.underlying5 Try.underlying9 o2; rw [← unhide HG] at hcv2; have HO2 := hide ((held_of (unhide HO)).below hb2 (Nat.le_refl _)); have HB2 := hide ((unhide B1).trans (hb2.mono (unhide B1).size)); have TOK : True := trivial; clear o2 hb2 HT1)
        | (have hq := TOK; at_builtin; refine wpList_append_lies _ rfl (.tmp 24) (.tmp 37) 23 rfl w.heap.size 9 i0 (.string ⟨#[]⟩) 1 16 Try.underlying23 hi hz0 hz1 hz2 rfl (by decide) _ _ _ rfl ((unhide HO2).own.alloc (.cells #[.string g] 9)) ⟨w2.heap.size, 0, none⟩ 1 1 [.string g] rfl rfl (by have := news_new w2 [.string g] 9; exact this) (by intro u hu; simp at hu; subst hu; rfl) (by decide) (by unfold maxLen; omega) (by omega) (by have := (unhide HB2).size; simp; omega) _ rfl ?_; intro g7 c7 w7 hown7 hgrow7 hat7 hlt7; have HO7 := hide hown7; have HB7 := hide (((unhide HB2).alloc (unhide HB2).size (.cells #[.string g] 9)).grown hgrow7 (by have := (unhide HB2).size; simp; omega) (fun j hj => by have := ((unhide HO2).own.lt j hj).1; omega)); clear hown7 hgrow7 hat7 hlt7 TOK))
      go_roundw
      case rel => exact ⟨k + 1, j + s, _, by omega, by omega, HJ2, by go_num, rfl, by show World.ownsRow _ _ _ _ _ _ _; rw [unhide HS]; exact unhide HO7, HB7⟩
      case measure => simp [intOf]; omega
    · have hkn : ¬ k < pcN n s := fun h => hlt (by have := (pc_lt n s k (by omega)).1 h; rw [unhide HJ]; exact this)
      obtain rfl : k = pcN n s := by omega
      obtain ⟨aF, cF, rfl, -⟩ := own_rowV (unhide HO)
      go_wp2_with fail
      go_ret2
      exact ⟨_, rfl, unhide HO, unhide B1⟩
set_option maxHeartbeats 1000000 in
set_option maxRecDepth 100000 in
theorem scut (z : Int) (a : Option Addr) (cap : Nat) (l : List UInt8) (r : List ByteArray) (c : Int) (hr : r = cutL z l) (hc : c = cutC z l) (hl : l.length ≤ 1048576) (hcap : l.length ≤ cap) (w : World) (hrow : RowV w a (B8 l)) :
    Calls Try.prog 4 #[.slice a l.length cap, .int .i64 z] w fun e w' => ∃ v, e = .returned (.tuple #[v, .int .i64 c]) ∧ w'.ownsRow w.heap.size 9 1 v r.length (cS r) ∧ Below w.heap.size w w' := by
  by_cases big : 65536 < l.length
  · obtain rfl : c = 2 := by rw [hc, cutC, if_pos big]
    obtain rfl : r = [] := by rw [hr, cutL, if_pos big]
    have B2 := hide (Go.Joins.below_alloc1 w (.cells #[] 9))
    clear hr hc
    go_enter Try.func4, Try.ntmps4
    go_wp2_with fail
    go_ret2
    exact ⟨_, rfl, World.ownsRow_lit (e := 9) (base := w.heap.size) (size := 1) w #[] 0 (by simp) (by unfold maxLen; omega) rfl, unhide B2⟩
  cases hin : inB z 16 4096 with
  | false =>
    obtain rfl : c = 4 := by rw [hc, cutC, if_neg big, hin]; rfl
    obtain rfl : r = [] := by rw [hr, cutL, if_neg big, hin]; rfl
    have B2 := hide (Go.Joins.below_alloc1 w (.cells #[] 9))
    have big2 : ¬ (65536 : Int) < (l.length : Int) := by omega
    clear hr hc
    go_enter Try.func4, Try.ntmps4
    go_wp2_with (go_at_call 12; refine (sin z 16 4096 _).mono ?_; rintro e w1 ⟨rfl, hw⟩; subst w1; rw [hin])
    go_ret2
    exact ⟨_, rfl, World.ownsRow_lit (e := 9) (base := w.heap.size) (size := 1) w #[] 0 (by simp) (by unfold maxLen; omega) rfl, unhide B2⟩
  | true =>
    obtain rfl : c = 0 := by rw [hc, cutC, if_neg big, hin]; rfl
    have h3 : 16 ≤ z ∧ z ≤ 4096 := by have := hin; unfold inB at this; exact of_decide_eq_true this
    obtain ⟨s, rfl⟩ : ∃ s : Nat, z = (s : Int) := ⟨z.toNat, by omega⟩
    obtain rfl : r = cutS s l (pcN l.length s) := by rw [hr, cutL, if_neg big, hin]; simp
    rw [cutS_len]
    exact scut_ok s (by omega) (by omega) cap l.length l (hide rfl) (by omega) hcap w a hrow
end Go.Proofs.Ytffnehaccgfnjaa
