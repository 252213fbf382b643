/- MirrorText: what the specification answers. -/
import Derived.Test.YtmmafpadkopnpaaMrS
import Derived.Test.YtmmafpadkopnpaaMtI
import Derived.Test.YtmmafpadkopnpaaUtfS
namespace Go.Proofs.Ytmmafpadkopnpaa
open Go.ChangeShapes Go.WideShapes Go.ChangeAt Go.RowKit
set_option linter.unusedVariables false
set_option maxHeartbeats 2000000 in
set_option maxRecDepth 100000 in
theorem stext11 (W : Nat) (hW : W ≤ 24) (d : ByteArray) (hd : d.size = 4 * W) (r : List (Int × Int)) (er : r = cells4 d.data.toList W) (hcell : ∀ q (h : q < r.length), cellB r[q] = true) (w : World) :
    Calls Try.prog 15 #[.string d] w fun e w' => e = .returned (.string (rowT r W)) ∧ Below w.heap.size w w' := by
  have rl : r.length = W := by rw [er, cells4_len]
  have HX : Hid (∀ q (h : q < r.length), ∃ x : Nat, r[q].1 = (x : Int) ∧ x ≤ 1114111 ∧ runeB (x : Int) = true ∧ (x : Int) = ((ofBE (d.extract (4 * q) (4 * q + 3)).data.toList : Nat) : Int)) := fun q hq => by
    have hcb := hcell q hq
    unfold cellB at hcb
    rw [Bool.and_eq_true] at hcb
    have h1 : 32 ≤ r[q].1 ∧ r[q].1 ≤ 1114111 ∧ r[q].1 ≠ 127 ∧ ¬ (55296 ≤ r[q].1 ∧ r[q].1 ≤ 57343) := of_decide_eq_true hcb.1
    have h3 : r[q].1 = (r[q].1.toNat : Int) := by omega
    refine ⟨r[q].1.toNat, h3, by omega, by rw [← h3]; exact hcb.1, ?_⟩
    rw [← h3]
    subst er
    have e : (cells4 d.data.toList W)[q] = c4 d.data.toList q := by simp [cells4]
    rw [e, c4_parts d q (4 * q) (4 * q + 3) rfl rfl (by omega)]
  have HRL := hide rl
  have HD := hide hd
  clear hcell er rl hd
  go_enter Try.func15, Try.ntmps15
  go_wp2_with fail
  go_loopw [3, 4, 5] (fun o e i wr => ∃ (k b : Nat), k ≤ W ∧ Hid (b = 4 * k) ∧ i = .int .i64 (b : Int) ∧ o = .string (runesBytes (firsts r k)) ∧ e = .int .i64 ((rowT r k).size : Int) ∧ Hid (Below w.heap.size w wr)) (fun _ _ i _ => d.size - (intOf i).toNat)
  case atStart => exact ⟨0, 0, by omega, rfl, rfl, rfl, rfl, Below.refl _ _⟩
  case round =>
    obtain ⟨k, b, hk, HBK, rfl, rfl, rfl, HB⟩ := hrel
    have hb1 : b ≤ 96 := by have := unhide HBK; omega
    obtain ⟨c, hc⟩ : ∃ c, c = b + 3 := ⟨_, rfl⟩
    have a3 : (b : Int) + 3 = (c : Int) := by omega
    by_cases hlt : k < W
    · have hq : k < r.length := by rw [unhide HRL]; exact hlt
      obtain ⟨x, ex, hx, hrx, hxe⟩ := unhide HX k hq
      have a8 : (c : Int) < (d.size : Int) := by have := unhide HBK; have := unhide HD; omega
      have a5 : (c : Int) ≤ (d.size : Int) := by omega
      have a6 : (b : Int) ≤ (c : Int) := by omega
      have a7 : b ≤ c := by omega
      have HE : Hid ((d.extract b c).size ≤ 4) := by show _ ≤ _; rw [ByteArray.size_extract]; omega
      have HXE : Hid ((x : Int) = ((ofBE (d.extract b c).data.toList : Nat) : Int)) := by show _ = _; rw [hxe, hc, unhide HBK]
      obtain ⟨X, hX⟩ : ∃ X, X = runesBytes (firsts r k) := ⟨_, rfl⟩
      have hXl : X.size ≤ 96 := by rw [hX]; have := runes_le r k; omega
      have hel : (Utf8.encode (x : Int)).size ≤ 4 := encode_size_le _
      have HN : Hid (runesBytes (firsts r (k + 1)) = X ++ Utf8.encode (x : Int)) := by show _ = _; rw [firsts_snoc r k hq, runes_snoc, ex, hX]
      rw [← hX]
      have HRX := hide hrx
      have HBK2 : Hid (b + 4 = 4 * (k + 1)) := by show _ = _; have := unhide HBK; omega
      clear hrx hX hxe hc
      by_cases h32 : x = 32
      · have HE2 : Hid (rowT r (k + 1) = rowT r k) := by show _ = _; unfold rowT; rw [trim_blank hq (by rw [ex, h32]; rfl)]
        have hne : ((x : Int) != 32) = false := by rw [bne_eq_false_iff_eq]; omega
        clear ex h32
        go_wp2_with (first | (go_at_call 24; refine (snumberOf (d.extract b c) (unhide HE) _).mono ?_; rintro e w2 ⟨rfl, hw⟩; subst w2; rw [← unhide HXE]) | (go_at_call 25; refine (sutf (x : Int) (unhide HRX) _).mono ?_; rintro e w2 ⟨rfl, hb2⟩; have HB2 := hide ((unhide HB).trans (hb2.mono (unhide HB).size)); clear hb2))
        go_roundw
        case rel => exact ⟨k + 1, b + 4, by omega, HBK2, by go_num, by rw [unhide HN], by rw [unhide HE2], HB2⟩
        case measure => have := unhide HBK; have := unhide HD; simp [intOf]; omega
      · have HE2 : Hid (rowT r (k + 1) = X ++ Utf8.encode (x : Int)) := by show _ = _; rw [← unhide HN]; unfold rowT; rw [trim_not hq (by rw [ex]; omega)]
        have hne : ((x : Int) != 32) = true := by rw [bne_iff_ne]; omega
        clear ex h32
        go_wp2_with (first | (go_at_call 24; refine (snumberOf (d.extract b c) (unhide HE) _).mono ?_; rintro e w2 ⟨rfl, hw⟩; subst w2; rw [← unhide HXE]) | (go_at_call 25; refine (sutf (x : Int) (unhide HRX) _).mono ?_; rintro e w2 ⟨rfl, hb2⟩; have HB2 := hide ((unhide HB).trans (hb2.mono (unhide HB).size)); clear hb2))
        go_roundw
        case rel => exact ⟨k + 1, b + 4, by omega, HBK2, by go_num, by rw [unhide HN], congrArg (Value.int .i64) (by have h1 := congrArg ByteArray.size (unhide HE2); have h2 : (X ++ Utf8.encode (x : Int)).size = X.size + (Utf8.encode (x : Int)).size := ByteArray.size_append; omega), HB2⟩
        case measure => have := unhide HBK; have := unhide HD; simp [intOf]; omega
    · have ek : k = W := by omega
      subst ek
      have a8 : ¬ (c : Int) < (d.size : Int) := by have := unhide HBK; have := unhide HD; omega
      have hle := rowT_le r k (by rw [unhide HRL]; exact Nat.le_refl _)
      have HV := hide (rowT_pre r k (by rw [unhide HRL]; exact Nat.le_refl _))
      have hXl := runes_le r k
      obtain ⟨X, hX⟩ : ∃ X, X = runesBytes (firsts r k) := ⟨_, rfl⟩
      rw [← hX] at hle hXl HV ⊢
      obtain ⟨z, hz⟩ : ∃ z, z = (rowT r k).size := ⟨_, rfl⟩
      rw [← hz] at hle HV ⊢
      have hz0 : (0 : Int) ≤ (z : Int) := by omega
      have hz1 : (z : Int) ≤ (X.size : Int) := by omega
      clear hX hz hlt hc
      go_wp2_with fail
      go_ret
      exact ⟨ret_string (unhide HV), unhide HB⟩
set_option maxHeartbeats 4000000 in
set_option maxRecDepth 100000 in
theorem smtext (nb vw vh : Int) (a : Option Addr) (cap n : Nat) (R : List ByteArray) (HN : Hid (R.length = n)) (hn : n ≤ 1048576) (HS : Hid (∀ k (h : k < R.length), R[k].size ≤ 1048576)) (Q : Bool) (L : List ByteArray) (c : Int) (HI : Hid (MtIs nb vw vh R Q L c)) (w : World) (hr : RowV w a (cS R)) :
    Calls Try.prog 5 #[.agg #[.int .i64 nb, .int .i64 vw, .int .i64 vh, .slice a n cap]] w fun e w' => ∃ v, e = .returned (.tuple #[v, .int .i64 c]) ∧ w'.ownsRow w.heap.size 9 1 v L.length (cS L) ∧ Below w.heap.size w w' := by
  have B0 := hide (Go.Joins.below_alloc1 w (.cells #[.int .i64 nb, .int .i64 vw, .int .i64 vh, .slice a n cap] 28))
  have HR := hide hr
  have HNI := hide hn
  have HCL := hide (cS_len R)
  have HQ := hide (unhide HI).1
  have HLL := hide (unhide HI).2.1
  have hC := (unhide HI).2.2
  have HA0 := hide (BF.new w #[.int .i64 nb, .int .i64 vw, .int .i64 vh, .slice a n cap] 28)
  clear hr hn HI
  obtain ⟨i0, hi, hz0, hz1, hz2⟩ := info_parts Try.infL9
  cases Q with
  | false =>
    obtain rfl : c = 1 := hC
    obtain rfl : L = [] := unhide HLL
    go_enter Try.func5, Try.ntmps5
    go_wp2_with (go_at_call 14; refine (smirok nb vw vh a cap n R HN (unhide HNI) HS false HQ _ ((unhide HR).below (unhide B0))).mono ?_; rintro e w2 ⟨rfl, hb2⟩; have HB2 := hide ((unhide B0).trans (hb2.mono (unhide B0).size)); clear hb2)
    go_ret2
    exact ⟨_, rfl, lit_atT _ _ _ _ rfl (unhide HB2).size, (unhide HB2).alloc (unhide HB2).size _⟩
  | true =>
    obtain rfl : c = 0 := hC
    obtain ⟨hn10, hW, hrows⟩ := mir_rows (unhide HQ).symm
    obtain ⟨W, hWW⟩ : ∃ W, W = vw.toNat := ⟨_, rfl⟩
    rw [← hWW] at hW hrows
    have HRB := hide hrows
    have HL2 : Hid (L = mtL W R) := by show _ = _; rw [hWW]; exact unhide HLL
    have hn10' : n ≤ 10 := by rw [← unhide HN]; exact hn10
    clear hrows hWW HLL hn10
    go_enter Try.func5, Try.ntmps5
    go_wp2_with (go_at_call 14; refine (smirok nb vw vh a cap n R HN (unhide HNI) HS true HQ _ ((unhide HR).below (unhide B0))).mono ?_; rintro e w2 ⟨rfl, hb2⟩; have HB2 := hide ((unhide B0).trans (hb2.mono (unhide B0).size)); have HA2 := hide ((unhide HA0).below hb2); clear hb2)
    go_loopw [4, 5] (fun l0 i wr => ∃ (k : Nat) (v : Value), k ≤ n ∧ i = .int .i64 (k : Int) ∧ l0 = v ∧ Hid (wr.ownsRow (w.heap.size + 1) 9 1 v k (cS (mtL W (R.take k)))) ∧ Hid (Below w.heap.size w wr) ∧ Hid (BF w.heap.size #[.int .i64 nb, .int .i64 vw, .int .i64 vh, .slice a n cap] wr)) (fun _ i _ => n - (intOf i).toNat)
    case atStart => exact ⟨0, _, by omega, rfl, rfl, lit_atT _ _ _ _ rfl (unhide HA2).lt, (unhide HB2).alloc (unhide HB2).size _, (unhide HA2).alloc _⟩
    case round =>
      clear HB2 HA2
      obtain ⟨k, v, hk, rfl, rfl, HO, HB, HA⟩ := hrel
      have kA := (unhide HA).S
      by_cases hlt : k < n
      · have hlt' : (k : Int) < (n : Int) := by omega
        have hkR : k < R.length := by rw [unhide HN]; exact hlt
        obtain ⟨b1, off, ha, hblt, hc⟩ := (unhide HR).at (by rw [unhide HCL]; omega)
        subst ha
        obtain ⟨r, hr⟩ : ∃ r, r = R[k] := ⟨_, rfl⟩
        have hc1 : wr.cell? ⟨b1, off + k, none⟩ = some (.string r) := by rw [hr]; exact ((unhide HB).cell (p := ⟨b1, off + k, none⟩) hblt).trans (hc k _ (cS_at R k hkR))
        obtain ⟨hW2, hrb⟩ := unhide HRB k hkR
        rw [← hr] at hrb
        obtain ⟨hsz, hcel⟩ := rowB_parts hrb
        have HSN : Hid (cS (mtL W (R.take (k + 1))) = cS (mtL W (R.take k)) ++ [.string (mtT W r)]) := by show _ = _; rw [mtL_snoc W R k hkR, cS_app, hr]; rfl
        have HSZ := hide hsz
        have HCEL := hide hcel
        have HTT : Hid (mtT W r = rowT (cells4 r.data.toList W) W) := rfl
        obtain ⟨X, hX⟩ : ∃ X, X = mtT W r := ⟨_, rfl⟩
        rw [← hX] at HSN HTT
        clear hc hr hrb hsz hcel hX
        go_wp2_with (first | (go_at_call 15; refine (stext11 W hW r (unhide HSZ) _ rfl (unhide HCEL) _).mono ?_; rintro e w3 ⟨rfl, hb3⟩; rw [← unhide HTT]; have HB3 := hide ((unhide HB).trans (hb3.mono (unhide HB).size)); have HO3 := hide ((heldZ_of (unhide HO)).below hb3 (Nat.le_refl _)); have HA3 := hide ((unhide HA).below hb3); have hown := ((unhide HO3).own); have hbs := (unhide HB3).size; have hlt3 := (unhide HA3).lt; clear hb3) | (at_builtin; refine wpList_append_lies _ rfl (.tmp 18) (.tmp 25) 22 rfl (w.heap.size + 1) 9 i0 (.string ⟨#[]⟩) 1 16 Try.underlying22 hi hz0 hz1 hz2 rfl (by decide) _ _ _ rfl (hown.alloc (.cells #[.string X] 9)) ⟨w3.heap.size, 0, none⟩ 1 1 [.string X] rfl rfl (by exact news_new w3 [.string X] 9) (by intro u hu; simp at hu; subst hu; rfl) (by decide) (by unfold maxLen; omega) (by omega) (by simp; omega) _ rfl ?_; intro g7 c7 w7 hown7 hgrow7 hat7 hlt7; have HO7 := hide hown7; have HB7 := hide (((unhide HB3).alloc (unhide HB3).size (.cells #[.string X] 9)).grown hgrow7 (by simp; omega) (fun j hj => by have := (hown.lt j hj).1; omega)); have HA7 := hide (((unhide HA3).alloc (.cells #[.string X] 9)).grown hgrow7 (fun hk => by have := (hown.lt _ hk).1; omega)); clear hown7 hgrow7 hat7 hlt7))
        go_roundw
        case rel => exact ⟨k + 1, _, by omega, by go_num, rfl, by show World.ownsRow _ _ _ _ _ _ _; rw [unhide HSN]; exact unhide HO7, HB7, HA7⟩
        case measure => simp [intOf]; omega
      · obtain rfl : k = n := by omega
        obtain ⟨aF, cF, rfl, -⟩ := own_rowV (unhide HO)
        have hof := Go.Joins.ownsRow_le (unhide HO) (Nat.le_succ _)
        rw [List.take_of_length_le (by have := unhide HN; omega), ← unhide HL2] at hof
        have HOF := hide hof
        have HLN : Hid (k = L.length) := by show _ = _; rw [unhide HL2, mtL_len]; exact (unhide HN).symm
        clear hof HO
        go_wp2_with fail
        go_ret2
        exact ⟨_, rfl, by rw [← unhide HLN]; exact unhide HOF, unhide HB⟩
end Go.Proofs.Ytmmafpadkopnpaa
