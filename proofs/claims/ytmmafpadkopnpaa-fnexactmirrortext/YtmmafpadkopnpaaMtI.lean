/- MirrorText: what the program answers. -/
import Derived.Test.YtmmafpadkopnpaaMrI
import Derived.Test.YtmmafpadkopnpaaCtI
import Derived.Test.YtmmafpadkopnpaaSizeS
namespace Go.Proofs.Ytmmafpadkopnpaa
open Go.ChangeShapes Go.WideShapes Go.ChangeAt Go.RowKit
set_option linter.unusedVariables false
theorem own_capZ {w : World} {base : Nat} {e : TypeId} {z : Nat} {a : Option Addr} {n cap : Nat} {xs : List Value} (h : w.ownsRow base e z (.slice a n cap) n xs) : n ≤ cap := by
  rcases h.2 with ⟨e, e2⟩ | ⟨g, c, cur, e, _, _, h3⟩
  · cases e; omega
  · cases e; exact h3.1
theorem lit_atT (w : World) (s base : Nat) (t : TypeId) (hs : w.heap.size = s) (hb : base ≤ s) : (w.alloc (.cells #[] t)).ownsRow base t 1 (.slice (some ⟨s, 0, none⟩) 0 0) 0 (cS []) := by
  subst hs
  have := World.ownsRow_lit (e := t) (base := base) (size := 1) w #[] 0 hb (by unfold maxLen; omega) (by simp)
  simpa [cS] using this
def mtT (W : Nat) (r : ByteArray) : ByteArray := rowT (cells4 r.data.toList W) W
def mtL (W : Nat) (R : List ByteArray) : List ByteArray := R.map (mtT W)
theorem mtL_len (W : Nat) (R : List ByteArray) : (mtL W R).length = R.length := by simp [mtL]
theorem mtL_snoc (W : Nat) (R : List ByteArray) (k : Nat) (h : k < R.length) : mtL W (R.take (k + 1)) = mtL W (R.take k) ++ [mtT W R[k]] := by
  unfold mtL; rw [List.take_add_one, List.getElem?_eq_getElem h, List.map_append]; rfl
/-- What MirrorText answers: the texts, the code. -/
def MtIs (nb vw vh : Int) (R : List ByteArray) (Q : Bool) (L : List ByteArray) (c : Int) : Prop := Q = mirB nb vw vh R ∧ L = (if Q then mtL vw.toNat R else []) ∧ c = if Q then 0 else 1
theorem mir_rows {nb vw vh : Int} {R : List ByteArray} (h : mirB nb vw vh R = true) : R.length ≤ 10 ∧ vw.toNat ≤ 24 ∧ (∀ k (hk : k < R.length), 2 ≤ vw.toNat ∧ rowB vw.toNat R[k] = true) := by
  unfold mirB at h
  split at h
  · simp only [Bool.and_eq_true, decide_eq_true_eq] at h
    obtain ⟨h1, h2, h3⟩ := h
    exact ⟨by omega, by omega, fun k hk => by omega⟩
  · simp only [Bool.and_eq_true] at h
    obtain ⟨h1, h2, h3⟩ := h
    have h4 : 2 ≤ vw ∧ vw ≤ 24 ∧ 2 ≤ vh ∧ vh ≤ 10 := of_decide_eq_true h2
    unfold rowsB at h3
    rw [Bool.and_eq_true, decide_eq_true_eq, List.all_eq_true] at h3
    exact ⟨by omega, by omega, fun k hk => ⟨by omega, h3.2 _ (List.getElem_mem hk)⟩⟩
theorem rowB_parts {W : Nat} {r : ByteArray} (h : rowB W r = true) : r.size = 4 * W ∧ ∀ q (hq : q < (cells4 r.data.toList W).length), cellB (cells4 r.data.toList W)[q] = true := by
  unfold rowB at h
  rw [Bool.and_eq_true, decide_eq_true_eq, List.all_eq_true] at h
  exact ⟨h.1, fun q hq => h.2 _ (List.getElem_mem hq)⟩
theorem mt_ex (nb vw vh : Int) (R : List ByteArray) : ∃ Q L c, MtIs nb vw vh R Q L c := ⟨_, _, _, rfl, rfl, rfl⟩
set_option maxHeartbeats 4000000 in
set_option maxRecDepth 100000 in
theorem imtext (nb vw vh : Int) (a : Option Addr) (cap n : Nat) (R : List ByteArray) (HN : Hid (R.length = n)) (hn : n ≤ 1048576) (HS : Hid (∀ k (h : k < R.length), R[k].size ≤ 1048576)) (Q : Bool) (L : List ByteArray) (c : Int) (HI : Hid (MtIs nb vw vh R Q L c)) (w : World) (hr : RowV w a (cS R)) :
    Calls Try.prog 7 #[.agg #[.int .i64 nb, .int .i64 vw, .int .i64 vh, .slice a n cap]] w fun e w' => ∃ v, e = .returned (.tuple #[v, .int .i64 c]) ∧ w'.ownsRow w.heap.size 9 1 v L.length (cS L) ∧ Below w.heap.size w w' := by
  have B0 := hide (Go.Joins.below_alloc1 w (.cells #[.int .i64 nb, .int .i64 vw, .int .i64 vh, .slice a n cap] 28))
  have HR := hide hr
  have HNI := hide hn
  have HCL := hide (cS_len R)
  have HQ := hide (unhide HI).1
  have HLL := hide (unhide HI).2.1
  have hC := (unhide HI).2.2
  have HA0 := hide (BF.new w #[.int .i64 nb, .int .i64 vw, .int .i64 vh, .slice a n cap] 28)
  clear hr hn HI
  obtain ⟨i0, hi, hz0, hz1, hz2⟩ := info_parts Try.infL9
  cases Q with
  | false =>
    obtain rfl : c = 1 := hC
    obtain rfl : L = [] := unhide HLL
    go_enter Try.func7, Try.ntmps7
    go_wp2_with (go_at_call 17; refine (imirok nb vw vh a cap n R HN (unhide HNI) HS false HQ _ ((unhide HR).below (unhide B0))).mono ?_; rintro e w2 ⟨rfl, hb2⟩; have HB2 := hide ((unhide B0).trans (hb2.mono (unhide B0).size)); clear hb2)
    go_ret2
    exact ⟨_, rfl, World.ownsRow_nil _ _ _ _, unhide HB2⟩
  | true =>
    obtain rfl : c = 0 := hC
    obtain ⟨hn10, hW, hrows⟩ := mir_rows (unhide HQ).symm
    obtain ⟨W, hWW⟩ : ∃ W, W = vw.toNat := ⟨_, rfl⟩
    rw [← hWW] at hW hrows
    have HRB := hide hrows
    have HL2 : Hid (L = mtL W R) := by show _ = _; rw [hWW]; exact unhide HLL
    have hn10' : n ≤ 10 := by rw [← unhide HN]; exact hn10
    clear hrows hWW HLL hn10
    go_enter Try.func7, Try.ntmps7
    go_wp2_with (go_at_call 17; refine (imirok nb vw vh a cap n R HN (unhide HNI) HS true HQ _ ((unhide HR).below (unhide B0))).mono ?_; rintro e w2 ⟨rfl, hb2⟩; have HB2 := hide ((unhide B0).trans (hb2.mono (unhide B0).size)); have kA := ((unhide HA0).below hb2).S; clear hb2)
    go_loopw [4, 13] (fun l0 i wr => ∃ (k : Nat) (v : Value), k ≤ n ∧ i = .int .i64 (k : Int) ∧ l0 = v ∧ Hid (wr.ownsRow w.heap.size 9 1 v k (cS (mtL W (R.take k)))) ∧ Hid (Below w.heap.size w wr)) (fun _ i _ => n - (intOf i).toNat)
    case atStart => exact ⟨0, _, by omega, rfl, rfl, World.ownsRow_nil _ _ _ _, HB2⟩
    case round =>
      clear kA HB2
      obtain ⟨k, v, hk, rfl, rfl, HO, HB⟩ := hrel
      by_cases hlt : k < n
      · have hlt' : (k : Int) < (n : Int) := by omega
        have hkR : k < R.length := by rw [unhide HN]; exact hlt
        obtain ⟨b1, off, ha, hblt, hc⟩ := (unhide HR).at (by rw [unhide HCL]; omega)
        subst ha
        obtain ⟨r, hr⟩ : ∃ r, r = R[k] := ⟨_, rfl⟩
        have hc1 : wr.cell? ⟨b1, off + k, none⟩ = some (.string r) := by rw [hr]; exact ((unhide HB).cell (p := ⟨b1, off + k, none⟩) hblt).trans (hc k _ (cS_at R k hkR))
        obtain ⟨hW2, hrb⟩ := unhide HRB k hkR
        rw [← hr] at hrb
        obtain ⟨hsz, hcel⟩ := rowB_parts hrb
        have HSN : Hid (cS (mtL W (R.take (k + 1))) = cS (mtL W (R.take k)) ++ [.string (mtT W r)]) := by show _ = _; rw [mtL_snoc W R k hkR, cS_app, hr]; rfl
        obtain ⟨w1, cap1, hconv, hlt1, hcells, hcap1, hbel1⟩ := to_bytesV wr r
        have HB1 := hide ((unhide HB).trans (hbel1.mono (unhide HB).size))
        have HO1 := hide ((heldZ_of (unhide HO)).below hbel1 (Nat.le_refl _))
        have HC1 := hide hcells
        have HLT1 := hide hlt1
        have HCAP1 := hide hcap1
        have HSZ := hide hsz
        have HCEL := hide hcel
        obtain ⟨d, hd⟩ : ∃ d, d = r.data.toList := ⟨_, rfl⟩
        have HD : Hid (d.length = r.size) := by show _ = _; rw [hd]; simp
        have HTT : Hid (mtT W r = rowT (cells4 d W) W) := by show _ = _; rw [hd]; rfl
        rw [← hd] at HC1 HCEL
        obtain ⟨X, hX⟩ : ∃ X, X = mtT W r := ⟨_, rfl⟩
        rw [← hX] at HSN HTT
        clear hc hr hrb hsz hcel hcells hlt1 hcap1 hbel1 hd hX HO HB
        go_wp2_with (first | (go_at_call 19; refine (icellsOf wr.heap.size 0 cap1 W r.size d HD (unhide HSZ) (by omega) (unhide HCAP1) w1 (unhide HLT1) (unhide HC1)).mono ?_; rintro e w2 ⟨v2, rfl, ho2, hb2⟩; obtain ⟨a2, c2, rfl, hr2⟩ := ownZ_rowV ho2; obtain ⟨b2, off2, rfl, hb2lt, hc2⟩ := hr2.at (by rw [cP_len, cells4_len]; omega); have hcap2 := own_capZ ho2; have HB2 := hide ((unhide HB1).trans (hb2.mono (unhide HB1).size)); have HO2 := hide ((unhide HO1).below hb2 (unhide HO1).le); have HC2 := hide hc2; have HL2b := hide hb2lt; have HCAP2 := hide hcap2; clear ho2 hb2 hr2 hc2 hb2lt hcap2) | (go_at_call 18; refine (icelltext b2 off2 W c2 (cells4 d W) (cells4_len d W) ⟨by omega, by omega⟩ (unhide HCAP2) (unhide HCEL) w2 (unhide HL2b) (unhide HC2)).mono ?_; rintro e w3 ⟨rfl, hb3⟩; rw [← unhide HTT]; have HB3 := hide ((unhide HB2).trans (hb3.mono (unhide HB2).size)); have HO3 := hide ((unhide HO2).below hb3 (unhide HO2).le); have hown := ((unhide HO3).own); have hbs := (unhide HB3).size; clear hb3) | (at_builtin; refine wpList_append_lies _ rfl (.tmp 17) (.tmp 22) 22 rfl w.heap.size 9 i0 (.string ⟨#[]⟩) 1 16 Try.underlying22 hi hz0 hz1 hz2 rfl (by decide) _ _ _ rfl (hown.alloc (.cells #[.string X] 9)) ⟨w3.heap.size, 0, none⟩ 1 1 [.string X] rfl rfl (by exact news_new w3 [.string X] 9) (by intro u hu; simp at hu; subst hu; rfl) (by decide) (by unfold maxLen; omega) (by omega) (by simp; omega) _ rfl ?_; intro g7 c7 w7 hown7 hgrow7 hat7 hlt7; have HO7 := hide hown7; have HB7 := hide (((unhide HB3).alloc (unhide HB3).size (.cells #[.string X] 9)).grown hgrow7 (by simp; omega) (fun j hj => (hown.lt j hj).1)); clear hown7 hgrow7 hat7 hlt7))
        go_roundw
        case rel => exact ⟨k + 1, _, by omega, by go_num, rfl, by show World.ownsRow _ _ _ _ _ _ _; rw [unhide HSN]; exact unhide HO7, HB7⟩
        case measure => simp [intOf]; omega
      · obtain rfl : k = n := by omega
        obtain ⟨aF, cF, rfl, -⟩ := own_rowV (unhide HO)
        have hof := unhide HO
        rw [List.take_of_length_le (by have := unhide HN; omega), ← unhide HL2] at hof
        have HOF := hide hof
        have HLN : Hid (k = L.length) := by show _ = _; rw [unhide HL2, mtL_len]; exact (unhide HN).symm
        clear hof HO
        go_wp2_with fail
        go_ret2
        exact ⟨_, rfl, by rw [← unhide HLN]; exact unhide HOF, unhide HB⟩
end Go.Proofs.Ytmmafpadkopnpaa
