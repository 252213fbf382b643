/- ViewBytes: what the program answers. -/
import Derived.Test.YtblhediekdeffaaDoorZG9
import Derived.Test.YtblhediekdeffaaDoorZVoJ
import Derived.Test.YtblhediekdeffaaDoorZG17
import Derived.Test.YtblhediekdeffaaDoorZFieldsI
import Derived.Test.YtblhediekdeffaaDoorZAvM
import Derived.Laws.OwnMore
namespace Go.Proofs.YtblhediekdeffaaDoor
open Go.ChangeShapes Go.WideShapes Go.ChangeAt Go.RowKit
set_option linter.unusedVariables false
/-- What ViewBytes answers: the bytes, the code. -/
def VbIs (nb fr : Int) (fu : Bool) (vw vh : Int) (l : List Rw) (Q : Bool) (r : List UInt8) (c : Int) : Prop := Q = vwB nb fr fu vw vh l ∧ r = (if Q then fbL (vbF nb fr fu vw vh l) else []) ∧ c = if Q then 0 else 1
theorem vb_parts {nb fr : Int} {fu : Bool} {vw vh : Int} {l : List Rw} (h : vwB nb fr fu vw vh l = true) : l.length ≤ 10 ∧ allFit [nb, fr, bitI fu, vw, vh] ∧ (∀ k (hk : k < l.length), 0 ≤ l[k].1 ∧ l[k].1 < 10) ∧ (∀ k (hk : k < l.length), l[k].2.size ≤ 96) ∧ fbC (vbF nb fr fu vw vh l) = 0 ∧ (∀ q (hq : q < (vbF nb fr fu vw vh l).length), (vbF nb fr fu vw vh l)[q].size ≤ 1048576) := by
  have hp := vw_parts h
  have hs : 2 ≤ vw ∧ vw ≤ 24 ∧ 2 ≤ vh ∧ vh ≤ 10 := of_decide_eq_true hp.2.1
  have hl : l.length ≤ 10 := by have := rise_len (by omega) hp.2.2.1; omega
  have hy : ∀ k (hk : k < l.length), 0 ≤ l[k].1 ∧ l[k].1 < 10 := fun k hk => by
    have h1 := step_parts (rise_at hp.2.2.1 k hk)
    have h2 := prev_ge k fun i hi => rise_at hp.2.2.1 i (by omega)
    rw [yAt_at l k hk] at h1
    omega
  unfold vwB at h
  simp only [Bool.and_eq_true] at h
  obtain ⟨h1, -, -, h4, h5⟩ := h
  have hn : 0 ≤ nb ∧ nb ≤ 60 := of_decide_eq_true h1
  have hf : 0 ≤ fr ∧ fr ≤ 60 := by
    cases fu
    · have h8 : inB fr 0 (nb - 1) = true := by simpa using h5
      have h7 : 0 ≤ fr ∧ fr ≤ nb - 1 := of_decide_eq_true h8
      omega
    · have h8 : fr = 0 ∧ (l.length : Int) = vh := by simpa using h5
      omega
  have hb : 0 ≤ bitI fu ∧ bitI fu ≤ 1 := by cases fu <;> decide
  have hz : ∀ k (hk : k < l.length), l[k].2.size ≤ 96 := fun k hk => by
    rw [List.all_eq_true] at h4
    have h8 := h4 (l[k].2) (by unfold celL; exact List.mem_map.2 ⟨l[k], List.getElem_mem hk, rfl⟩)
    unfold rowB at h8
    rw [Bool.and_eq_true, decide_eq_true_eq] at h8
    omega
  refine ⟨hl, ?_, hy, hz, ?_⟩
  · intro k hk
    match k, hk with
    | 0, _ => show fitsN nb; unfold fitsN; omega
    | 1, _ => show fitsN fr; unfold fitsN; omega
    | 2, _ => show fitsN (bitI fu); unfold fitsN; omega
    | 3, _ => show fitsN vw; unfold fitsN; omega
    | 4, _ => show fitsN vh; unfold fitsN; omega
  · have hx : ∀ x ∈ vbF nb fr fu vw vh l, x.size ≤ 97 := by
      intro x hx
      unfold vbF at hx
      rcases List.mem_cons.1 hx with rfl | hx
      · show (numsL [nb, fr, bitI fu, vw, vh]).toArray.size ≤ 97; simp [numsL, be]
      · obtain ⟨y, hy2, rfl⟩ := List.mem_map.1 hx
        obtain ⟨k, hk, rfl⟩ := List.mem_iff_getElem.1 hy2
        have := hz k hk
        unfold rowX
        rw [ByteArray.size_append]
        have e : (⟨(be l[k].1.toNat 1).toArray⟩ : ByteArray).size = 1 := by show (be l[k].1.toNat 1).toArray.size = 1; simp [be]
        omega
    exact ⟨(fb_ok (by rw [vbF_len]; omega) (short_of hx (by decide)) (fsum_of hx (n := 11) (by rw [vbF_len]; omega) (by decide))).2, fun q hq => Nat.le_trans (hx _ (List.getElem_mem hq)) (by decide)⟩
theorem vb_short {nb fr : Int} {fu : Bool} {vw vh : Int} {l : List Rw} (h : vwB nb fr fu vw vh l = true) : (vbF nb fr fu vw vh l).length ≤ 60 ∧ allShort (vbF nb fr fu vw vh l) ∧ ¬ 65536 < fsum (vbF nb fr fu vw vh l) := by
  obtain ⟨hl, -, -, hz, -, -⟩ := vb_parts h
  have hx : ∀ x ∈ vbF nb fr fu vw vh l, x.size ≤ 97 := by
    intro x hx
    unfold vbF at hx
    rcases List.mem_cons.1 hx with rfl | hx
    · show (numsL [nb, fr, bitI fu, vw, vh]).toArray.size ≤ 97; simp [numsL, be]
    · obtain ⟨y, hy2, rfl⟩ := List.mem_map.1 hx
      obtain ⟨k, hk, rfl⟩ := List.mem_iff_getElem.1 hy2
      have := hz k hk
      unfold rowX
      rw [ByteArray.size_append]
      have e : (⟨(be l[k].1.toNat 1).toArray⟩ : ByteArray).size = 1 := by show (be l[k].1.toNat 1).toArray.size = 1; simp [be]
      omega
  exact ⟨by rw [vbF_len]; omega, short_of hx (by decide), fsum_of hx (n := 11) (by rw [vbF_len]; omega) (by decide)⟩
set_option maxHeartbeats 4000000 in
set_option maxRecDepth 100000 in
theorem ivb (nb fr : Int) (fu : Bool) (vw vh : Int) (a : Option Addr) (cap n : Nat) (l : List Rw) (HN : Hid (l.length = n)) (hn : n ≤ 1048576) (HS : Hid (∀ k (h : k < l.length), l[k].2.size ≤ 1048576)) (Q : Bool) (r : List UInt8) (c : Int) (HI : Hid (VbIs nb fr fu vw vh l Q r c)) (w : World) (hr : RowV w a (cE l)) :
    Calls Tryd.prog 15 #[.agg #[.int .i64 nb, .int .i64 fr, .bool fu, .int .i64 vw, .int .i64 vh, .slice a n cap]] w fun e w' => ∃ v, e = .returned (.tuple #[v, .int .i64 c]) ∧ w'.ownsRow w.heap.size 5 1 v r.length (B8 r) ∧ Below w.heap.size w w' := by
  have B0 := hide (Go.Joins.below_alloc1 w (.cells #[.int .i64 nb, .int .i64 fr, .bool fu, .int .i64 vw, .int .i64 vh, .slice a n cap] 25))
  have A0 := hide (BF.new w #[.int .i64 nb, .int .i64 fr, .bool fu, .int .i64 vw, .int .i64 vh, .slice a n cap] 25)
  have HR := hide hr
  have HNI := hide hn
  have HQ := hide (unhide HI).1
  have HRR := hide (unhide HI).2.1
  have hC := (unhide HI).2.2
  clear hr hn HI
  obtain ⟨i0, hi, hz0, hz1, hz2⟩ := info_parts Tryd.infL9
  cases Q with
  | false =>
    obtain rfl : c = 1 := hC
    obtain rfl : r = [] := unhide HRR
    go_enter Tryd.func15, Tryd.ntmps15
    go_wp2_with (go_at_call 28; refine (ivwok nb fr fu vw vh a cap n l HN (unhide HNI) HS false HQ _ ((unhide HR).below (unhide B0))).mono ?_; rintro e w2 ⟨rfl, hb2⟩; have HB2 := hide ((unhide B0).trans (hb2.mono (unhide B0).size)); clear hb2)
    go_ret2
    exact ⟨_, rfl, World.ownsRow_nil _ _ _ _, unhide HB2⟩
  | true =>
    obtain rfl : c = 0 := hC
    obtain ⟨hl10, hfit, hy, hz, hfc, hbig⟩ := vb_parts (unhide HQ).symm
    have hn10 : n ≤ 10 := by rw [← unhide HN]; exact hl10
    have HY := hide hy
    have HZ := hide hz
    have HFC := hide hfc
    have HBIG := hide hbig
    obtain ⟨b, hb⟩ : ∃ b, b = bitI fu := ⟨_, rfl⟩
    have HB := hide hb
    rw [← hb] at hfit
    have HFIT := hide hfit
    obtain ⟨X0, hX0⟩ : ∃ X0 : ByteArray, X0 = ⟨(numsL [nb, fr, b, vw, vh]).toArray⟩ := ⟨_, rfl⟩
    have HX0 := hide hX0
    clear hy hz hfc hb hfit hX0 hl10 hbig
    go_enter Tryd.func15, Tryd.ntmps15
    go_upto_region 3 with (go_at_call 28; refine (ivwok nb fr fu vw vh a cap n l HN (unhide HNI) HS true HQ _ ((unhide HR).below (unhide B0))).mono ?_; rintro e w2 ⟨rfl, hb2⟩; have B2 := hide ((unhide B0).trans (hb2.mono (unhide B0).size)); have A2 := hide ((unhide A0).below hb2); have ka2 := (unhide A2).S; clear hb2)
    clear A0 B0
    refine wp_region_held_drew (S := (fun w' => ∀ o, w'.cell? ⟨w.heap.size, o, none⟩ = (#[.int .i64 nb, .int .i64 fr, .bool fu, .int .i64 vw, .int .i64 vh, .slice a n cap] : Array Value)[o]?)) (by kernel_rfl) (unhide A2).S (fun hHeld => ?_)
    have B3 := hide ((unhide B2).drew)
    have A3 := hide ((unhide A2).drew)
    clear A2 B2 ka2
    generalize w2.drew = w3 at B3 A3 hHeld ⊢
    refine wtk (i := 0) (oi := { dst := some 10, op := .fieldAddr 25 (.tmp 1) 0, type := 0, pos := "l11_view.go:205", after := #[], guard := none }) (v := ?_) rfl (Or.inl ⟨by rfl, ?_⟩) (by assumption) ?_
    rotate_left 1
    · (intro w' hSw; (try dsimp only at hSw); go_simp; try with_reducible rfl)
    try simp only [Act.put, qqA, qqB, qqC]
    refine wtk (i := 1) (oi := { dst := some 11, op := .load 3 (.tmp 10), type := 3, pos := "l11_view.go:205", after := #[{ on := 0, ground := .data }], guard := none }) (v := ?_) rfl (Or.inl ⟨by rfl, ?_⟩) (by assumption) ?_
    rotate_left 1
    · (intro w' hSw; (try dsimp only at hSw); go_simp; try with_reducible rfl)
    try simp only [Act.put, qqA, qqB, qqC]
    refine wtk (i := 2) (oi := { dst := some 12, op := .fieldAddr 25 (.tmp 1) 1, type := 0, pos := "l11_view.go:205", after := #[], guard := none }) (v := ?_) rfl (Or.inl ⟨by rfl, ?_⟩) (by assumption) ?_
    rotate_left 1
    · (intro w' hSw; (try dsimp only at hSw); go_simp; try with_reducible rfl)
    try simp only [Act.put, qqA, qqB, qqC]
    refine wtk (i := 3) (oi := { dst := some 13, op := .load 3 (.tmp 12), type := 3, pos := "l11_view.go:205", after := #[{ on := 2, ground := .data }], guard := none }) (v := ?_) rfl (Or.inl ⟨by rfl, ?_⟩) (by assumption) ?_
    rotate_left 1
    · (intro w' hSw; (try dsimp only at hSw); go_simp; try with_reducible rfl)
    try simp only [Act.put, qqA, qqB, qqC]
    refine wtk (i := 4) (oi := { dst := some 14, op := .fieldAddr 25 (.tmp 1) 2, type := 0, pos := "l11_view.go:205", after := #[], guard := none }) (v := ?_) rfl (Or.inl ⟨by rfl, ?_⟩) (by assumption) ?_
    rotate_left 1
    · (intro w' hSw; (try dsimp only at hSw); go_simp; try with_reducible rfl)
    try simp only [Act.put, qqA, qqB, qqC]
    refine wtk (i := 5) (oi := { dst := some 15, op := .load 4 (.tmp 14), type := 4, pos := "l11_view.go:205", after := #[{ on := 4, ground := .data }], guard := none }) (v := ?_) rfl (Or.inl ⟨by rfl, ?_⟩) (by assumption) ?_
    rotate_left 1
    · (intro w' hSw; (try dsimp only at hSw); go_simp; try with_reducible rfl)
    try simp only [Act.put, qqA, qqB, qqC]
    refine wtk (i := 7) (oi := { dst := some 17, op := .fieldAddr 25 (.tmp 1) 3, type := 0, pos := "l11_view.go:205", after := #[], guard := none }) (v := ?_) rfl (Or.inl ⟨by rfl, ?_⟩) (by assumption) ?_
    rotate_left 1
    · (intro w' hSw; (try dsimp only at hSw); go_simp; try with_reducible rfl)
    try simp only [Act.put, qqA, qqB, qqC]
    refine wtk (i := 8) (oi := { dst := some 18, op := .load 3 (.tmp 17), type := 3, pos := "l11_view.go:205", after := #[{ on := 7, ground := .data }], guard := none }) (v := ?_) rfl (Or.inl ⟨by rfl, ?_⟩) (by assumption) ?_
    rotate_left 1
    · (intro w' hSw; (try dsimp only at hSw); go_simp; try with_reducible rfl)
    try simp only [Act.put, qqA, qqB, qqC]
    refine wtk (i := 9) (oi := { dst := some 19, op := .fieldAddr 25 (.tmp 1) 4, type := 0, pos := "l11_view.go:205", after := #[], guard := none }) (v := ?_) rfl (Or.inl ⟨by rfl, ?_⟩) (by assumption) ?_
    rotate_left 1
    · (intro w' hSw; (try dsimp only at hSw); go_simp; try with_reducible rfl)
    try simp only [Act.put, qqA, qqB, qqC]
    refine wtk (i := 10) (oi := { dst := some 20, op := .load 3 (.tmp 19), type := 3, pos := "l11_view.go:205", after := #[{ on := 9, ground := .data }], guard := none }) (v := ?_) rfl (Or.inl ⟨by rfl, ?_⟩) (by assumption) ?_
    rotate_left 1
    · (intro w' hSw; (try dsimp only at hSw); go_simp; try with_reducible rfl)
    try simp only [Act.put, qqA, qqB, qqC]
    refine wpAnyH_ready (rs := [6]) (by kernel_rfl) (by simp) ?_
    refine AllReadyH.cons (o := { dst := some 16, op := .call { callee := .value (.func 30), args := #[.tmp 15], argTypes := #[4] }, type := 3, pos := "l11_view.go:205", after := #[{ on := 5, ground := .data }], guard := none }) rfl (fun K hK => ?_) AllReadyH.nil
    go_simp
    refine (ibit fu b HB _).mono ?_
    rintro e w4 ⟨rfl, hw4⟩
    subst w4
    go_wp2_with fail
    refine hK.out _ _ ?_ (fun hHeld6 => ?_)
    · exact (unhide A3).S
    clear hK K
    try simp only [Act.put, qqA, qqB, qqC]
    refine wpAnyH_ready (rs := [11]) (by kernel_rfl) (by simp) ?_
    refine AllReadyH.cons (o := { dst := some 21, op := .buildSlice 46 5 #[(0, .tmp 11), (1, .tmp 13), (2, .tmp 16), (3, .tmp 18), (4, .tmp 20)], type := 46, pos := "l11_view.go:205", after := #[{ on := 1, ground := .data }, { on := 3, ground := .data }, { on := 6, ground := .data }, { on := 8, ground := .data }, { on := 10, ground := .data }], guard := none }) rfl (fun K hK => ?_) AllReadyH.nil
    obtain ⟨G, hG⟩ : ∃ G, G = w3.heap.size := ⟨_, rfl⟩
    have B4 := hide ((unhide B3).alloc (unhide B3).size (.cells #[.int .i64 nb, .int .i64 fr, .int .i64 b, .int .i64 vw, .int .i64 vh] 3))
    have A4 := hide ((unhide A3).alloc (.cells #[.int .i64 nb, .int .i64 fr, .int .i64 b, .int .i64 vw, .int .i64 vh] 3))
    have R4 : Hid (RowV (w3.alloc (.cells #[.int .i64 nb, .int .i64 fr, .int .i64 b, .int .i64 vw, .int .i64 vh] 3)) (some ⟨G, 0, none⟩) (cI [nb, fr, b, vw, vh])) := by rw [hG]; exact rowZ_at (base := w3.heap.size) (e := 3) (z := 1) (n := 5) (cap := 5) (by have h := World.ownsRow_lit (e := 3) (base := w3.heap.size) (size := 1) w3 #[.int .i64 nb, .int .i64 fr, .int .i64 b, .int .i64 vw, .int .i64 vh] 5 (Nat.le_refl _) (by unfold maxLen; omega) (by simp); exact h)
    go_simp
    refine hK.out _ _ ?_ (fun hHeld11 => ?_)
    · exact (unhide A4).S
    clear hK K
    try simp only [Act.put, qqA, qqB, qqC]
    rw [← hG]
    clear hG B3 A3
    generalize w3.alloc (.cells #[.int .i64 nb, .int .i64 fr, .int .i64 b, .int .i64 vw, .int .i64 vh] 3) = w5 at B4 A4 R4 hHeld11 ⊢
    refine wpAnyH_ready (rs := [12]) (by kernel_rfl) (by simp) ?_
    refine AllReadyH.cons (o := { dst := some 22, op := .call { callee := .value (.func 29), args := #[.tmp 21], argTypes := #[46] }, type := 9, pos := "l11_view.go:205", after := #[{ on := 11, ground := .data }, { on := 6, ground := .chain }], guard := none }) rfl (fun K hK => ?_) AllReadyH.nil
    go_simp
    refine (inumtext (some ⟨G, 0, none⟩) 5 [nb, fr, b, vw, vh] (unhide HFIT) (by simp) _ (unhide R4)).mono ?_
    rintro e w6 ⟨rfl, hb6⟩
    rw [← unhide HX0]
    have B6 := hide ((unhide B4).trans (hb6.mono (unhide B4).size))
    have A6 := hide ((unhide A4).below hb6)
    clear hb6 B4 A4 R4
    go_wp2_with fail
    refine hK.out _ _ ?_ (fun hHeld12 => ?_)
    · exact (unhide A6).S
    clear hK K
    try simp only [Act.put, qqA, qqB, qqC]
    refine wpAnyH_ready (rs := [13]) (by kernel_rfl) (by simp) ?_
    refine AllReadyH.cons (o := { dst := some 23, op := .buildSlice 36 1 #[(0, .tmp 22)], type := 36, pos := "l11_view.go:205", after := #[{ on := 12, ground := .data }], guard := none }) rfl (fun K hK => ?_) AllReadyH.nil
    obtain ⟨g7, hg7⟩ : ∃ g7, g7 = w6.heap.size := ⟨_, rfl⟩
    have B7 := hide ((unhide B6).alloc (unhide B6).size (.cells #[.string X0] 9))
    have A7 := hide ((unhide A6).alloc (.cells #[.string X0] 9))
    have zA := (unhide A6).lt
    have E7 : Hid ((w6.alloc (.cells #[.string X0] 9)).ownsRow (w.heap.size + 1) 9 1 (.slice (some ⟨g7, 0, none⟩) 1 1) 1 (cS (vbF nb fr fu vw vh (l.take 0)))) := by
      have h := World.ownsRow_lit (e := 9) (base := w.heap.size + 1) (size := 1) w6 #[.string X0] 1 zA (by unfold maxLen; omega) (by simp)
      rw [← hg7] at h
      show World.ownsRow _ _ _ _ _ _ _
      have e : cS (vbF nb fr fu vw vh (l.take 0)) = [.string X0] := by rw [unhide HX0, unhide HB]; rfl
      rw [e]; exact h
    go_simp
    refine hK.out _ _ ?_ (fun hHeld13 => ?_)
    · exact (unhide A7).S
    clear hK K
    try simp only [Act.put, qqA, qqB, qqC]
    rw [← hg7]
    clear hg7 zA B6 A6
    generalize w6.alloc (.cells #[.string X0] 9) = w7 at B7 A7 E7 hHeld13 ⊢
    refine wtk (i := 14) (oi := { dst := some 4, op := .assign (.tmp 23), type := 36, pos := "l11_view.go:205", after := #[{ on := 13, ground := .data }, { on := 12, ground := .chain }, { on := 0, ground := .phase }, { on := 1, ground := .phase }, { on := 2, ground := .phase }, { on := 3, ground := .phase }, { on := 4, ground := .phase }, { on := 5, ground := .phase }, { on := 6, ground := .phase }, { on := 7, ground := .phase }, { on := 8, ground := .phase }, { on := 9, ground := .phase }, { on := 10, ground := .phase }, { on := 11, ground := .phase }, { on := 12, ground := .phase }, { on := 13, ground := .phase }], guard := none }) (v := ?_) rfl (Or.inl ⟨by rfl, ?_⟩) (by assumption) ?_
    rotate_left 1
    · (intro w' hSw; (try dsimp only at hSw); go_simp; try with_reducible rfl)
    try simp only [Act.put, qqA, qqB, qqC]
    refine wpAnyH_done (by kernel_rfl) ?_ _
    have ka := (unhide A7).S
    go_wp2_with fail
    clear ka
    go_loopw [4, 27] (fun l0 i wr => ∃ (k : Nat) (v : Value), k ≤ n ∧ i = .int .i64 (k : Int) ∧ l0 = v ∧ Hid (wr.ownsRow (w.heap.size + 1) 9 1 v (k + 1) (cS (vbF nb fr fu vw vh (l.take k)))) ∧ Hid (Below w.heap.size w wr)) (fun _ i _ => n - (intOf i).toNat)
    case atStart => exact ⟨0, _, by omega, rfl, rfl, E7, B7⟩
    case round =>
      clear E7 B7 A7
      obtain ⟨k, v, hk, rfl, rfl, HO, B1⟩ := hrel
      by_cases hlt : k < n
      · have hlk : k < l.length := by rw [unhide HN]; omega
        obtain ⟨b1, off, rfl, hblt, hc⟩ := (unhide HR).at (by rw [cE_len]; omega)
        obtain ⟨x0, x1⟩ := row_ent hc k hlk
        obtain ⟨hy0, hy9⟩ := unhide HY k hlk
        obtain ⟨Y, hYY⟩ : ∃ Y : Nat, Y = l[k].1.toNat := ⟨_, rfl⟩
        have eY : l[k].1 = (Y : Int) := by omega
        obtain ⟨d, ed⟩ : ∃ d, d = l[k].2 := ⟨_, rfl⟩
        have hd6 : d.size ≤ 1048576 := by rw [ed]; exact unhide HS k hlk
        have hY256 : Y < 256 := by omega
        obtain ⟨X, hX⟩ : ∃ X, X = rowX ((Y : Int), d) := ⟨_, rfl⟩
        have HX := hide hX
        have HSN : Hid (cS (vbF nb fr fu vw vh (l.take (k + 1))) = cS (vbF nb fr fu vw vh (l.take k)) ++ [.string X]) := by
          show _ = _
          rw [vbF_snoc _ _ _ _ _ l k hlk, cS_app, hX, show l[k] = ((Y : Int), d) from by rw [← eY, ed]]; rfl
        rw [eY] at x0
        rw [← ed] at x1
        have hx0 : wr.cell? ⟨b1, off + k * 2, none⟩ = some (.int .i64 (Y : Int)) := ((unhide B1).cell (p := ⟨b1, off + k * 2, none⟩) hblt).trans x0
        have hx1 : wr.cell? ⟨b1, off + k * 2 + 1, none⟩ = some (.string d) := ((unhide B1).cell (p := ⟨b1, off + k * 2 + 1, none⟩) hblt).trans x1
        have hlt' : (k : Int) < (n : Int) := by omega
        have hlt0 : (0 : Int) ≤ (k : Int) := by omega
        have HO2 := hide ((unhide HO).alloc (.cells #[.int .i64 (Y : Int), .string d] 51))
        have HB2 := hide ((unhide B1).alloc (unhide B1).size (.cells #[.int .i64 (Y : Int), .string d] 51))
        clear hc x0 x1 ed hlk hYY eY hX hy0 hy9
        go_wp2_with (first | (go_at_call 31; refine (irowX Y hY256 d hd6 X HX _).mono ?_; rintro e w9 ⟨rfl, hb9⟩; have B9 := hide ((unhide HB2).trans (hb9.mono (unhide HB2).size)); have O9 := hide ((heldZ_of (unhide HO2)).below hb9 (Nat.le_refl _)); have hown := (unhide O9).own; have hbs := (unhide B9).size; have hbs2 : w.heap.size + 1 ≤ w9.heap.size := (by have h1 := hb9.size; have h2 := (unhide B1).size; simp at h1; omega); clear hb9) | (at_builtin; refine wpList_append_lies _ rfl (.tmp 31) (.tmp 34) 36 rfl (w.heap.size + 1) 9 i0 (.string ⟨#[]⟩) 1 16 Tryd.underlying36 hi hz0 hz1 hz2 rfl (by decide) _ _ _ rfl (hown.alloc (.cells #[.string X] 9)) ⟨w9.heap.size, 0, none⟩ 1 1 [.string X] rfl rfl (by exact news_new w9 [.string X] 9) (by intro u hu; simp at hu; subst hu; rfl) (by decide) (by unfold maxLen; omega) (by omega) (by simp; omega) _ rfl ?_; intro g7 c7 w10 hown7 hgrow7 hat7 hlt7; have HO7 := hide hown7; have HB7 := hide (((unhide B9).alloc (unhide B9).size (.cells #[.string X] 9)).grown hgrow7 (by simp; omega) (fun j hj => by have := (hown.lt j hj).1; omega)); clear hown7 hgrow7 hat7 hlt7))
        go_roundw
        case rel => exact ⟨k + 1, _, by omega, by go_num, rfl, by show World.ownsRow _ _ _ _ _ _ _; rw [unhide HSN]; exact unhide HO7, HB7⟩
        case measure => simp [intOf]; omega
      · obtain rfl : k = n := by omega
        obtain ⟨aF, cF, rfl, hrF⟩ := own_rowV (unhide HO)
        rw [List.take_of_length_le (by have := unhide HN; omega)] at hrF
        have T := ifields aF cF (vbF nb fr fu vw vh l) (by rw [vbF_len, unhide HN]; omega) (fun q hq => unhide HBIG q hq) wr hrF
        rw [vbF_len, unhide HN, unhide HFC] at T
        have HT := hide T
        have HRL : Hid (r = fbL (vbF nb fr fu vw vh l)) := unhide HRR
        clear T hrF HO
        go_wp2_with (go_at_call 32; refine (unhide HT).mono ?_; rintro e w9 ⟨v9, rfl, ho9, hb9⟩; rw [← unhide HRL] at ho9; obtain ⟨a9, c9, rfl, -⟩ := own_rowV ho9; have HO9 := hide (Go.Joins.ownsRow_le ho9 (unhide B1).size); have HB9 := hide ((unhide B1).trans (hb9.mono (unhide B1).size)); clear hb9 ho9)
        go_ret2
        exact ⟨_, rfl, unhide HO9, unhide HB9⟩
end Go.Proofs.YtblhediekdeffaaDoor
