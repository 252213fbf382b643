/- A drawn state is right. -/
import Derived.Test.YtkdplhhkkpkmoaaDoorZSrcQ
namespace Go.Proofs.YtkdplhhkkpkmoaaDoor
open Go.ChangeShapes Go.WideShapes Go.ChangeAt Go.RowKit
set_option linter.unusedVariables false
set_option linter.unusedSimpArgs false
abbrev oSrcS0 : Oper := { dst := some 32, op := .load 23 (.tmp 31), type := 23, pos := "l07_store.go:198", after := #[{ on := 0, ground := .data }], guard := none }
abbrev oSrcS1 : Oper := { dst := some 35, op := .call { callee := .value (.func 27), args := #[.tmp 33, .tmp 34], argTypes := #[38, 3] }, type := 46, pos := "l07_store.go:198", after := #[{ on := 2, ground := .data }, { on := 3, ground := .data }], guard := none }
abbrev oSrcS2 : Oper := { dst := some 36, op := .buildSlice 23 1 #[(0, .tmp 35)], type := 23, pos := "l07_store.go:198", after := #[{ on := 4, ground := .data }], guard := none }
abbrev oSrcS3 : Oper := { dst := some 37, op := .call { callee := .builtin Go.Builtin.append, args := #[.tmp 32, .tmp 36], argTypes := #[23, 23] }, type := 23, pos := "l07_store.go:198", after := #[{ on := 1, ground := .data }, { on := 5, ground := .data }, { on := 4, ground := .chain }], guard := none }
abbrev oSrcS4 : Oper := { dst := some 38, op := .fieldAddr 25 (.tmp 3) 2, type := 0, pos := "l07_store.go:198", after := #[{ on := 0, ground := .phase }, { on := 1, ground := .phase }, { on := 2, ground := .phase }, { on := 3, ground := .phase }, { on := 4, ground := .phase }, { on := 5, ground := .phase }, { on := 6, ground := .phase }], guard := none }
abbrev oSrcS5 : Oper := { dst := none, op := .store 23 (.tmp 38) (.tmp 37), type := 0, pos := "l07_store.go:198", after := #[{ on := 7, ground := .data }, { on := 6, ground := .data }, { on := 6, ground := .chain }, { on := 0, ground := .phase }, { on := 1, ground := .phase }, { on := 2, ground := .phase }, { on := 3, ground := .phase }, { on := 4, ground := .phase }, { on := 5, ground := .phase }, { on := 6, ground := .phase }], guard := none }
theorem logB_snoc {T : Int} : ∀ {l : List Ent} {p t : Int} {d : ByteArray}, logB T p l = true → (∀ e ∈ l, e.1 ≤ t) → p ≤ t → t ≤ T → d.size ≤ 400 → logB T p (l ++ [(t, d)]) = true
 | [], p, t, d, _, _, h1, h2, h3 => by
  show (entB p T (t, d) && true) = true
  simp [entB, inB, h1, h2, h3]
 | e :: l, p, t, d, h, hm, h1, h2, h3 => by
  rw [logB, Bool.and_eq_true] at h
  rw [List.cons_append, logB, Bool.and_eq_true]
  exact ⟨h.1, logB_snoc h.2 (fun x hx => hm x (List.mem_cons_of_mem _ hx)) (hm e List.mem_cons_self) h2 h3⟩
theorem logB_snoc2 {T t t2 : Int} {l : List Ent} {d : ByteArray} (h : logB T 1 l = true ∧ ∀ e ∈ l, e.1 ≤ t) (h0 : t ≤ t2) (h1 : 1 ≤ t2) (h2 : t2 ≤ T) (h3 : d.size ≤ 400) : Hid (logB T 1 (l ++ [(t2, d)]) = true ∧ ∀ e ∈ l ++ [(t2, d)], e.1 ≤ t2) :=
 ⟨logB_snoc h.1 (fun e he => Int.le_trans (h.2 e he) h0) h1 h2 h3, fun e he => by
  rcases List.mem_append.1 he with he | he
  ·exact Int.le_trans (h.2 e he) h0
  ·obtain rfl := List.mem_singleton.1 he; exact Int.le_refl _⟩
set_option maxHeartbeats 4000000 in
set_option maxRecDepth 100000 in
theorem sstateD (g : Nat) (a : Option Addr) (cap : Nat) (lc : List UInt8) (p s : Nat) (hl : lc.length ≤ 1048600) (hp : p ≤ 900000) (hs : s < 2147483648) (w : World) (h : SrcAt w g a cap lc p s) (hr : Row8 w a lc) (hg : ApartOf a lc g) :
  Calls Tryd.prog 13 #[.pointer (some ⟨g, 0, none⟩)] w fun e w' => ∃ (tm vt : Int) (va : Option Addr) (n vc : Nat) (l : List Ent), e = .returned (.agg #[.int .i64 tm, .int .i64 vt, .slice va n vc]) ∧ l.length = n ∧ n ≤ 5 ∧ (0 ≤ tm ∧ tm ≤ 3) ∧ (-1 ≤ vt ∧ vt ≤ 2) ∧ logB tm 1 l = true ∧ w'.ownsRow w.heap.size 46 2 (.slice va n vc) n (cE l) ∧ w.grownBy w' (some g) := by
 obtain ⟨i0, hi, hz0, hz1, hz2⟩ := info_parts Tryd.infE46
 have hgw : g < w.heap.size := ArrAt.lt h
 have HR := hide hr
 have HGN := hide hg
 have G0 := hide (below_grownQ (Go.Joins.below_alloc1 w (.cells #[.int .i64 0, .int .i64 0, .slice none 0 0] 25)) (some g))
 have R0 := hide (BF.new w #[.int .i64 0, .int .i64 0, .slice none 0 0] 25)
 have HN := hide (snextI 4 g a cap lc p s (by decide) (by decide) hl (by omega) hs _ (ArrAt.alloc h (.cells #[.int .i64 0, .int .i64 0, .slice none 0 0] 25)) ((unhide HR).grown (unhide G0) hg) hg)
 clear h hr hg hs
 go_enter Tryd.func13, Tryd.ntmps13
 go_wp2_with fail
 refine (unhide HN).mono ?_
 rintro e w1 ⟨tm, s1, rfl, htm, hs1, hA1, hG1⟩
 have A1 := hide hA1
 have Q1 := hide hs1
 have G1 := hide (World.grownBy.trans' (unhide G0) hG1)
 have R1 := hide ((unhide R0).grown hG1 (fun e => by have := Option.some.inj e; omega))
 clear hA1 hs1 hG1 G0 R0 HN
 go_wp2_with fail
 refine (snextI 4 g a cap lc (p + 1) s1 (by decide) (by decide) hl (by omega) (unhide Q1) w1 (unhide A1) ((unhide HR).grown (unhide G1) (unhide HGN)) (unhide HGN)).mono ?_
 rintro e w2 ⟨y, s2, rfl, hy, hs2, hA2, hG2⟩
 have A2 := hide hA2
 have Q2 := hide hs2
 have G2 := hide (World.grownBy.trans' (unhide G1) hG2)
 have R2 := hide ((unhide R1).grown hG2 (fun e => by have := Option.some.inj e; omega))
 clear hA2 hs2 hG2 G1 R1 A1 Q1
 obtain ⟨vt, hvt⟩ : ∃ v, v = y - 1 := ⟨_, rfl⟩
 have hvt0 : -1 ≤ vt ∧ vt ≤ 2 := by omega
 have wvt : IntKind.i64.wrap (y - 1) = vt := by rw [hvt]; exact wrapi _ (by omega) (by omega)
 clear hvt
 go_wp2_with fail
 have O2 := hide (World.ownsRow_lit (e := 46) (base := w.heap.size) (size := 2) w2 #[] 0 (unhide G2).size (by decide) rfl)
 obtain ⟨P, hPe⟩ : ∃ P, P = w2.heap.size + 1 := ⟨_, rfl⟩
 obtain ⟨N2, hN2⟩ : ∃ N, N = w2.heap.size := ⟨_, rfl⟩
 have hPz : (w2.alloc (.cells #[] 46)).heap.size = P := by rw [hPe]; simp
 have hwP : w.heap.size ≤ P := by have := (unhide G2).size; omega
 have hwN : w.heap.size < N2 := by rw [hN2]; exact (unhide R2).lt
 have b2 := (Go.Joins.below_alloc2 w2 (.cells #[] 46) (.cells #[.int .i64 tm, .int .i64 vt, .slice (some ⟨N2, 0, none⟩) 0 0] 25))
 have D0 : Hid (Ds w g P w.heap.size w.heap.size #[.int .i64 0, .int .i64 0, .slice none 0 0] a cap lc tm vt (some ⟨N2, 0, none⟩) 0 0 [] (p + 1 + 1) s2 ((w2.alloc (.cells #[] 46)).alloc (.cells #[.int .i64 tm, .int .i64 vt, .slice (some ⟨N2, 0, none⟩) 0 0] 25))) := by
  show Ds _ _ _ _ _ _ _ _ _ _ _ _ _ _ _ _ _ _
  refine ⟨ArrAt.alloc (ArrAt.alloc (unhide A2) _) _, World.grownBy.trans' (unhide G2) (below_grownQ b2 _), ?_, ((unhide R2).alloc _).alloc _, ?_, fun j hj => ?_, rfl⟩
  ·rw [← hPz]; exact BF.new _ _ _
  ·rw [hN2]; exact (unhide O2).alloc _
  ·have e : N2 = j := Option.some.inj hj
   omega
 have hgP : g ≠ P := by omega
 have hgr : g ≠ w.heap.size := by omega
 have hPr : P ≠ w.heap.size := by omega
 have hgl : g < w.heap.size := hgw
 have HNP : Hid (P = N2 + 1) := by show _ = _; omega
 have HN2 := hide hN2
 have HPe := hide hPe
 have HPz := hide hPz
 clear O2 hN2 hPe hPz b2 R2 A2 G2 wvt hy
 rw [← unhide HN2, ← unhide HNP]
 generalize (w2.alloc (.cells #[] 46)).alloc (.cells #[.int .i64 tm, .int .i64 vt, .slice (some ⟨N2, 0, none⟩) 0 0] 25) = w3 at D0 ⊢
 refine (snextI 6 g a cap lc (p + 1 + 1) s2 (by decide) (by decide) hl (by omega) (unhide Q2) w3 (unhide D0).1 ((unhide HR).grown (unhide D0).2.1 (unhide HGN)) (unhide HGN)).mono ?_
 rintro e w4 ⟨x, s3, rfl, hx, hs3, hA, hG⟩
 have D3 := hide ((unhide D0).nx hG hA hgP hgr hgl)
 have Q3 := hide hs3
 clear hA hG hs3 D0 Q2
 have HL0 : Hid (logB tm 1 [] = true ∧ ∀ e ∈ ([] : List Ent), e.1 ≤ 1) := ⟨rfl, fun e he => by simp at he⟩
 go_wp2_with fail
 go_loopw [4, 5] (fun t i wr => ∃ (k p1 s1 : Nat) (term : Int) (va : Option Addr) (n vc : Nat) (l : List Ent), t = .int .i64 term ∧ i = .int .i64 (k : Int) ∧ n + k ≤ 5 ∧ p1 + 2 * k ≤ p + 20 ∧ 1 ≤ term ∧ term ≤ 3 ∧ (0 < tm → term ≤ tm) ∧ Hid (s1 < 2147483648) ∧ Hid (Ds w g P w.heap.size w.heap.size #[.int .i64 0, .int .i64 0, .slice none 0 0] a cap lc tm vt va n vc l p1 s1 wr) ∧ Hid (logB tm 1 l = true ∧ ∀ e ∈ l, e.1 ≤ term)) (fun _ i _ => (intOf i).toNat)
 case atStart => exact ⟨x.toNat, p + 1 + 1 + 1, s3, 1, some ⟨N2, 0, none⟩, 0, 0, [], rfl, (by rw [Int.toNat_of_nonneg hx.1]), by omega, by omega, by omega, by omega, fun _ => by omega, Q3, D3, HL0⟩
 case round =>
  clear Q3 D3 HL0
  obtain ⟨k, p1, s0, term, va, n, vc, l, rfl, rfl, hk, hp1, ht1, ht3, htm1, Q0, D0, HL⟩ := hrel
  by_cases h0 : 0 < k
  ·have h0' : 0 < (k : Int) := by omega
   have kz := (unhide D0).2.2.1.S
   by_cases htz : 0 < tm
   ·have htt := htm1 htz
    clear htm1
    go_wp2_with fail
    clear kz
    refine wp_region_held_drew (S := fun w' => w'.cell? ⟨P, 0, none⟩ = some (.int .i64 tm)) (by kernel_rfl) ((unhide D0).2.2.1.S 0) (fun hHeld => ?_)
    have D0q := hide (unhide D0).drew
    clear D0
    generalize wr.drew = v0 at D0q hHeld ⊢
    have D0 := D0q
    clear D0q
    refine wtv 0 (oi := { dst := some 24, op := .fieldAddr 25 (.tmp 3) 0, type := 0, pos := "l07_store.go:197", after := #[], guard := none }) ?_
    refine wtv 1 (oi := { dst := some 25, op := .load 3 (.tmp 24), type := 3, pos := "l07_store.go:197", after := #[{ on := 0, ground := .data }], guard := none }) ?_
    refine wtv 2 (oi := { dst := some 26, op := .move (.tmp 4), type := 3, pos := "l07_store.go:197", after := #[], guard := none }) ?_
    refine wtv 3 (oi := { dst := some 27, op := .move (.tmp 0), type := 38, pos := "l07_store.go:197", after := #[], guard := none }) ?_
    refine wpAnyH_ready (rs := [4]) (by kernel_rfl) (by simp) ?_
    refine AllReadyH.cons (o := { dst := some 28, op := .call { callee := .value (.func 26), args := #[.tmp 27, .const (.int .i64 2)], argTypes := #[38, 3] }, type := 3, pos := "l07_store.go:197", after := #[{ on := 3, ground := .data }], guard := none }) rfl (fun K hK => ?_) AllReadyH.nil
    go_simp
    refine (snextI 2 g a cap lc _ _ (by omega) (by omega) hl (by omega) (unhide Q0) v0 (unhide D0).1 ((unhide HR).grown (unhide D0).2.1 (unhide HGN)) (unhide HGN)).mono ?_
    rintro e v1 ⟨y, s1, rfl, hy, hs, hA, hG⟩
    have D1 := hide ((unhide D0).nx hG hA hgP hgr hgl)
    have Q1 := hide hs
    clear hA hG hs D0 Q0
    go_wp2_with fail
    refine hK.out _ _ ?_ (fun hHeld4 => ?_)
    ·exact (unhide D1).2.2.1.S 0
    clear hK K
    try simp only [Act.put, qqA, qqB, qqC]
    refine wtv 5 (oi := { dst := some 29, op := .binOp .add 3 (.tmp 26) (.tmp 28) 3, type := 3, pos := "l07_store.go:197", after := #[{ on := 2, ground := .data }, { on := 4, ground := .data }], guard := none }) ?_
    rw [show IntKind.i64.wrap (term + y) = term + y from wrapi _ (by omega) (by omega)]
    refine wtv 6 (oi := { dst := some 30, op := .call { callee := .builtin Go.Builtin.min, args := #[.tmp 25, .tmp 29], argTypes := #[3, 3] }, type := 3, pos := "l07_store.go:197", after := #[{ on := 1, ground := .data }, { on := 5, ground := .data }], guard := none }) ?_
    refine wtv 7 (oi := { dst := some 4, op := .assign (.tmp 30), type := 3, pos := "l07_store.go:197", after := #[{ on := 6, ground := .data }, { on := 4, ground := .chain }, { on := 0, ground := .phase }, { on := 1, ground := .phase }, { on := 2, ground := .phase }, { on := 3, ground := .phase }, { on := 4, ground := .phase }, { on := 5, ground := .phase }, { on := 6, ground := .phase }], guard := none }) ?_
    refine wpAnyH_done (by kernel_rfl) ?_ _
    obtain ⟨term2, ht2⟩ : ∃ t : Int, t = if term + y < tm then term + y else tm := ⟨_, rfl⟩
    first
     | rw [← ht2]
     | rw [show min tm (term + y) = term2 from by rw [ht2, Int.min_def]; split <;> split <;> omega]
    have htb : term ≤ term2 ∧ term2 ≤ tm := by rw [ht2]; split <;> omega
    clear ht2
    have D0 := D1
    have Q0 := Q1
    clear D1 Q1
    go_wp2_with fail
    refine wp_region_held_drew (S := fun w' => w'.cell? ⟨P, 0, none⟩ = some (.int .i64 tm)) (by kernel_rfl) ((unhide D0).2.2.1.S 0) (fun hHeld => ?_)
    have D0q := hide (unhide D0).drew
    clear D0
    generalize v1.drew = v0 at D0q hHeld ⊢
    have D0 := D0q
    clear D0q
    refine wtv 0 (oi := { dst := some 31, op := .fieldAddr 25 (.tmp 3) 2, type := 0, pos := "l07_store.go:198", after := #[], guard := none }) ?_
    refine wtv 2 (oi := { dst := some 33, op := .move (.tmp 0), type := 38, pos := "l07_store.go:198", after := #[], guard := none }) ?_
    refine wtv 3 (oi := { dst := some 34, op := .move (.tmp 4), type := 3, pos := "l07_store.go:198", after := #[], guard := none }) ?_
    refine wpAnyH_ready (rs := [1, 4]) (by kernel_rfl) (by simp) ?_
    refine AllReadyH.cons (o := oSrcS0) rfl (fun K hK => ?_) (AllReadyH.cons (o := oSrcS1) rfl (fun K hK => ?_) AllReadyH.nil)
    ·have kz := (unhide D0).2.2.1.S
     go_simp
     refine hK.out _ _ ?_ (fun hHeld1 => ?_)
     ·exact (unhide D0).2.2.1.S 0
     clear hK K
     try simp only [Act.put, qqA, qqB, qqC]
     clear kz
     refine wpAnyH_ready (rs := [4]) (by kernel_rfl) (by simp) ?_
     refine AllReadyH.cons (o := oSrcS1) rfl (fun K hK => ?_) AllReadyH.nil
     go_simp
     refine (sentryD term2 g a cap lc _ _ hl (by omega) (unhide Q0) v0 (unhide D0).1 ((unhide HR).grown (unhide D0).2.1 (unhide HGN)) (unhide HGN)).mono ?_
     rintro e v1 ⟨d, s1, rfl, hd, hs, hA, hG⟩
     have D1 := hide ((unhide D0).nx hG hA hgP hgr hgl)
     have Q1 := hide hs
     clear hA hG hs D0 Q0
     go_wp2_with fail
     refine hK.out _ _ ?_ (fun hHeld4 => ?_)
     ·exact (unhide D1).2.2.1.S 0
     clear hK K
     try simp only [Act.put, qqA, qqB, qqC]
     refine wpAnyH_ready (rs := [5]) (by kernel_rfl) (by simp) ?_
     refine AllReadyH.cons (o := oSrcS2) rfl (fun K hK => ?_) AllReadyH.nil
     obtain ⟨G, hG⟩ : ∃ G, G = v1.heap.size := ⟨_, rfl⟩
     have hb6 : Below v1.heap.size v1 (v1.alloc (.cells #[.int .i64 term2, .string d] 46)) := Go.Joins.below_alloc1 v1 (.cells #[.int .i64 term2, .string d] 46)
     have D2 := hide ((unhide D1).bl hb6)
     have R6 := hide (BF.new v1 #[.int .i64 term2, .string d] 46)
     rw [← hG] at R6
     go_simp
     refine hK.out _ _ ?_ (fun hHeld5 => ?_)
     ·exact (unhide D2).2.2.1.S 0
     clear hK K
     try simp only [Act.put, qqA, qqB, qqC]
     rw [← hG]
     clear hb6 hG D1
     generalize v1.alloc (.cells #[.int .i64 term2, .string d] 46) = v2 at R6 D2 hHeld5 ⊢
     have Q2 := Q1
     clear Q1
     refine wpAnyH_ready (rs := [6]) (by kernel_rfl) (by simp) ?_
     refine AllReadyH.cons (o := oSrcS3) rfl (fun K hK => ?_) AllReadyH.nil
     refine step_append_lies v2 rfl (.tmp 32) (.tmp 36) 23 rfl w.heap.size 46 i0 (.agg #[.int .i64 0, .string ⟨#[]⟩]) 2 24 Tryd.underlying23 hi hz0 hz1 hz2 rfl (by decide) (.slice va n vc) n (cE l) rfl (unhide D2).2.2.2.2.1 ⟨G, 0, none⟩ 1 1 [.int .i64 term2, .string d] rfl rfl (by intro j u hj; have e := (unhide R6).S j; rw [show (⟨G, 0, none⟩ : Addr).add j = ⟨G, j, none⟩ from (by unfold Addr.add; split <;> simp_all)]; rw [e]; simpa using hj) (by intro u hu; simp at hu; rcases hu with rfl | rfl <;> rfl) (by decide) (by unfold maxLen; omega) (by omega) (unhide D2).2.1.size _ rfl ?_
     intro g7 c7 v7 ho7 hg7 hat7 hlt7
     obtain ⟨hP7, hD7⟩ := (unhide D2).put hgP hPr hwP hgl (Nat.le_refl _) (x := (term2, d)) ho7 hg7 hat7 rfl
     have P7 := hide hP7
     have D7 := hide hD7
     clear ho7 hg7 hat7 hlt7 hP7 hD7 R6 D2
     refine hK.out _ _ ?_ (fun hHeld6 => ?_)
     ·exact (unhide P7).S 0
     clear hK K
     try simp only [Act.put, qqA, qqB, qqC]
     refine wtv 7 (oi := oSrcS4) ?_
     refine wpAnyH_ready (rs := [8]) (by kernel_rfl) (by simp) ?_
     refine AllReadyH.cons (o := oSrcS5) rfl (fun K hK => ?_) AllReadyH.nil
     have kp := (unhide P7).S
     have kpf := (unhide P7).F
     go_simp
     refine hK.out _ _ ?_ (fun hHeld8 => ?_)
     ·exact (unhide D7).2.2.1.S 0
     clear hK K
     try simp only [Act.put, qqA, qqB, qqC]
     refine wpAnyH_done (by kernel_rfl) ?_ _
     clear kp kpf P7
     go_wp2_with fail
     go_roundw
     case rel => exact ⟨k - 1, _, _, term2, some ⟨g7, 0, none⟩, n + 1, c7, l ++ [(term2, d)], rfl, by go_num, by omega, by omega, by omega, by omega, fun _ => by omega, Q2, D7, logB_snoc2 (unhide HL) (by omega) (by omega) (by omega) hd⟩
     case measure => simp [intOf]; omega
    ·go_simp
     refine (sentryD term2 g a cap lc _ _ hl (by omega) (unhide Q0) v0 (unhide D0).1 ((unhide HR).grown (unhide D0).2.1 (unhide HGN)) (unhide HGN)).mono ?_
     rintro e v1 ⟨d, s1, rfl, hd, hs, hA, hG⟩
     have D1 := hide ((unhide D0).nx hG hA hgP hgr hgl)
     have Q1 := hide hs
     clear hA hG hs D0 Q0
     go_wp2_with fail
     refine hK.out _ _ ?_ (fun hHeld4 => ?_)
     ·exact (unhide D1).2.2.1.S 0
     clear hK K
     try simp only [Act.put, qqA, qqB, qqC]
     refine wpAnyH_ready (rs := [1, 5]) (by kernel_rfl) (by simp) ?_
     refine AllReadyH.cons (o := oSrcS0) rfl (fun K hK => ?_) (AllReadyH.cons (o := oSrcS2) rfl (fun K hK => ?_) AllReadyH.nil)
     ·have kz := (unhide D1).2.2.1.S
      go_simp
      refine hK.out _ _ ?_ (fun hHeld1 => ?_)
      ·exact (unhide D1).2.2.1.S 0
      clear hK K
      try simp only [Act.put, qqA, qqB, qqC]
      clear kz
      refine wpAnyH_ready (rs := [5]) (by kernel_rfl) (by simp) ?_
      refine AllReadyH.cons (o := oSrcS2) rfl (fun K hK => ?_) AllReadyH.nil
      obtain ⟨G, hG⟩ : ∃ G, G = v1.heap.size := ⟨_, rfl⟩
      have hb6 : Below v1.heap.size v1 (v1.alloc (.cells #[.int .i64 term2, .string d] 46)) := Go.Joins.below_alloc1 v1 (.cells #[.int .i64 term2, .string d] 46)
      have D2 := hide ((unhide D1).bl hb6)
      have R6 := hide (BF.new v1 #[.int .i64 term2, .string d] 46)
      rw [← hG] at R6
      go_simp
      refine hK.out _ _ ?_ (fun hHeld5 => ?_)
      ·exact (unhide D2).2.2.1.S 0
      clear hK K
      try simp only [Act.put, qqA, qqB, qqC]
      rw [← hG]
      clear hb6 hG D1
      generalize v1.alloc (.cells #[.int .i64 term2, .string d] 46) = v2 at R6 D2 hHeld5 ⊢
      have Q2 := Q1
      clear Q1
      refine wpAnyH_ready (rs := [6]) (by kernel_rfl) (by simp) ?_
      refine AllReadyH.cons (o := oSrcS3) rfl (fun K hK => ?_) AllReadyH.nil
      refine step_append_lies v2 rfl (.tmp 32) (.tmp 36) 23 rfl w.heap.size 46 i0 (.agg #[.int .i64 0, .string ⟨#[]⟩]) 2 24 Tryd.underlying23 hi hz0 hz1 hz2 rfl (by decide) (.slice va n vc) n (cE l) rfl (unhide D2).2.2.2.2.1 ⟨G, 0, none⟩ 1 1 [.int .i64 term2, .string d] rfl rfl (by intro j u hj; have e := (unhide R6).S j; rw [show (⟨G, 0, none⟩ : Addr).add j = ⟨G, j, none⟩ from (by unfold Addr.add; split <;> simp_all)]; rw [e]; simpa using hj) (by intro u hu; simp at hu; rcases hu with rfl | rfl <;> rfl) (by decide) (by unfold maxLen; omega) (by omega) (unhide D2).2.1.size _ rfl ?_
      intro g7 c7 v7 ho7 hg7 hat7 hlt7
      obtain ⟨hP7, hD7⟩ := (unhide D2).put hgP hPr hwP hgl (Nat.le_refl _) (x := (term2, d)) ho7 hg7 hat7 rfl
      have P7 := hide hP7
      have D7 := hide hD7
      clear ho7 hg7 hat7 hlt7 hP7 hD7 R6 D2
      refine hK.out _ _ ?_ (fun hHeld6 => ?_)
      ·exact (unhide P7).S 0
      clear hK K
      try simp only [Act.put, qqA, qqB, qqC]
      refine wtv 7 (oi := oSrcS4) ?_
      refine wpAnyH_ready (rs := [8]) (by kernel_rfl) (by simp) ?_
      refine AllReadyH.cons (o := oSrcS5) rfl (fun K hK => ?_) AllReadyH.nil
      have kp := (unhide P7).S
      have kpf := (unhide P7).F
      go_simp
      refine hK.out _ _ ?_ (fun hHeld8 => ?_)
      ·exact (unhide D7).2.2.1.S 0
      clear hK K
      try simp only [Act.put, qqA, qqB, qqC]
      refine wpAnyH_done (by kernel_rfl) ?_ _
      clear kp kpf P7
      go_wp2_with fail
      go_roundw
      case rel => exact ⟨k - 1, _, _, term2, some ⟨g7, 0, none⟩, n + 1, c7, l ++ [(term2, d)], rfl, by go_num, by omega, by omega, by omega, by omega, fun _ => by omega, Q2, D7, logB_snoc2 (unhide HL) (by omega) (by omega) (by omega) hd⟩
      case measure => simp [intOf]; omega
     ·obtain ⟨G, hG⟩ : ∃ G, G = v1.heap.size := ⟨_, rfl⟩
      have hb6 : Below v1.heap.size v1 (v1.alloc (.cells #[.int .i64 term2, .string d] 46)) := Go.Joins.below_alloc1 v1 (.cells #[.int .i64 term2, .string d] 46)
      have D2 := hide ((unhide D1).bl hb6)
      have R6 := hide (BF.new v1 #[.int .i64 term2, .string d] 46)
      rw [← hG] at R6
      go_simp
      refine hK.out _ _ ?_ (fun hHeld5 => ?_)
      ·exact (unhide D2).2.2.1.S 0
      clear hK K
      try simp only [Act.put, qqA, qqB, qqC]
      rw [← hG]
      clear hb6 hG D1
      generalize v1.alloc (.cells #[.int .i64 term2, .string d] 46) = v2 at R6 D2 hHeld5 ⊢
      have Q2 := Q1
      clear Q1
      refine wpAnyH_ready (rs := [1]) (by kernel_rfl) (by simp) ?_
      refine AllReadyH.cons (o := oSrcS0) rfl (fun K hK => ?_) AllReadyH.nil
      have kz := (unhide D2).2.2.1.S
      go_simp
      refine hK.out _ _ ?_ (fun hHeld1 => ?_)
      ·exact (unhide D2).2.2.1.S 0
      clear hK K
      try simp only [Act.put, qqA, qqB, qqC]
      clear kz
      refine wpAnyH_ready (rs := [6]) (by kernel_rfl) (by simp) ?_
      refine AllReadyH.cons (o := oSrcS3) rfl (fun K hK => ?_) AllReadyH.nil
      refine step_append_lies v2 rfl (.tmp 32) (.tmp 36) 23 rfl w.heap.size 46 i0 (.agg #[.int .i64 0, .string ⟨#[]⟩]) 2 24 Tryd.underlying23 hi hz0 hz1 hz2 rfl (by decide) (.slice va n vc) n (cE l) rfl (unhide D2).2.2.2.2.1 ⟨G, 0, none⟩ 1 1 [.int .i64 term2, .string d] rfl rfl (by intro j u hj; have e := (unhide R6).S j; rw [show (⟨G, 0, none⟩ : Addr).add j = ⟨G, j, none⟩ from (by unfold Addr.add; split <;> simp_all)]; rw [e]; simpa using hj) (by intro u hu; simp at hu; rcases hu with rfl | rfl <;> rfl) (by decide) (by unfold maxLen; omega) (by omega) (unhide D2).2.1.size _ rfl ?_
      intro g7 c7 v7 ho7 hg7 hat7 hlt7
      obtain ⟨hP7, hD7⟩ := (unhide D2).put hgP hPr hwP hgl (Nat.le_refl _) (x := (term2, d)) ho7 hg7 hat7 rfl
      have P7 := hide hP7
      have D7 := hide hD7
      clear ho7 hg7 hat7 hlt7 hP7 hD7 R6 D2
      refine hK.out _ _ ?_ (fun hHeld6 => ?_)
      ·exact (unhide P7).S 0
      clear hK K
      try simp only [Act.put, qqA, qqB, qqC]
      refine wtv 7 (oi := oSrcS4) ?_
      refine wpAnyH_ready (rs := [8]) (by kernel_rfl) (by simp) ?_
      refine AllReadyH.cons (o := oSrcS5) rfl (fun K hK => ?_) AllReadyH.nil
      have kp := (unhide P7).S
      have kpf := (unhide P7).F
      go_simp
      refine hK.out _ _ ?_ (fun hHeld8 => ?_)
      ·exact (unhide D7).2.2.1.S 0
      clear hK K
      try simp only [Act.put, qqA, qqB, qqC]
      refine wpAnyH_done (by kernel_rfl) ?_ _
      clear kp kpf P7
      go_wp2_with fail
      go_roundw
      case rel => exact ⟨k - 1, _, _, term2, some ⟨g7, 0, none⟩, n + 1, c7, l ++ [(term2, d)], rfl, by go_num, by omega, by omega, by omega, by omega, fun _ => by omega, Q2, D7, logB_snoc2 (unhide HL) (by omega) (by omega) (by omega) hd⟩
      case measure => simp [intOf]; omega
   ·have kr := (unhide D0).2.2.2.1.S
    have krf := (unhide D0).2.2.2.1.F
    go_wp2_with fail
    refine bodyPost_ret (v := .agg #[.int .i64 tm, .int .i64 vt, .slice va n vc]) (by simp [results, Tryd.results13, go_sem, kr]) rfl ⟨tm, vt, va, n, vc, rfl, l, (unhide D0).2.2.2.2.2.2, by omega, ⟨by omega, by omega⟩, hvt0, (unhide HL).1, ?_, grown_set (grown_set (grown_set (unhide D0).2.1 (Nat.le_refl _) 0 _) (Nat.le_refl _) 1 _) (Nat.le_refl _) 2 _⟩
    refine own_keepG (unhide D0).2.2.2.2.1 (fun j hj => ?_)
    have hne := ((unhide D0).2.2.2.2.2.1 j hj).2
    exact (Below.heap_setCell _ _ _ _ hne).trans ((Below.heap_setCell _ _ _ _ hne).trans (Below.heap_setCell _ _ _ _ hne))
  ·have h0' : ¬ 0 < (k : Int) := by omega
   have kz := (unhide D0).2.2.1.S
   have kr := (unhide D0).2.2.2.1.S
   have krf := (unhide D0).2.2.2.1.F
   go_wp2_with fail
   refine bodyPost_ret (v := .agg #[.int .i64 tm, .int .i64 vt, .slice va n vc]) (by simp [results, Tryd.results13, go_sem, kr]) rfl ⟨tm, vt, va, n, vc, rfl, l, (unhide D0).2.2.2.2.2.2, by omega, ⟨by omega, by omega⟩, hvt0, (unhide HL).1, ?_, grown_set (grown_set (grown_set (unhide D0).2.1 (Nat.le_refl _) 0 _) (Nat.le_refl _) 1 _) (Nat.le_refl _) 2 _⟩
   refine own_keepG (unhide D0).2.2.2.2.1 (fun j hj => ?_)
   have hne := ((unhide D0).2.2.2.2.2.1 j hj).2
   exact (Below.heap_setCell _ _ _ _ hne).trans ((Below.heap_setCell _ _ _ _ hne).trans (Below.heap_setCell _ _ _ _ hne))
end Go.Proofs.YtkdplhhkkpkmoaaDoor
