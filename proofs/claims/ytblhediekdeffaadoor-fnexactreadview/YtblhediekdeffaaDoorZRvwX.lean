/- ReadView: what the specification answers, put together. -/
import Derived.Test.YtblhediekdeffaaDoorZRvwU
namespace Go.Proofs.YtblhediekdeffaaDoor
open Go.ChangeShapes Go.WideShapes Go.ChangeAt Go.RowKit
set_option linter.unusedVariables false
theorem rvok_uniq {l : List UInt8} {v u : Vv} (h1 : RvOk l v) (h2 : RvOk l u) : v = u := by
  obtain ⟨f0, rs, x2, hf, -, hx, -, -, hfu, hl, -⟩ := h1
  obtain ⟨g0, gs, y2, hg, -, hy, -, -, hgu, hm, -⟩ := h2
  rw [hf] at hg
  injection hg with hg
  injection hg with e1 e2
  subst e1 e2
  rw [hx] at hy
  injection hy with e0 hy
  injection hy with e1 hy
  injection hy with e2 hy
  injection hy with e3 hy
  injection hy with e4 hy
  cases v
  cases u
  simp only at e0 e1 e3 e4 hfu hl hgu hm
  subst e0 e1 e2 e3 e4 hfu hl hgu hm
  rfl
set_option maxHeartbeats 1000000 in
theorem sl11 (s : ByteArray) (hs : s.size ≤ 65536) (w : World) : Calls Tryd.prog 12 #[.string s] w fun e w' => ∃ (R : Bool) (nb fr : Int) (fu : Bool) (vw vh : Int) (L : List Rw) (v : Value), e = .returned (.tuple #[.agg #[.int .i64 nb, .int .i64 fr, .bool fu, .int .i64 vw, .int .i64 vh, v], .bool R]) ∧ w'.ownsRow w.heap.size 51 2 v L.length (cE L) ∧ ((R = true ∧ RvOk s.data.toList ⟨nb, fr, fu, vw, vh, L⟩) ∨ (R = false ∧ ∀ u, ¬ RvOk s.data.toList u)) ∧ Below w.heap.size w w' := by
  have hlen := text_len s
  have hlong : ¬ 65536 < s.data.toList.length := by omega
  have zero : ∀ {e : Ending} {w' : World}, (∀ u, ¬ RvOk s.data.toList u) → (e = .returned (.tuple #[.agg #[.int .i64 0, .int .i64 0, .bool false, .int .i64 0, .int .i64 0, .slice none 0 0], .bool false]) ∧ Below w.heap.size w w') → ∃ (R : Bool) (nb fr : Int) (fu : Bool) (vw vh : Int) (L : List Rw) (v : Value), e = .returned (.tuple #[.agg #[.int .i64 nb, .int .i64 fr, .bool fu, .int .i64 vw, .int .i64 vh, v], .bool R]) ∧ w'.ownsRow w.heap.size 51 2 v L.length (cE L) ∧ ((R = true ∧ RvOk s.data.toList ⟨nb, fr, fu, vw, vh, L⟩) ∨ (R = false ∧ ∀ u, ¬ RvOk s.data.toList u)) ∧ Below w.heap.size w w' := fun hno h =>
    ⟨false, 0, 0, false, 0, 0, [], .slice none 0 0, h.1, World.ownsRow_nil _ _ _ _, .inr ⟨rfl, hno⟩, h.2⟩
  cases hrf : rfOf s.data.toList with
  | none =>
    have T1 : Hid (∀ w1, Calls Tryd.prog 20 #[.string s] w1 fun e w' => ∃ v', e = .returned (.tuple #[v', .bool false]) ∧ w'.ownsRow w1.heap.size 9 1 v' 0 (cS []) ∧ Below w1.heap.size w1 w') := fun w1 => (sread s hs w1).mono (by
      rintro e w' ⟨⟨m, v, c, rfl, ho, h | ⟨rfl, rfl, -⟩⟩, hb⟩
      · rw [hrf] at h; exact absurd h.2 (by simp)
      · exact ⟨v, rfl, ho, hb⟩)
    exact (srv_none s w T1).mono fun e w' h => zero (fun u hu => by obtain ⟨f0, rs, x2, h, -⟩ := hu; rw [hrf] at h; cases h) h
  | some m =>
    have hsz := rf_shV hlong hrf
    have h60 := rf_lenV hrf
    have T1 : Hid (∀ w1, Calls Tryd.prog 20 #[.string s] w1 fun e w' => ∃ v', e = .returned (.tuple #[v', .bool true]) ∧ w'.ownsRow w1.heap.size 9 1 v' m.length (cS m) ∧ Below w1.heap.size w1 w') := fun w1 => (sread s hs w1).mono (by
      rintro e w' ⟨⟨m2, v, c, rfl, ho, ⟨rfl, h⟩ | ⟨-, -, h⟩⟩, hb⟩
      · rw [hrf] at h; injection h with h; subst h; exact ⟨v, rfl, ho, hb⟩
      · rw [hrf] at h; exact absurd h (by simp))
    cases m with
    | nil => exact (srv_nil s w T1).mono fun e w' h => zero (fun u hu => by obtain ⟨f0, rs, x2, h, -⟩ := hu; rw [hrf] at h; cases h) h
    | cons f0 rs =>
      obtain ⟨r, hrn⟩ : ∃ r, rs.length = r := ⟨_, rfl⟩
      have hr60 : r + 1 ≤ 60 := by simp only [List.length_cons] at h60; omega
      have hml : (f0 :: rs).length = r + 1 := by simp [hrn]
      rw [hml] at T1
      have hs0 : f0.size ≤ 20000 := hsz 0 (by simp)
      have hrz : ∀ k (h : k < rs.length), rs[k].size ≤ 1048576 := fun k h => Nat.le_trans (hsz (k + 1) (by simp; omega)) (by decide)
      have hin : ∀ {P : Prop}, (∀ (x2 : Int) (u : Vv), f0.size = 15 → numsR f0.data.toList 5 = [u.nb, u.fr, x2, u.vw, u.vh] → (∀ q ∈ rs, 0 < q.size) → inB x2 0 1 = true → u.fu = (x2 == 1) → u.l = rs.map rowOf → vwB u.nb u.fr u.fu u.vw u.vh u.l = true → False) → ∀ u, ¬ RvOk s.data.toList u := fun hF u hu => by
        obtain ⟨g0, gs, x2, h, a1, a2, a3, a4, a5, a6, a7⟩ := hu
        rw [hrf] at h
        injection h with h
        injection h with e1 e2
        subst e1 e2
        exact hF x2 u a1 a2 a3 a4 a5 a6 a7
      by_cases hm3 : f0.size % 3 = 0
      · obtain ⟨q, hq⟩ : ∃ q, f0.size = 3 * q := ⟨f0.size / 3, by omega⟩
        by_cases h5 : q = 5
        · subst h5
          obtain ⟨x0, x1, x2, x3, x4, ex⟩ := five (numsR_len f0.data.toList 5)
          cases hbit : inB x2 0 1 with
          | false =>
            refine (srv_bit s f0 rs r hr60 hq x0 x1 x2 x3 x4 ex hbit w T1).mono fun e w' h => zero (hin (P := True) fun y2 u _ hy _ hb _ _ _ => ?_) h
            rw [ex] at hy
            injection hy with e0 hy
            injection hy with e1 hy
            injection hy with e2 hy
            rw [← e2, hbit] at hb
            cases hb
          | true =>
            refine (srv_rows s f0 rs r hr60 hrn hrz hq x0 x1 x2 x3 x4 ex hbit _ rfl w T1).mono ?_
            rintro e w' (⟨a2, c2, rfl, hpos, ho, hb⟩ | ⟨rfl, ⟨z, hz, h0⟩, hb⟩)
            · have hLr : (rs.map rowOf).length = r := by rw [List.length_map]; exact hrn
              refine ⟨_, _, _, _, _, _, rs.map rowOf, _, rfl, by rw [hLr]; exact ho, ?_, hb⟩
              cases hok : vwB x0 x1 (x2 == 1) x3 x4 (rs.map rowOf) with
              | true => exact .inl ⟨rfl, f0, rs, x2, hrf, by omega, ex, hpos, hbit, rfl, rfl, hok⟩
              | false =>
                refine .inr ⟨rfl, hin (P := True) fun y2 u _ hy _ _ hfu hll hv => ?_⟩
                rw [ex] at hy
                injection hy with e0 hy
                injection hy with e1 hy
                injection hy with e2 hy
                injection hy with e3 hy
                injection hy with e4 hy
                rw [hfu, hll, ← e0, ← e1, ← e2, ← e3, ← e4, hok] at hv
                cases hv
            · exact zero (hin (P := True) fun y2 u _ _ hp _ _ _ _ => by have := hp z hz; omega) ⟨rfl, hb⟩
        · exact (srv_cnt s f0 rs r hr60 q hq (by omega) h5 w T1).mono fun e w' h => zero (hin (P := True) fun y2 u h15 _ _ _ _ _ _ => by omega) h
      · exact (srv_form s f0 rs r hr60 hs0 hm3 w T1).mono fun e w' h => zero (hin (P := True) fun y2 u h15 _ _ _ _ _ _ => by omega) h
set_option maxHeartbeats 2000000 in
set_option maxRecDepth 100000 in
theorem sreadview (a : Option Addr) (cap : Nat) (l : List UInt8) (nb fr : Int) (fu : Bool) (vw vh : Int) (L : List Rw) (c : Int) (HI : RvIs l nb fr fu vw vh L c) (w : World) (hr : RowV w a (B8 l)) :
    Calls Tryd.prog 4 #[.slice a l.length cap] w fun e w' => ∃ v', e = .returned (.tuple #[.agg #[.int .i64 nb, .int .i64 fr, .bool fu, .int .i64 vw, .int .i64 vh, v'], .int .i64 c]) ∧ w'.ownsRow w.heap.size 51 2 v' L.length (cE L) ∧ Below w.heap.size w w' := by
  have B0 := hide (Go.Joins.below_alloc1 w (Obj.cells #[.int .i64 0, .int .i64 0, .bool false, .int .i64 0, .int .i64 0, .slice none 0 0] 25))
  have Y0 := hide (BF.new w #[.int .i64 0, .int .i64 0, .bool false, .int .i64 0, .int .i64 0, .slice none 0 0] 25)
  have hcv := conv_row8 (cap := cap) (P := Tryd.prog) Tryd.underlying22 Tryd.underlying5 Tryd.underlying9 (rowV_8 (hr.below (unhide B0)))
  obtain ⟨len, hlen⟩ : ∃ len, l.length = len := ⟨_, rfl⟩
  rw [hlen] at hcv ⊢
  obtain ⟨s, hs⟩ : ∃ s : ByteArray, s = ⟨l.toArray⟩ := ⟨_, rfl⟩
  rw [← hs] at hcv
  have hsl : s.data.toList = l := by rw [hs]
  have hsz : s.size = len := by rw [← text_len, hsl]; exact hlen
  by_cases hlong : 65536 < len
  · have hl2 : (65536 : Int) < (len : Int) := by omega
    obtain ⟨rfl, rfl, rfl, rfl, rfl, rfl, rfl⟩ : nb = 0 ∧ fr = 0 ∧ fu = false ∧ vw = 0 ∧ vh = 0 ∧ L = [] ∧ c = 2 := by
      rcases HI with ⟨-, h, -⟩ | ⟨h0, h1, h2, h3, h4, h5, ⟨-, h⟩ | ⟨h, -⟩⟩
      · omega
      · exact ⟨h0, h1, h2, h3, h4, h5, h⟩
      · omega
    clear hr hcv hlen hsl hsz hs HI hlong
    go_enter Tryd.func4, Tryd.ntmps4
    go_wp2_with fail
    refine bodyPost_ret (v := .tuple #[.agg #[.int .i64 0, .int .i64 0, .bool false, .int .i64 0, .int .i64 0, .slice none 0 0], .int .i64 2]) (by simp [results, Tryd.results4, go_sem]) rfl ⟨_, rfl, World.ownsRow_nil _ _ _ _, ?_⟩
    first | exact unhide B0 | exact Go.Joins.below_alloc1 w _ | (iterate 6 refine Below.setCell ?_ (by exact Nat.le_refl _) _; exact unhide B0)
  · have T1 := hide (fun w => sl11 s (by omega) w)
    rw [hsl] at T1
    have hl2 : ¬ (65536 : Int) < (len : Int) := by omega
    have HII := hide HI
    have HLEN : Hid (l.length ≤ 65536) := by show _ ≤ _; omega
    clear hr hlen hsl hsz hs hlong HI
    go_enter Tryd.func4, Tryd.ntmps4
    go_wp2_with fail
    refine (unhide T1 _).mono ?_
    rintro e w3 ⟨R, nb', fr', fu', vw', vh', L', v', rfl, ho3, hR, hb3⟩
    obtain ⟨a3, c3, rfl, -⟩ := ownZ_rowV ho3
    obtain ⟨n3, hn3⟩ : ∃ n3, L'.length = n3 := ⟨_, rfl⟩
    have HN3 := hide hn3
    rw [hn3] at ho3 ⊢
    have O3 := hide (Go.Joins.ownsRow_le ((heldZ_of ho3).below (Go.Joins.below_alloc1 w3 (Obj.cells #[.int .i64 nb', .int .i64 fr', .bool fu', .int .i64 vw', .int .i64 vh', .slice a3 n3 c3] 25)) (Nat.le_refl _)).own (show w.heap.size + 1 ≤ _ from (unhide Y0).lt))
    have Y3 := hide (((unhide Y0).below hb3).alloc (Obj.cells #[.int .i64 nb', .int .i64 fr', .bool fu', .int .i64 vw', .int .i64 vh', .slice a3 n3 c3] 25))
    have A3 := hide (BF.new w3 #[.int .i64 nb', .int .i64 fr', .bool fu', .int .i64 vw', .int .i64 vh', .slice a3 n3 c3] 25)
    have B3 := hide (((unhide B0).trans (hb3.mono (unhide B0).size)).alloc (Nat.le_trans (unhide B0).size hb3.size) (Obj.cells #[.int .i64 nb', .int .i64 fr', .bool fu', .int .i64 vw', .int .i64 vh', .slice a3 n3 c3] 25))
    have hne : ¬ w3.heap.size = w.heap.size := by have := (unhide Y0).lt; have := hb3.size; omega
    have z := (unhide Y3).S
    have zf := (unhide Y3).F
    have qa := (unhide A3).S
    clear hb3 ho3 B0 Y0 hcv T1 hn3
    rcases hR with ⟨rfl, hok⟩ | ⟨rfl, hno⟩
    · obtain ⟨rfl, h2⟩ : c = 0 ∧ (⟨nb, fr, fu, vw, vh, L⟩ : Vv) = ⟨nb', fr', fu', vw', vh', L'⟩ := by
        rcases unhide HII with ⟨h0, -, h⟩ | ⟨-, -, -, -, -, -, ⟨h, -⟩ | ⟨-, h, -⟩⟩
        · exact ⟨h0, rvok_uniq h hok⟩
        · have := unhide HLEN; omega
        · exact absurd hok (h _)
      injection h2 with v0 v1 v2 v3 v4 v5
      clear hok HII
      subst v0 v1 v2 v3 v4 v5
      go_wp2_with fail
      refine bodyPost_ret (v := .tuple #[.agg #[.int .i64 nb, .int .i64 fr, .bool fu, .int .i64 vw, .int .i64 vh, .slice a3 n3 c3], .int .i64 0]) (by simp [results, Tryd.results4, go_sem, z]) rfl ⟨_, rfl, ?_, ?_⟩
      · rw [unhide HN3]
        refine Go.Joins.ownsRow_le (base := w.heap.size + 1) ?_ (by omega)
        iterate 6 refine ownsRow_setCell_below ?_ (by exact Nat.lt_succ_self _) _
        exact unhide O3
      · iterate 6 refine Below.setCell ?_ (by exact Nat.le_refl _) _
        exact unhide B3
    · obtain ⟨rfl, rfl, rfl, rfl, rfl, rfl, rfl⟩ : nb = 0 ∧ fr = 0 ∧ fu = false ∧ vw = 0 ∧ vh = 0 ∧ L = [] ∧ c = 3 := by
        rcases unhide HII with ⟨-, -, h⟩ | ⟨h0, h1, h2, h3, h4, h5, ⟨h, -⟩ | ⟨-, -, h⟩⟩
        · exact absurd h (hno _)
        · have := unhide HLEN; omega
        · exact ⟨h0, h1, h2, h3, h4, h5, h⟩
      clear hno HII
      go_wp2_with fail
      refine bodyPost_ret (v := .tuple #[.agg #[.int .i64 0, .int .i64 0, .bool false, .int .i64 0, .int .i64 0, .slice none 0 0], .int .i64 3]) (by simp [results, Tryd.results4, go_sem, z]) rfl ⟨_, rfl, World.ownsRow_nil _ _ _ _, ?_⟩
      iterate 6 refine Below.setCell ?_ (by exact Nat.le_refl _) _
      exact unhide B3
end Go.Proofs.YtblhediekdeffaaDoor
