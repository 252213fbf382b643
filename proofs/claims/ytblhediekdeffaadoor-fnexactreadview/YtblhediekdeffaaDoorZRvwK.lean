/- ReadView: what it answers, told once; the program's ways put together. -/
import Derived.Test.YtblhediekdeffaaDoorZRvwJ
import Derived.Test.YtblhediekdeffaaDoorZLitT
namespace Go.Proofs.YtblhediekdeffaaDoor
open Go.ChangeShapes Go.WideShapes Go.ChangeAt Go.RowKit
set_option linter.unusedVariables false
def RvIs (l : List UInt8) (nb fr : Int) (fu : Bool) (vw vh : Int) (L : List Rw) (c : Int) : Prop :=
  (c = 0 ∧ l.length ≤ 65536 ∧ RvOk l ⟨nb, fr, fu, vw, vh, L⟩) ∨ (nb = 0 ∧ fr = 0 ∧ fu = false ∧ vw = 0 ∧ vh = 0 ∧ L = [] ∧ ((65536 < l.length ∧ c = 2) ∨ (l.length ≤ 65536 ∧ (∀ v, ¬ RvOk l v) ∧ c = 3)))
theorem rv_ex (l : List UInt8) : ∃ nb fr fu vw vh L c, RvIs l nb fr fu vw vh L c := by
  by_cases h : 65536 < l.length
  · exact ⟨0, 0, false, 0, 0, [], 2, .inr ⟨rfl, rfl, rfl, rfl, rfl, rfl, .inl ⟨h, rfl⟩⟩⟩
  · by_cases hv : ∃ v, RvOk l v
    · obtain ⟨⟨nb, fr, fu, vw, vh, L⟩, hv⟩ := hv
      exact ⟨nb, fr, fu, vw, vh, L, 0, .inl ⟨rfl, by omega, hv⟩⟩
    · exact ⟨0, 0, false, 0, 0, [], 3, .inr ⟨rfl, rfl, rfl, rfl, rfl, rfl, .inr ⟨by omega, fun v hx => hv ⟨v, hx⟩, rfl⟩⟩⟩
theorem rv_len {l : List UInt8} {nb fr : Int} {fu : Bool} {vw vh : Int} {L : List Rw} {c : Int} (h : RvIs l nb fr fu vw vh L c) : L.length ≤ 10 ∧ ∀ k (h : k < L.length), L[k].2.size ≤ 96 := by
  rcases h with ⟨-, -, f0, rs, x2, -, -, -, -, -, -, -, hv⟩ | ⟨-, -, -, -, -, e, -⟩
  · exact ⟨(vb_parts hv).1, (vb_parts hv).2.2.2.1⟩
  · subst e; exact ⟨by decide, fun k h => absurd h (Nat.not_lt_zero _)⟩
theorem rf_lenV {l : List UInt8} {m : List ByteArray} (h : rfOf l = some m) : m.length ≤ 60 := by
  unfold rfOf at h
  split at h
  · cases h
  · split at h
    · cases h
    · cases hf : fldN (l.drop 1) (ofBE (l.take 1)) with
      | none => rw [hf] at h; cases h
      | some p =>
        rw [hf] at h
        simp only [Option.bind_some] at h
        split at h
        · injection h with h
          rw [← h, (fldN_len _ _ p.1 p.2 hf).1]
          omega
        · cases h
theorem rf_shV {l : List UInt8} {m : List ByteArray} (hl : ¬ 65536 < l.length) (h : rfOf l = some m) : ∀ k (hk : k < m.length), m[k].size ≤ 20000 := by
  have h1 := rf_short l
  have h2 : rfL l = m := by unfold rfL; rw [if_neg hl, h]; rfl
  rw [h2] at h1
  exact h1
set_option maxHeartbeats 1000000 in
theorem ireadview (a : Option Addr) (cap : Nat) (l : List UInt8) (hl : l.length ≤ 1048576) (hcap : l.length ≤ cap) (nb fr : Int) (fu : Bool) (vw vh : Int) (L : List Rw) (c : Int) (HI : RvIs l nb fr fu vw vh L c) (w : World) (hr : RowV w a (B8 l)) (hE : ErrsIn w) :
    Calls Tryd.prog 6 #[.slice a l.length cap] w fun e w' => ∃ v', e = .returned (.tuple #[.agg #[.int .i64 nb, .int .i64 fr, .bool fu, .int .i64 vw, .int .i64 vh, v'], .int .i64 c]) ∧ w'.ownsRow w.heap.size 51 2 v' L.length (cE L) ∧ Below w.heap.size w w' := by
  obtain ⟨m, hm⟩ : ∃ m, m = rfL l := ⟨_, rfl⟩
  obtain ⟨d, hd⟩ : ∃ d, d = rfC l := ⟨_, rfl⟩
  have T1 : Hid (∀ w1, Below w.heap.size w w1 → Calls Tryd.prog 13 #[.slice a l.length cap] w1 fun e w' => ∃ v', e = .returned (.tuple #[v', .int .i64 d]) ∧ w'.ownsRow w1.heap.size 9 1 v' m.length (cS m) ∧ Below w1.heap.size w1 w') := fun w1 hb => ireadfieldsH a cap l m d hm hd hl hcap w1 (hr.below hb) (hE.below hb)
  by_cases hlong : 65536 < l.length
  · have hd2 : d = 2 := by rw [hd]; unfold rfC; rw [if_pos hlong]
    rcases HI with ⟨-, h, -⟩ | ⟨rfl, rfl, rfl, rfl, rfl, rfl, ⟨-, rfl⟩ | ⟨h, -⟩⟩
    · omega
    · rw [hd2] at T1
      exact irv_bad a cap l.length 2 m m.length rfl w T1
    · omega
  cases hf : rfOf l with
  | none =>
    have hd3 : d = 3 := by rw [hd]; unfold rfC; rw [if_neg hlong, hf]; rfl
    rcases HI with ⟨-, -, f0, rs, x2, h, -⟩ | ⟨rfl, rfl, rfl, rfl, rfl, rfl, ⟨h, -⟩ | ⟨-, -, rfl⟩⟩
    · rw [hf] at h; cases h
    · omega
    · rw [hd3] at T1
      exact irv_bad a cap l.length 3 m m.length rfl w T1
  | some m' =>
    have hmm : m = m' := by rw [hm]; unfold rfL; rw [if_neg hlong, hf]; rfl
    subst hmm
    have hd0 : d = 0 := by rw [hd]; unfold rfC; rw [if_neg hlong, hf]; rfl
    rw [hd0] at T1
    have h60 := rf_lenV hf
    have hsz := rf_shV hlong hf
    cases m with
    | nil =>
      rcases HI with ⟨-, -, f0, rs, x2, h, -⟩ | ⟨rfl, rfl, rfl, rfl, rfl, rfl, ⟨h, -⟩ | ⟨-, -, rfl⟩⟩
      · rw [hf] at h; cases h
      · omega
      · exact irv_no a cap l.length [] 0 (fun a1 c1 w1 w0 _ => ivof_none a1 c1 w1) w T1
    | cons f0 rs =>
      by_cases h15 : f0.size = 15
      · obtain ⟨x0, x1, x2, x3, x4, hx⟩ := five (numsR_len f0.data.toList 5)
        obtain ⟨r, hrn⟩ : ∃ r, rs.length = r := ⟨_, rfl⟩
        have hr60 : r + 1 ≤ 60 := by simp only [List.length_cons] at h60; omega
        have hrz : ∀ k (h : k < rs.length), rs[k].size ≤ 1048576 := fun k h => Nat.le_trans (hsz (k + 1) (by simp; omega)) (by decide)
        have hml : (f0 :: rs).length = r + 1 := by simp [hrn]
        have TV : ∀ (a1 : Option Addr) (c1 : Nat) (w1 w0 : World), w1.ownsRow w0.heap.size 9 1 (.slice a1 (r + 1) c1) (r + 1) (cS (f0 :: rs)) → Calls Tryd.prog 14 #[.slice a1 (r + 1) c1] w1 (VfPost w1 x0 x1 x2 x3 x4 rs) := fun a1 c1 w1 w0 ho => by
          obtain ⟨g, rfl⟩ := own_at1 ho (by omega)
          exact ivof_yes g c1 r hr60 f0 h15 rs hrn hrz x0 x1 x2 x3 x4 hx (own_capZ ho) w1 (fun i u hu => own_cell ho i u hu) (World.ownsRow.lt ho g rfl).2
        rw [hml] at T1
        by_cases hpos : ∀ s ∈ rs, 0 < s.size
        · have TY : Hid (∀ (a1 : Option Addr) (c1 : Nat) (w1 w0 : World), w1.ownsRow w0.heap.size 9 1 (.slice a1 (r + 1) c1) (r + 1) (cS (f0 :: rs)) → Calls Tryd.prog 14 #[.slice a1 (r + 1) c1] w1 fun e w' => ∃ a2 c2, e = .returned (.tuple #[.agg #[.int .i64 x0, .int .i64 x1, .bool (x2 == 1), .int .i64 x3, .int .i64 x4, .slice a2 r c2], .bool true]) ∧ w'.ownsRow w1.heap.size 51 2 (.slice a2 r c2) r (cE (rs.map rowOf)) ∧ Below w1.heap.size w1 w') := fun a1 c1 w1 w0 ho => (TV a1 c1 w1 w0 ho).mono fun e w' h => by
            rcases h with ⟨a2, c2, he, -, ho2, hb⟩ | ⟨-, ⟨s, hs, h0⟩, -⟩
            · rw [hrn] at he ho2; exact ⟨a2, c2, he, ho2, hb⟩
            · have := hpos s hs; omega
          have hLn : Hid ((rs.map rowOf).length = r) := by show _ = _; rw [List.length_map]; exact hrn
          have hLs : Hid (∀ k (h : k < (rs.map rowOf).length), (rs.map rowOf)[k].2.size ≤ 1048576) := fun k h => by
            have hk' : k < rs.length := by simpa using h
            rw [List.getElem_map]
            show ((rs[k]'hk').extract 1 (rs[k]'hk').size).size ≤ _
            rw [ByteArray.size_extract]
            have := hrz k hk'
            omega
          cases hok : vwB x0 x1 (x2 == 1) x3 x4 (rs.map rowOf) with
          | false =>
            rcases HI with ⟨-, -, g0, gs, y2, h, -, hy, -, -, hfu, hll, hv⟩ | ⟨rfl, rfl, rfl, rfl, rfl, rfl, ⟨h, -⟩ | ⟨-, -, rfl⟩⟩
            · rw [hf] at h
              injection h with h
              injection h with h1 h2
              subst h1 h2
              rw [hx] at hy
              injection hy with e0 hy
              injection hy with e1 hy
              injection hy with e2 hy
              injection hy with e3 hy
              injection hy with e4 hy
              rw [hfu, hll, ← e0, ← e1, ← e2, ← e3, ← e4, hok] at hv
              cases hv
            · omega
            · exact irv_f a cap l.length (f0 :: rs) (r + 1) (rs.map rowOf) r hLn (by omega) hLs x0 x1 (x2 == 1) x3 x4 TY ⟨hok.symm, rfl, rfl⟩ w T1
          | true =>
            have hb := rv_bytes hlong hf h15 hx hpos hok
            obtain ⟨LB, hLB⟩ : ∃ LB, LB = fbL (vbF x0 x1 (x2 == 1) x3 x4 (rs.map rowOf)) := ⟨_, rfl⟩
            rw [← hLB] at hb
            by_cases hE2 : LB = l
            · have hbb := hb.1 hE2
              have hyes : RvOk l ⟨x0, x1, x2 == 1, x3, x4, rs.map rowOf⟩ := ⟨f0, rs, x2, hf, h15, hx, hpos, hbb, rfl, rfl, hok⟩
              rcases HI with ⟨rfl, -, g0, gs, y2, h, -, hy, -, -, hfu, hll, hv⟩ | ⟨rfl, rfl, rfl, rfl, rfl, rfl, ⟨h, -⟩ | ⟨-, hno, rfl⟩⟩
              · rw [hf] at h
                injection h with h
                injection h with h1 h2
                subst h1 h2
                rw [hx] at hy
                injection hy with e0 hy
                injection hy with e1 hy
                injection hy with e2 hy
                injection hy with e3 hy
                injection hy with e4 hy
                have e0' : nb = x0 := e0.symm
                have e1' : fr = x1 := e1.symm
                have e3' : vw = x3 := e3.symm
                have e4' : vh = x4 := e4.symm
                have hfu' : fu = (x2 == 1) := by rw [e2]; exact hfu
                have hll' : L = rs.map rowOf := hll
                rw [e0', e1', e3', e4', hfu', hll', unhide hLn]
                exact irv_t a cap l.length (f0 :: rs) (r + 1) (rs.map rowOf) r hLn (by omega) hLs x0 x1 (x2 == 1) x3 x4 TY LB ⟨hok.symm, by rw [if_pos rfl]; exact hLB, rfl⟩ l rfl (decide_eq_true hE2).symm w hr T1
              · omega
              · exact absurd hyes (hno _)
            · rcases HI with ⟨-, -, g0, gs, y2, h, -, hy, -, hin, hfu, hll, hv⟩ | ⟨rfl, rfl, rfl, rfl, rfl, rfl, ⟨h, -⟩ | ⟨-, hno, rfl⟩⟩
              · rw [hf] at h
                injection h with h
                injection h with h1 h2
                subst h1 h2
                rw [hx] at hy
                injection hy with e0 hy
                injection hy with e1 hy
                injection hy with e2 hy
                exact absurd (hb.2 (by rw [e2]; exact hin)) hE2
              · omega
              · exact irv_e a cap l.length (f0 :: rs) (r + 1) (rs.map rowOf) r hLn (by omega) hLs x0 x1 (x2 == 1) x3 x4 TY LB ⟨hok.symm, by rw [if_pos rfl]; exact hLB, rfl⟩ l rfl (decide_eq_false hE2).symm w hr T1
        · have hex : ∃ s ∈ rs, s.size = 0 := Classical.byContradiction fun h => hpos fun s hs => Nat.pos_of_ne_zero fun h0 => h ⟨s, hs, h0⟩
          have TN : Hid (∀ (a1 : Option Addr) (c1 : Nat) (w1 w0 : World), w1.ownsRow w0.heap.size 9 1 (.slice a1 (r + 1) c1) (r + 1) (cS (f0 :: rs)) → Calls Tryd.prog 14 #[.slice a1 (r + 1) c1] w1 fun e w' => e = .returned (.tuple #[.agg #[.int .i64 0, .int .i64 0, .bool false, .int .i64 0, .int .i64 0, .slice none 0 0], .bool false]) ∧ Below w1.heap.size w1 w') := fun a1 c1 w1 w0 ho => (TV a1 c1 w1 w0 ho).mono fun e w' h => by
            rcases h with ⟨a2, c2, -, hp, -⟩ | ⟨he, -, hb⟩
            · exact absurd hp hpos
            · exact ⟨he, hb⟩
          rcases HI with ⟨-, -, g0, gs, y2, h, -, -, hp, -⟩ | ⟨rfl, rfl, rfl, rfl, rfl, rfl, ⟨h, -⟩ | ⟨-, hno, rfl⟩⟩
          · rw [hf] at h
            injection h with h
            injection h with h1 h2
            subst h1 h2
            exact absurd hp hpos
          · omega
          · exact irv_no a cap l.length (f0 :: rs) (r + 1) TN w T1
      · rcases HI with ⟨-, -, g0, gs, y2, h, hg, -⟩ | ⟨rfl, rfl, rfl, rfl, rfl, rfl, ⟨h, -⟩ | ⟨-, hno, rfl⟩⟩
        · rw [hf] at h
          injection h with h
          injection h with h1 h2
          subst h1 h2
          exact absurd hg h15
        · omega
        · refine irv_no a cap l.length (f0 :: rs) (f0 :: rs).length (fun a1 c1 w1 w0 ho => ?_) w T1
          obtain ⟨g, rfl⟩ := own_at1 ho (by simp)
          exact ivof_no g c1 (f0 :: rs).length (by simp) h60 f0 (hsz 0 (by simp)) h15 w1 (own_cell ho 0 _ rfl) (World.ownsRow.lt ho g rfl).2
end Go.Proofs.YtblhediekdeffaaDoor
