/- (State).after: what the program makes of any record. -/
import Derived.Test.YtninnmcehcaadaaDoorZAftU
import Derived.Test.YtninnmcehcaadaaDoorZAftT
namespace Go.Proofs.YtninnmcehcaadaaDoor
open Go.ChangeShapes Go.WideShapes Go.ChangeAt Go.RowKit
set_option linter.unusedVariables false
theorem own_take {w : World} {base g n cap k : Nat} {e : TypeId} {z : Nat} {xs : List Value} (h : w.ownsRow base e z (.slice (some ⟨g, 0, none⟩) n cap) n xs) (hk : k ≤ n) : w.ownsRow base e z (.slice (some ⟨g, 0, none⟩) k cap) k (xs.take (k * z)) := by
  obtain ⟨h1, h2⟩ := h
  have hkz : k * z ≤ n * z := Nat.mul_le_mul_right z hk
  refine ⟨by rw [List.length_take, h1]; omega, ?_⟩
  rcases h2 with ⟨hv, _⟩ | ⟨g', cap', cur, hv, hbg, hg, hnc, hcm, hcs, ht⟩
  · cases hv
  · injection hv with e1 e2 e3
    injection e1 with e1
    injection e1 with e1 _ _
    subst e1 e3
    exact .inr ⟨g, cap, cur, rfl, hbg, hg, Nat.le_trans hk hnc, hcm, hcs, by rw [← ht, List.take_take, Nat.min_eq_left hkz]⟩
theorem own_shape {w : World} {base n cap : Nat} {e : TypeId} {z : Nat} {a : Option Addr} {xs : List Value} (h : w.ownsRow base e z (.slice a n cap) n xs) (hn : 0 < n) : ∃ g, a = some ⟨g, 0, none⟩ ∧ n ≤ cap := by
  rcases h.2 with ⟨_, h0⟩ | ⟨g, cap', cur, hv, hbg, hg, hnc, _⟩
  · omega
  · injection hv with e1 e2 e3
    exact ⟨g, e1, by rw [e3]; exact hnc⟩
/-- What (State).after answers, as apR tells it. -/
def AftTo (o : Option (Int × Int × List Ent)) (x0 : Addr) (base : Nat) (u : Value) (w' : World) (e : Ending) : Prop :=
  match o with
  | none => e = .returned (.tuple #[.agg #[.int .i64 0, .int .i64 0, .slice none 0 0], .iface 119 (.pointer (some x0))])
  | some (tm2, vt2, l2) => ∃ v, e = .returned (.tuple #[.agg #[.int .i64 tm2, .int .i64 vt2, v], .nilIface]) ∧ w'.ownsRow base 53 2 v l2.length (cE l2) ∧ (v.ownBlock = u.ownBlock ∨ 0 < l2.length)
theorem apK_no {tm vt : Int} {l : List Ent} {f : ByteArray} {L : List Int} {r : List ByteArray} (h1 : (decide (f = ⟨#[116]⟩) && decide (L.length = 2) && decide (r.length = 0)) = false) (h2 : (decide (f = ⟨#[99]⟩) && decide (L.length = 1) && decide (r.length = 0)) = false) (h3 : (decide (f = ⟨#[101]⟩) && decide (L.length = 1) && decide (r.length = 1)) = false) : apK tm vt l f L r = none := by
  unfold apK
  split
  · simp at h1; rw [if_neg h1]
  · simp at h2; rw [if_neg (fun h => h2 h.1)]
  · simp at h3; rw [if_neg h3]
  · rfl
set_option maxHeartbeats 1000000 in
theorem iafter (tm vt : Int) (a : Option Addr) (cap n : Nat) (l : List (Int × ByteArray)) (HN : Hid (l.length = n)) (hn : n ≤ 1048576) (base : Nat) (t : ByteArray) (ht : t.size ≤ 65536) (HF : Hid (∀ m, rfOf t.data.toList = some m → ∀ k (hk : k < m.length), m[k].size ≤ 20000)) (HK : Hid (∀ f L r, recP t = some (f, L, r) → L.length ≤ 65536 ∧ r.length ≤ 65536)) {x0 x1 x2 x3 x4 : Addr} (w : World) (hE : ErrsIn w) (hS : StE w x0 x1 x2 x3 x4) (hbase : base ≤ w.heap.size) (hown : w.ownsRow base 53 2 (.slice a n cap) n (cE l)) :
    Calls Tryd.prog 32 #[.agg #[.int .i64 tm, .int .i64 vt, .slice a n cap], .string t] w fun e w' => AftTo (apR tm vt l t) x0 base (.slice a n cap) w' e ∧ w'.ownsRow base 53 2 (.slice a n cap) n (cE l) ∧ Below base w w' ∧ w.grownBy w' (Value.slice a n cap).ownBlock := by
  have hnl := unhide HN
  have keep : ∀ w', Below w.heap.size w w' → w'.ownsRow base 53 2 (.slice a n cap) n (cE l) := fun w' hb => ((heldZ_of hown).below hb (Nat.le_refl _)).own
  cases hR : recP t with
  | none =>
    refine (iafter_none tm vt a cap n t ht HF hR w hE hS).mono ?_
    rintro e w' ⟨rfl, hb⟩
    refine ⟨?_, keep w' hb, hb.mono hbase, below_asGrown hb⟩
    show AftTo (apR tm vt l t) x0 base _ w' _
    unfold apR; rw [hR]; rfl
  | some q =>
    obtain ⟨f, L, r⟩ := q
    have hlen := unhide HK f L r hR
    have eR : apR tm vt l t = apK tm vt l f L r := by unfold apR; rw [hR]
    rw [eR]
    cases h1 : (decide (f = ⟨#[116]⟩) && decide (L.length = 2) && decide (r.length = 0)) with
    | true =>
      simp at h1
      obtain ⟨⟨rfl, hL⟩, rfl⟩ := h1
      match L, hL with
      | [x, y], _ =>
        refine (iafter_term tm vt x y a cap n t ht HF hR w hE).mono ?_
        rintro e w' ⟨rfl, hb⟩
        refine ⟨?_, keep w' hb, hb.mono hbase, below_asGrown hb⟩
        show AftTo (some (x, y, l)) x0 base _ w' _
        exact ⟨_, rfl, (by rw [hnl]; exact keep w' hb), .inl rfl⟩
    | false =>
      cases h2 : (decide (f = ⟨#[99]⟩) && decide (L.length = 1) && decide (r.length = 0)) with
      | true =>
        simp at h2
        obtain ⟨⟨rfl, hL⟩, rfl⟩ := h2
        match L, hL with
        | [x], _ =>
          cases hx : inB x 0 ((n : Int) - 1) with
          | false =>
            refine (iafter_nocut tm vt a cap n hn t ht HF x hR hx.symm w hE hS).mono ?_
            rintro e w' ⟨rfl, hb⟩
            refine ⟨?_, keep w' hb, hb.mono hbase, below_asGrown hb⟩
            have e0 : apK tm vt l ⟨#[99]⟩ [x] [] = none := by
              show (if (⟨#[99]⟩ : ByteArray) = ⟨#[99]⟩ ∧ 0 ≤ x ∧ x ≤ (l.length : Int) - 1 then some (tm, vt, l.take x.toNat) else none) = none
              rw [if_neg]
              intro h
              unfold inB at hx
              simp at hx
              have := hx h.2.1
              have := h.2.2
              omega
            rw [e0]
            rfl
          | true =>
            have hx2 : 0 ≤ x ∧ x ≤ (n : Int) - 1 := by unfold inB at hx; simpa using hx
            obtain ⟨c0, rfl⟩ : ∃ c0 : Nat, x = (c0 : Int) := ⟨x.toNat, by omega⟩
            obtain ⟨g, rfl, hcap⟩ := own_shape hown (by omega)
            refine (iafter_cut tm vt g 0 cap n hn hcap t ht HF c0 (by omega) hR w hE).mono ?_
            rintro e w' ⟨rfl, hb⟩
            refine ⟨?_, keep w' hb, hb.mono hbase, below_asGrown hb⟩
            have e0 : apK tm vt l ⟨#[99]⟩ [(c0 : Int)] [] = some (tm, vt, l.take c0) := by
              show (if (⟨#[99]⟩ : ByteArray) = ⟨#[99]⟩ ∧ 0 ≤ (c0 : Int) ∧ (c0 : Int) ≤ (l.length : Int) - 1 then some (tm, vt, l.take (c0 : Int).toNat) else none) = _
              rw [if_pos ⟨rfl, by omega, by omega⟩, Int.toNat_natCast]
            rw [e0]
            refine ⟨_, rfl, ?_, .inl rfl⟩
            rw [List.length_take, Nat.min_eq_left (by omega), cE_take]
            exact own_take (keep w' hb) (by omega)
      | false =>
        cases h3 : (decide (f = ⟨#[101]⟩) && decide (L.length = 1) && decide (r.length = 1)) with
        | true =>
          simp at h3
          obtain ⟨⟨rfl, hL⟩, hr⟩ := h3
          match L, hL, r, hr with
          | [x], _, [d], _ =>
            refine (iafter_ent tm vt x d a cap n l hn base t ht HF hR w hE hbase hown).mono ?_
            rintro e w' ⟨v, rfl, ho, hk, hb, hg⟩
            refine ⟨?_, hk, hb, hg⟩
            show AftTo (some (tm, vt, l ++ [(x, d)])) x0 base _ w' _
            exact ⟨v, rfl, (by rw [List.length_append, hnl]; exact ho), .inr (by rw [List.length_append]; exact Nat.succ_pos _)⟩
        | false =>
          refine (iafter_no tm vt a cap n hn t ht HF f L r L.length r.length hlen.1 hlen.2 rfl rfl hR h1.symm h2.symm h3.symm w hE hS).mono ?_
          rintro e w' ⟨rfl, hb⟩
          refine ⟨?_, keep w' hb, hb.mono hbase, below_asGrown hb⟩
          rw [apK_no h1 h2 h3]
          rfl
end Go.Proofs.YtninnmcehcaadaaDoor
