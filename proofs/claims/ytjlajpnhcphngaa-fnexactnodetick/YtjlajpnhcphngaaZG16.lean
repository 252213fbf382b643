/- Texts put together: AnL LdM TlI. -/
import Derived.Test.YtjlajpnhcphngaaZG15
import Derived.Test.YtjlajpnhcphngaaZTlM
/- Answers of a node and messages, in letters; what a mark elsewhere leaves; how far marks go. -/
namespace Go.Proofs.Ytjlajpnhcphngaa
open Go.ChangeShapes Go.WideShapes Go.ChangeAt Go.RowKit
set_option linter.unusedVariables false
def PAnsL (w w' : World) (e : Ending) (id' nd' tm' vt' ro' : Int) (up' : Bool) (l' : List Ent) (cm' el' wt' : Int) (lv' lx' lg' : List Int) (n' nv' nx' ng' m' : Nat) (M : List Mg) (cc : Int) : Prop :=
  ∃ eA eC vA vC xA xC gA gC l0 h0 l1 h1 l2 h2 l3 h3 am cq L lom, e = .returned (.tuple #[.agg #[.int .i64 id', .int .i64 nd', .int .i64 tm', .int .i64 vt', .int .i64 ro', .bool up', .slice eA n' eC, .int .i64 cm', .int .i64 el', .int .i64 wt', .slice vA nv' vC, .slice xA nx' xC, .slice gA ng' gC], .slice am m' cq, .int .i64 cc]) ∧ (HeldZ 2 w' l0 h0 68 (.slice eA n' eC) n' (cE l') ∧ Held w' l1 h1 3 (.slice vA nv' vC) nv' (cI lv') ∧ Held w' l2 h2 3 (.slice xA nx' xC) nx' (cI lx') ∧ Held w' l3 h3 3 (.slice gA ng' gC) ng' (cI lg')) ∧ Apart w.heap.size lom l0 h0 l1 h1 l2 h2 l3 h3 ∧ (w.heap.size ≤ lom ∧ lom ≤ w'.heap.size) ∧ L.map (·.1) = M ∧ L.length = m' ∧ MOwn w' lom (.slice am m' cq) L
def SAnsL (w' : World) (e : Ending) (id' nd' tm' vt' ro' : Int) (up' : Bool) (l' : List Ent) (cm' el' wt' : Int) (lv' lx' lg' : List Int) (n' nv' nx' ng' m' : Nat) (M : List Mg) (cc : Int) : Prop :=
  ∃ eA eC vA vC xA xC gA gC am cq L, e = .returned (.tuple #[.agg #[.int .i64 id', .int .i64 nd', .int .i64 tm', .int .i64 vt', .int .i64 ro', .bool up', .slice eA n' eC, .int .i64 cm', .int .i64 el', .int .i64 wt', .slice vA nv' vC, .slice xA nx' xC, .slice gA ng' gC], .slice am m' cq, .int .i64 cc]) ∧ (RowV w' eA (cE l') ∧ RowV w' vA (cI lv') ∧ RowV w' xA (cI lx') ∧ RowV w' gA (cI lg')) ∧ L.map (·.1) = M ∧ L.length = m' ∧ MRow w' (.slice am m' cq) L
theorem PAns.toL {w w' : World} {e : Ending} {id' nd' tm' vt' ro' : Int} {up' : Bool} {l' : List Ent} {cm' el' wt' : Int} {lv' lx' lg' : List Int} {n' nv' nx' ng' m' : Nat} {M : List Mg} {cc : Int} (HN' : Hid (l'.length = n')) (HNv' : Hid (lv'.length = nv')) (HNx' : Hid (lx'.length = nx')) (HNg' : Hid (lg'.length = ng')) (HNM : Hid (M.length = m')) (h : PAns w w' e ⟨id', nd', tm', vt', ro', up', l', cm', el', wt', lv', lx', lg'⟩ M cc) : PAnsL w w' e id' nd' tm' vt' ro' up' l' cm' el' wt' lv' lx' lg' n' nv' nx' ng' m' M cc := by
  obtain rfl := unhide HN'
  obtain rfl := unhide HNv'
  obtain rfl := unhide HNx'
  obtain rfl := unhide HNg'
  obtain ⟨eA, eC, vA, vC, xA, xC, gA, gC, l0, h0, l1, h1, l2, h2, l3, h3, vm, L, lom, rfl, hh, ha, hs, hL, hM⟩ := h
  have hm : L.length = m' := by rw [← unhide HNM, ← hL, List.length_map]
  obtain ⟨am, cq, rfl, -⟩ := ownZ_rowV hM.row
  rw [hm] at hM ⊢
  exact ⟨eA, eC, vA, vC, xA, xC, gA, gC, l0, h0, l1, h1, l2, h2, l3, h3, am, cq, L, lom, rfl, hh, ha, hs, hL, hm, hM⟩
theorem MOwn.outs {w w' : World} {lo lo2 hi2 : Nat} {v : Value} {L : List MgA} (h : MOwn w lo v L) (ho : Outs lo2 hi2 w w') (hd : hi2 ≤ lo) : MOwn w' lo v L :=
  ⟨((heldZ_of h.row).outs ho (.inr hd)).own, fun p hp => ((heldZ_of (h.ent p hp)).outs ho (.inr hd)).own, h.apart, h.off⟩
theorem kAt_most (k B : Nat) (L : List MgA) (h : ∀ p ∈ L, p.1.es.length ≤ B) : ∀ t, t ≤ L.length → kAt k L t ≤ k + t * (8 + B * 2)
  | 0, _ => by cases L <;> simp [kAt]
  | t + 1, ht => by
    have h1 := kAt_most k B L h t (by omega)
    have h2 := h _ (List.getElem_mem (by omega : t < L.length))
    rw [kAt_succ k L t (by omega), Nat.succ_mul]
    omega
end Go.Proofs.Ytjlajpnhcphngaa

/- Who is asked for a vote; what a node that leads holds. Plain mathematics. -/
namespace Go.Proofs.Ytjlajpnhcphngaa
open Go.ChangeShapes Go.WideShapes Go.ChangeAt Go.RowKit
set_option linter.unusedVariables false
def askM (id tm : Int) (n : Nat) (T : Int) (t : Nat) : Mg := ⟨1, id, (t : Int), tm, (n : Int), T, 0, false, []⟩
/-- What it asks those below t, itself left out. -/
def asks (id tm : Int) (n : Nat) (T : Int) (t : Nat) : List Mg := ((List.range t).filter fun (u : Nat) => decide ((u : Int) ≠ id)).map (askM id tm n T)
theorem asks_self {id tm : Int} {n : Nat} {T : Int} {t : Nat} (h : (t : Int) = id) : asks id tm n T (t + 1) = asks id tm n T t := by
  unfold asks; rw [List.range_succ, List.filter_append]; simp [h]
theorem asks_snoc {id tm : Int} {n : Nat} {T : Int} {t : Nat} (h : ¬ (t : Int) = id) : asks id tm n T (t + 1) = asks id tm n T t ++ [askM id tm n T t] := by
  unfold asks; rw [List.range_succ, List.filter_append, List.map_append]; simp [h]
theorem asks_len (id tm : Int) (n : Nat) (T : Int) (t : Nat) : (asks id tm n T t).length ≤ t := by
  unfold asks; rw [List.length_map]
  exact Nat.le_trans (List.length_filter_le _ _) (by simp)
/-- The log of a node that begins to lead. -/
def ldL (tm : Int) (l : List Ent) : List Ent := if l.length < 60 then l ++ [(tm, (⟨#[]⟩ : ByteArray))] else l
theorem put2 {p o1 o2 : Nat} {cs : Array Value} (w : World) (h : BF p cs w) (h1 : o1 < cs.size) (h2 : o2 < cs.size) (v1 v2 : Value) : ∃ w', w' = (w.setCell ⟨p, o1, none⟩ v1).setCell ⟨p, o2, none⟩ v2 ∧ BF p ((cs.setIfInBounds o1 v1).setIfInBounds o2 v2) w' ∧ (∀ k, k ≠ p → w'.heap[k]? = w.heap[k]?) ∧ Below p w w' := by
  refine ⟨_, rfl, (h.set o1 h1 v1).set o2 (by simpa using h2) v2, fun k hk => by iterate 2 rw [Below.heap_setCell _ _ _ _ hk], ?_⟩
  iterate 2 refine Below.setCell ?_ (by exact Nat.le_refl _) _
  exact Below.refl _ _
end Go.Proofs.Ytjlajpnhcphngaa

/- A node tells all others: what the program answers. -/
namespace Go.Proofs.Ytjlajpnhcphngaa
open Go.ChangeShapes Go.WideShapes Go.ChangeAt Go.RowKit
set_option linter.unusedVariables false
theorem Try.infM54 : (Try.prog.info? 54).map (fun i => (i.zero, i.size, i.bytes)) = some (some (.agg #[.int .i64 0, .int .i64 0, .int .i64 0, .int .i64 0, .int .i64 0, .int .i64 0, .int .i64 0, .bool false, .slice none 0 0]), 9, 88) := by kernel_rfl
set_option maxHeartbeats 4000000 in
set_option maxRecDepth 100000 in
theorem itellall (id : Int) (nd : Nat) (tm vt ro cm el wt : Int) (up : Bool) (a : Option Addr) (cap n : Nat) (av : Option Addr) (cv nv : Nat) (ax : Option Addr) (cx nx : Nat) (ag : Option Addr) (cg ng : Nat) (l : List Ent) (HN : Hid (l.length = n)) (hn : n ≤ 1048576) (lx : List Int) (J : Nat → Nat) (HJ : Hid (∀ t (h : t < lx.length), lx[t] = (J t : Int) + 1 ∧ J t ≤ n)) (hnx : Hid (lx.length = nx)) (hnd : nd ≤ 5) (hnn : Hid (nx = nd)) (hcap : n ≤ cap) (w : World) (hr : RowV w a (cE l)) (hrx : RowV w ax (cI lx)) :
    Calls Try.prog 48 #[.agg #[.int .i64 id, .int .i64 (nd : Int), .int .i64 tm, .int .i64 vt, .int .i64 ro, .bool up, .slice a n cap, .int .i64 cm, .int .i64 el, .int .i64 wt, .slice av nv cv, .slice ax nx cx, .slice ag ng cg]] w fun e w' => ∃ v L, e = .returned v ∧ L.map (·.1) = tls id tm cm l J nd ∧ MOwn w' w.heap.size v L ∧ Below w.heap.size w w' := by
  have B0 := hide (Go.Joins.below_alloc1 w (.cells #[.int .i64 id, .int .i64 (nd : Int), .int .i64 tm, .int .i64 vt, .int .i64 ro, .bool up, .slice a n cap, .int .i64 cm, .int .i64 el, .int .i64 wt, .slice av nv cv, .slice ax nx cx, .slice ag ng cg] 29))
  have A0 := hide (BF.new w #[.int .i64 id, .int .i64 (nd : Int), .int .i64 tm, .int .i64 vt, .int .i64 ro, .bool up, .slice a n cap, .int .i64 cm, .int .i64 el, .int .i64 wt, .slice av nv cv, .slice ax nx cx, .slice ag ng cg] 29)
  have HR := hide hr
  have HRX := hide hrx
  clear hr hrx
  have ka := (unhide A0).S
  obtain ⟨i0, hi, hz0, hz1, hz2⟩ := info_parts Try.infM54
  go_enter Try.func48, Try.ntmps48
  go_wp2_with fail
  clear ka
  go_loopw [3, 7] (fun s i wr => ∃ (k q : Nat) (v : Value) (L : List MgA), k ≤ nd ∧ i = .int .i64 k ∧ s = v ∧ q ≤ k ∧ Hid (L.length = q) ∧ Hid (L.map (·.1) = tls id tm cm l J k) ∧ Hid (MOwn wr (w.heap.size + 1) v L) ∧ Hid (BF w.heap.size #[.int .i64 id, .int .i64 (nd : Int), .int .i64 tm, .int .i64 vt, .int .i64 ro, .bool up, .slice a n cap, .int .i64 cm, .int .i64 el, .int .i64 wt, .slice av nv cv, .slice ax nx cx, .slice ag ng cg] wr) ∧ Hid (Below w.heap.size w wr)) (fun _ i _ => nd - (intOf i).toNat)
  case atStart => exact ⟨0, 0, _, [], by omega, rfl, rfl, by omega, rfl, rfl, MOwn.nil _ _, A0, B0⟩
  case round =>
    clear A0 B0
    obtain ⟨k, q, v, L, hk, rfl, rfl, hqk, HQ, HL, HO, A1, B1⟩ := hrel
    have ka := (unhide A1).S
    by_cases hlt : k < nd
    · have i1 : (k : Int) < (nd : Int) := by omega
      by_cases hid : (k : Int) = id
      · have z1 : ((k : Int) != id) = false := by simpa using hid
        have HL2 : Hid (L.map (·.1) = tls id tm cm l J (k + 1)) := by show _ = _; rw [tls_self hid]; exact unhide HL
        clear hid HL
        go_wp2_with fail
        go_roundw
        case rel => exact ⟨k + 1, q, _, L, by omega, by go_num, rfl, by omega, HQ, HL2, HO, A1, B1⟩
        case measure => simp [intOf]; omega
      · have z1 : ((k : Int) != id) = true := by simpa using hid
        have hkx : k < lx.length := by rw [unhide hnx, unhide hnn]; exact hlt
        have hjj := unhide HJ k hkx
        have T := itell id (nd : Int) tm vt ro cm el wt up a cap n av cv nv ax cx nx ag cg ng l HN hn lx k (J k) hkx hjj.1 (unhide hnx) hjj.2 hcap (tAt l (J k)) rfl wr ((unhide HR).below (unhide B1)) ((unhide HRX).below (unhide B1))
        have HL2 : Hid (L.map (·.1) ++ [tellM id tm cm l J k] = tls id tm cm l J (k + 1)) := by show _ = _; rw [tls_snoc hid, unhide HL]
        have HJN := hide hjj.2
        obtain ⟨av1, cv1, rfl, -⟩ := ownZ_rowV (unhide HO).row
        clear hid hkx hjj HL
        go_wp2_with fail
        refine T.mono ?_
        clear T
        rintro e w2 ⟨ve, rfl, hoe, hb2⟩
        obtain ⟨ae, ce, rfl, -⟩ := ownZ_rowV hoe
        have B2 := hide ((unhide B1).trans (hb2.mono (unhide B1).size))
        have A2 := hide ((unhide A1).below hb2)
        have O2 := hide ((unhide HO).below hb2)
        have hen : (l.drop (J k)).length = n - J k := by rw [List.length_drop, unhide HN]
        obtain ⟨p, hp⟩ : ∃ p : MgA, p = (tellM id tm cm l J k, ae, ce) := ⟨_, rfl⟩
        have hpc : cM p = [.int .i64 3, .int .i64 id, .int .i64 (k : Int), .int .i64 tm, .int .i64 (J k : Int), .int .i64 (tAt l (J k)), .int .i64 cm, .bool false, .slice ae (n - J k) ce] := by rw [hp]; simp only [cM, sl, tellM, hen]
        have hps : sl p = .slice ae (n - J k) ce := by rw [hp]; simp only [sl, tellM, hen]
        have hpe : p.1.es = l.drop (J k) := by rw [hp]; rfl
        have hp1 : p.1 = tellM id tm cm l J k := by rw [hp]
        have OE : Hid (w2.ownsRow (w.heap.size + 1) 68 2 (sl p) p.1.es.length (cE p.1.es)) := by show World.ownsRow _ _ _ _ _ _ _; rw [hps, hpe, hen]; exact own_low hoe (unhide A1).lt
        have FE : Hid (∀ j, (sl p).ownBlock = some j → wr.heap.size ≤ j) := fun j hj => by rw [hps] at hj; exact (hoe.lt j hj).1
        have LT : Hid (∀ q ∈ L, ∀ j, (sl q).ownBlock = some j → j < wr.heap.size) := fun q hq j hj => (((unhide HO).ent q hq).lt j hj).2
        have LV : Hid (∀ j, (Value.slice av1 L.length cv1).ownBlock = some j → j < wr.heap.size) := fun j hj => ((unhide HO).row.lt j hj).2
        have hq9 := unhide HQ
        have hq5 : q ≤ 5 := by omega
        have PC := hide hpc
        have P1 := hide hp1
        have zA := (unhide A2).lt
        clear hb2 hoe hp hpc hps hpe hp1 hen ka
        have ka := (unhide A2).S
        have h3 : Hid (Below w2.heap.size w2 (w2.alloc (.cells #[.int .i64 3, .int .i64 id, .int .i64 (k : Int), .int .i64 tm, .int .i64 (J k : Int), .int .i64 (tAt l (J k)), .int .i64 cm, .bool false, .slice ae (n - J k) ce] 54))) := Go.Joins.below_alloc1 w2 (.cells #[.int .i64 3, .int .i64 id, .int .i64 (k : Int), .int .i64 tm, .int .i64 (J k : Int), .int .i64 (tAt l (J k)), .int .i64 cm, .bool false, .slice ae (n - J k) ce] 54)
        have hrow := ((unhide O2).below (unhide h3)).row
        rw [hq9] at hrow LV ⊢
        clear hq9
        go_wp2_with (at_builtin; refine wpList_append_lies _ rfl (.tmp 14) (.tmp 18) 30 rfl (w.heap.size + 1) 54 i0 (.agg #[.int .i64 0, .int .i64 0, .int .i64 0, .int .i64 0, .int .i64 0, .int .i64 0, .int .i64 0, .bool false, .slice none 0 0]) 9 88 Try.underlying30 hi hz0 hz1 hz2 rfl (by decide) _ q (cMs L) rfl hrow ⟨w2.heap.size, 0, none⟩ 1 1 [.int .i64 3, .int .i64 id, .int .i64 (k : Int), .int .i64 tm, .int .i64 (J k : Int), .int .i64 (tAt l (J k)), .int .i64 cm, .bool false, .slice ae (n - J k) ce] rfl rfl (by exact news_new w2 [.int .i64 3, .int .i64 id, .int .i64 (k : Int), .int .i64 tm, .int .i64 (J k : Int), .int .i64 (tAt l (J k)), .int .i64 cm, .bool false, .slice ae (n - J k) ce] 54) (by rw [← unhide PC]; exact cM_one p) (by decide) (by unfold maxLen; omega) (by omega) (by simp; omega) _ rfl ?_; intro g7 c7 w7 hown7 hgrow7 hat7 hlt7)
        have HM7 : Hid (MOwn w7 (w.heap.size + 1) (.slice (some ⟨g7, 0, none⟩) (q + 1) c7) (L ++ [p])) := by
          have hs := MOwn.snoc (w0 := wr) (p := p) (g := g7) (cap := c7) ((unhide O2).below (unhide h3)) (unhide LT) (by rw [unhide HQ]; exact unhide LV) (((heldZ_of (unhide OE)).below (unhide h3) (Nat.le_refl _)).own) (unhide FE) (by rw [unhide HQ]; exact hgrow7) (by rw [unhide HQ, unhide PC]; exact hown7) (by rw [unhide HQ]; exact hat7)
          rw [unhide HQ] at hs
          exact hs
        have B7 := hide ((unhide B2).trans ((unhide h3).mono (unhide B2).size))
        have B8 := hide ((unhide B7).grown hgrow7 (unhide B7).size (fun j hj => by have := (hrow.lt j hj).1; omega))
        have A8 := hide (((unhide A2).below (unhide h3)).grown hgrow7 (fun hj => by have := (hrow.lt _ hj).1; omega))
        clear hown7 hgrow7 hat7 hlt7 hrow A2 B2 O2 OE FE LT LV h3
        go_wp2_with fail
        go_roundw
        case rel => exact ⟨k + 1, q + 1, _, L ++ [p], by omega, by go_num, rfl, by omega, by show _ = _; rw [List.length_append, unhide HQ]; rfl, by show _ = _; rw [List.map_append, ← unhide HL2, ← unhide P1]; rfl, HM7, A8, B8⟩
        case measure => simp [intOf]; omega
    · obtain rfl : k = nd := by omega
      obtain ⟨av1, cv1, rfl, -⟩ := ownZ_rowV (unhide HO).row
      go_wp2_with fail
      go_ret
      exact ⟨_, L, rfl, unhide HL, (unhide HO).low (Nat.le_succ _), unhide B1⟩
end Go.Proofs.Ytjlajpnhcphngaa
