/- NodeTick: both sides, in letters. -/
import Derived.Test.YtjlajpnhcphngaaZG16
import Derived.Test.YtjlajpnhcphngaaZNtI
import Derived.Test.YtjlajpnhcphngaaZNtS
import Derived.Test.YtjlajpnhcphngaaZMsL
import Derived.Test.YtjlajpnhcphngaaZNnR
namespace Go.Proofs.Ytjlajpnhcphngaa
open Go.ChangeShapes Go.WideShapes Go.ChangeAt Go.RowKit
set_option linter.unusedVariables false
def Gd (N N' : Nf) (M : List Mg) : Prop := ((N').l.length ≤ N.l.length ∨ (N').l.length ≤ 60) ∧ ((N').lv.length ≤ N.lv.length ∨ (N').lv.length ≤ 5) ∧ ((N').lx.length ≤ N.lx.length ∨ (N').lx.length ≤ 5) ∧ ((N').lg.length ≤ N.lg.length ∨ (N').lg.length ≤ 5) ∧ (M).length ≤ 5 ∧ ∀ m ∈ (M), m.es.length ≤ 60
theorem gd_nil {N N' : Nf} (h1 : N'.l = N.l) (h2 : N'.lv = N.lv) (h3 : N'.lx = N.lx) (h4 : N'.lg = N.lg) : Gd N N' [] := ⟨.inl (by rw [h1]; exact Nat.le_refl _), .inl (by rw [h2]; exact Nat.le_refl _), .inl (by rw [h3]; exact Nat.le_refl _), .inl (by rw [h4]; exact Nat.le_refl _), by simp, by simp⟩
theorem tls_es {id tm cm : Int} {l : List Ent} {J : Nat → Nat} {t B : Nat} (h : l.length ≤ B) : ∀ m ∈ tls id tm cm l J t, m.es.length ≤ B := by
  intro m hm
  unfold tls at hm
  obtain ⟨u, _, rfl⟩ := List.mem_map.1 hm
  show (l.drop _).length ≤ B
  rw [List.length_drop]; omega
theorem ldL_len (tm : Int) (l : List Ent) (h : l.length ≤ 60) : (ldL tm l).length ≤ 60 := by
  unfold ldL; split
  · simp; omega
  · exact h
theorem tkP_gd (N : Nf) (dr : Nat) (h : nfB N = true) : Gd N (tkP N dr).1 (tkP N dr).2 := by
  obtain ⟨nd, c, hnd, hcm, hn5, hn1, hcn, hn60, hlx, hlg, hJ, -⟩ := nf_parts h
  have hN5 : N.nd.toNat ≤ 5 := by rw [hnd]; simpa using hn5
  unfold tkP
  split
  · split
    · exact ⟨.inl (Nat.le_refl _), .inl (Nat.le_refl _), .inl (Nat.le_refl _), .inl (Nat.le_refl _), Nat.le_trans (tls_len _ _ _ _ _ _) hN5, tls_es hn60⟩
    · exact gd_nil rfl rfl rfl rfl
  · split
    · split
      · refine ⟨.inr (ldL_len _ _ hn60), .inr (by simp [ldN, stN]), .inr (by simp [ldN, stN]; omega), .inr (by simp [ldN, stN]; omega), Nat.le_trans (tls_len _ _ _ _ _ _) hN5, tls_es (ldL_len _ _ hn60)⟩
      · refine ⟨.inl (Nat.le_refl _), .inr (by simp [stN]), .inl (Nat.le_refl _), .inl (Nat.le_refl _), Nat.le_trans (asks_len _ _ _ _ _) hN5, ?_⟩
        intro m hm
        obtain ⟨u, _, rfl⟩ := List.mem_map.1 (show m ∈ asks N.id (N.tm + 1) N.l.length (tAt N.l N.l.length) N.nd.toNat from hm)
        simp [askM]
    · exact gd_nil rfl rfl rfl rfl
theorem tk_ex (N : Nf) (x : Int) : ∃ N' M cc, tkA N x = (N', M, cc) ∧ Gd N N' M := by
  refine ⟨(tkA N x).1, (tkA N x).2.1, (tkA N x).2.2, rfl, ?_⟩
  have z : Gd N nfZ [] := ⟨.inr (by simp [nfZ]), .inr (by simp [nfZ]), .inr (by simp [nfZ]), .inr (by simp [nfZ]), by simp, by simp⟩
  unfold tkA
  by_cases h2 : nfB N = false
  · rw [if_pos h2]; exact z
  rw [if_neg h2]
  by_cases h3 : inB x 0 1000000 = false
  · rw [if_pos h3]; exact z
  rw [if_neg h3]
  by_cases h4 : N.up = false
  · rw [if_pos h4]; exact gd_nil rfl rfl rfl rfl
  rw [if_neg h4]
  exact tkP_gd N _ (by simpa using h2)
theorem SAns.toL {w' : World} {e : Ending} {id' nd' tm' vt' ro' : Int} {up' : Bool} {l' : List Ent} {cm' el' wt' : Int} {lv' lx' lg' : List Int} {n' nv' nx' ng' m' : Nat} {M : List Mg} {cc : Int} (HN' : Hid (l'.length = n')) (HNv' : Hid (lv'.length = nv')) (HNx' : Hid (lx'.length = nx')) (HNg' : Hid (lg'.length = ng')) (HNM : Hid (M.length = m')) (h : SAns w' e ⟨id', nd', tm', vt', ro', up', l', cm', el', wt', lv', lx', lg'⟩ M cc) : SAnsL w' e id' nd' tm' vt' ro' up' l' cm' el' wt' lv' lx' lg' n' nv' nx' ng' m' M cc := by
  obtain rfl := unhide HN'
  obtain rfl := unhide HNv'
  obtain rfl := unhide HNx'
  obtain rfl := unhide HNg'
  obtain ⟨eA, eC, vA, vC, xA, xC, gA, gC, vm, L, rfl, hr, hL, hM⟩ := h
  have hm : L.length = m' := by rw [← unhide HNM, ← hL, List.length_map]
  obtain ⟨⟨am, cq, rfl, hrr⟩, he⟩ := hM
  rw [hm]
  exact ⟨eA, eC, vA, vC, xA, xC, gA, gC, am, cq, L, rfl, hr, hL, hm, ⟨⟨am, cq, by rw [hm], hrr⟩, he⟩⟩
theorem intickL (id nd tm vt ro cm el wt : Int) (up : Bool) (a : Option Addr) (cap n : Nat) (l : List (Int × ByteArray)) (HN : Hid (l.length = n)) (av : Option Addr) (cv nv : Nat) (lv : List Int) (HNv : Hid (lv.length = nv)) (ax : Option Addr) (cx nx : Nat) (lx : List Int) (HNx : Hid (lx.length = nx)) (ag : Option Addr) (cg ng : Nat) (lg : List Int) (HNg : Hid (lg.length = ng)) (hn : n ≤ 1048576) (hnv : nv ≤ 1048576) (hnx : nx ≤ 1048576) (hng : ng ≤ 1048576) (HSZ : Hid (∀ k (h : k < l.length), l[k].2.size ≤ 1048576)) (x : Int) (id' nd' tm' vt' ro' : Int) (up' : Bool) (l' : List Ent) (cm' el' wt' : Int) (lv' lx' lg' : List Int) (n' nv' nx' ng' m' : Nat) (M : List Mg) (cc : Int) (HN' : Hid (l'.length = n')) (HNv' : Hid (lv'.length = nv')) (HNx' : Hid (lx'.length = nx')) (HNg' : Hid (lg'.length = ng')) (HNM : Hid (M.length = m')) (HIS : Hid (tkA ⟨id, nd, tm, vt, ro, up, l, cm, el, wt, lv, lx, lg⟩ x = (⟨id', nd', tm', vt', ro', up', l', cm', el', wt', lv', lx', lg'⟩, M, cc))) (w : World) (hr : RowV w a (cE l)) (hrv : RowV w av (cI lv)) (hrx : RowV w ax (cI lx)) (hrg : RowV w ag (cI lg)) :
    Calls Try.prog 7 #[.agg #[.int .i64 id, .int .i64 nd, .int .i64 tm, .int .i64 vt, .int .i64 ro, .bool up, .slice a n cap, .int .i64 cm, .int .i64 el, .int .i64 wt, .slice av nv cv, .slice ax nx cx, .slice ag ng cg], .int .i64 x] w fun e w' => PAnsL w w' e id' nd' tm' vt' ro' up' l' cm' el' wt' lv' lx' lg' n' nv' nx' ng' m' M cc ∧ Below w.heap.size w w' :=
  (intick id nd tm vt ro cm el wt up a cap n l HN av cv nv lv HNv ax cx nx lx HNx ag cg ng lg HNg hn hnv hnx hng HSZ x _ M cc HIS w hr hrv hrx hrg).mono fun e w' h => ⟨PAns.toL HN' HNv' HNx' HNg' HNM h.1, h.2⟩
theorem sntickL (id nd tm vt ro cm el wt : Int) (up : Bool) (a : Option Addr) (cap n : Nat) (l : List (Int × ByteArray)) (HN : Hid (l.length = n)) (av : Option Addr) (cv nv : Nat) (lv : List Int) (HNv : Hid (lv.length = nv)) (ax : Option Addr) (cx nx : Nat) (lx : List Int) (HNx : Hid (lx.length = nx)) (ag : Option Addr) (cg ng : Nat) (lg : List Int) (HNg : Hid (lg.length = ng)) (hn : n ≤ 1048576) (hnv : nv ≤ 1048576) (hnx : nx ≤ 1048576) (hng : ng ≤ 1048576) (HSZ : Hid (∀ k (h : k < l.length), l[k].2.size ≤ 1048576)) (x : Int) (id' nd' tm' vt' ro' : Int) (up' : Bool) (l' : List Ent) (cm' el' wt' : Int) (lv' lx' lg' : List Int) (n' nv' nx' ng' m' : Nat) (M : List Mg) (cc : Int) (HN' : Hid (l'.length = n')) (HNv' : Hid (lv'.length = nv')) (HNx' : Hid (lx'.length = nx')) (HNg' : Hid (lg'.length = ng')) (HNM : Hid (M.length = m')) (HIS : Hid (tkA ⟨id, nd, tm, vt, ro, up, l, cm, el, wt, lv, lx, lg⟩ x = (⟨id', nd', tm', vt', ro', up', l', cm', el', wt', lv', lx', lg'⟩, M, cc))) (w : World) (hr : RowV w a (cE l)) (hrv : RowV w av (cI lv)) (hrx : RowV w ax (cI lx)) (hrg : RowV w ag (cI lg)) :
    Calls Try.prog 5 #[.agg #[.int .i64 id, .int .i64 nd, .int .i64 tm, .int .i64 vt, .int .i64 ro, .bool up, .slice a n cap, .int .i64 cm, .int .i64 el, .int .i64 wt, .slice av nv cv, .slice ax nx cx, .slice ag ng cg], .int .i64 x] w fun e w' => SAnsL w' e id' nd' tm' vt' ro' up' l' cm' el' wt' lv' lx' lg' n' nv' nx' ng' m' M cc ∧ Below w.heap.size w w' :=
  (sntick id nd tm vt ro cm el wt up a cap n l HN av cv nv lv HNv ax cx nx lx HNx ag cg ng lg HNg hn hnv hnx hng HSZ x _ M cc HIS w hr hrv hrx hrg).mono fun e w' h => ⟨SAns.toL HN' HNv' HNx' HNg' HNM h.1, h.2⟩
end Go.Proofs.Ytjlajpnhcphngaa
