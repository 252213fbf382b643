/- NodePropose: both sides, in letters. -/
import Derived.Test.YtpadpgjkpajfaaaZG24
import Derived.Test.YtpadpgjkpajfaaaZPrJ
import Derived.Test.YtpadpgjkpajfaaaZPrS
import Derived.Test.YtpadpgjkpajfaaaZMsL
import Derived.Test.YtpadpgjkpajfaaaZNnR
namespace Go.Proofs.Ytpadpgjkpajfaaa
open Go.ChangeShapes Go.WideShapes Go.ChangeAt Go.RowKit
set_option linter.unusedVariables false
theorem pr_ex (N : Nf) (d : ByteArray) : ∃ N' M cc, prA N d = (N', M, cc) ∧ (N'.l.length ≤ N.l.length ∨ N'.l.length ≤ 60) ∧ N'.lv.length ≤ N.lv.length ∧ N'.lx.length ≤ N.lx.length ∧ N'.lg.length ≤ N.lg.length ∧ M.length ≤ 5 ∧ ∀ m ∈ M, m.es.length ≤ 60 := by
  refine ⟨(prA N d).1, (prA N d).2.1, (prA N d).2.2, rfl, ?_⟩
  have z : ∀ c : Int, (((nfZ, [], c) : Nf × List Mg × Int).1.l.length ≤ N.l.length ∨ ((nfZ, [], c) : Nf × List Mg × Int).1.l.length ≤ 60) ∧ ((nfZ, [], c) : Nf × List Mg × Int).1.lv.length ≤ N.lv.length ∧ ((nfZ, [], c) : Nf × List Mg × Int).1.lx.length ≤ N.lx.length ∧ ((nfZ, [], c) : Nf × List Mg × Int).1.lg.length ≤ N.lg.length ∧ ((nfZ, [], c) : Nf × List Mg × Int).2.1.length ≤ 5 ∧ ∀ m ∈ ((nfZ, [], c) : Nf × List Mg × Int).2.1, m.es.length ≤ 60 := fun c => ⟨.inr (by simp [nfZ]), by simp [nfZ], by simp [nfZ], by simp [nfZ], by simp, by simp⟩
  have s : ∀ c : Int, (((N, [], c) : Nf × List Mg × Int).1.l.length ≤ N.l.length ∨ ((N, [], c) : Nf × List Mg × Int).1.l.length ≤ 60) ∧ ((N, [], c) : Nf × List Mg × Int).1.lv.length ≤ N.lv.length ∧ ((N, [], c) : Nf × List Mg × Int).1.lx.length ≤ N.lx.length ∧ ((N, [], c) : Nf × List Mg × Int).1.lg.length ≤ N.lg.length ∧ ((N, [], c) : Nf × List Mg × Int).2.1.length ≤ 5 ∧ ∀ m ∈ ((N, [], c) : Nf × List Mg × Int).2.1, m.es.length ≤ 60 := fun c => ⟨.inl (Nat.le_refl _), Nat.le_refl _, Nat.le_refl _, Nat.le_refl _, by simp, by simp⟩
  unfold prA
  by_cases h1 : 65536 < d.size
  · rw [if_pos h1]; exact z 2
  rw [if_neg h1]
  by_cases h2 : nfB N = false
  · rw [if_pos h2]; exact z 1
  rw [if_neg h2]
  by_cases h3 : inB (d.size : Int) 1 400 = false
  · rw [if_pos h3]; exact z 4
  rw [if_neg h3]
  by_cases h4 : N.up = false
  · rw [if_pos h4]; exact s 13
  rw [if_neg h4]
  by_cases h5 : N.ro ≠ 2
  · rw [if_pos h5]; exact s 12
  rw [if_neg h5]
  by_cases h6 : N.l.length = 60
  · rw [if_pos h6]; exact s 7
  rw [if_neg h6]
  obtain ⟨nd, c, hnd, hcm, hn5, hn1, hcn, hn60, hlx, hlg, hJ, -⟩ := nf_parts (N := N) (by simpa using h2)
  have hl : (prN N d).l.length = N.l.length + 1 := by simp [prN]
  refine ⟨.inr (by show (prN N d).l.length ≤ 60; omega), Nat.le_refl _, Nat.le_refl _, Nat.le_refl _, ?_, ?_⟩
  · show (tls _ _ _ _ _ _).length ≤ 5
    exact Nat.le_trans (tls_len _ _ _ _ _ _) (by rw [hnd]; simpa using hn5)
  · intro m hm
    have hm2 : m ∈ tls N.id N.tm (prN N d).cm (prN N d).l (jOf N.lx) N.nd.toNat := hm
    unfold tls at hm2
    obtain ⟨t, _, rfl⟩ := List.mem_map.1 hm2
    show ((prN N d).l.drop _).length ≤ 60
    rw [List.length_drop]; omega
theorem SAnsV.toL {w' : World} {e : Ending} {id' nd' tm' vt' ro' : Int} {up' : Bool} {l' : List Ent} {cm' el' wt' : Int} {lv' lx' lg' : List Int} {n' nv' nx' ng' m' : Nat} {M : List Mg} {cc : Int} (HNM : Hid (M.length = m')) (h : SAnsV w' e id' nd' tm' vt' ro' up' l' cm' el' wt' lv' lx' lg' n' nv' nx' ng' M cc) : SAnsL w' e id' nd' tm' vt' ro' up' l' cm' el' wt' lv' lx' lg' n' nv' nx' ng' m' M cc := by
  obtain ⟨eA, eC, vA, vC, xA, xC, gA, gC, vm, L, rfl, hr, hL, hM⟩ := h
  have hm : L.length = m' := by rw [← unhide HNM, ← hL, List.length_map]
  obtain ⟨⟨am, cq, rfl, hrr⟩, he⟩ := hM
  rw [hm]
  exact ⟨eA, eC, vA, vC, xA, xC, gA, gC, am, cq, L, rfl, hr, hL, hm, ⟨⟨am, cq, by rw [hm], hrr⟩, he⟩⟩
theorem ipropL (id nd tm vt ro cm el wt : Int) (up : Bool) (a : Option Addr) (cap n : Nat) (l : List (Int × ByteArray)) (HN : Hid (l.length = n)) (av : Option Addr) (cv nv : Nat) (lv : List Int) (HNv : Hid (lv.length = nv)) (ax : Option Addr) (cx nx : Nat) (lx : List Int) (HNx : Hid (lx.length = nx)) (ag : Option Addr) (cg ng : Nat) (lg : List Int) (HNg : Hid (lg.length = ng)) (hn : n ≤ 1048576) (hnv : nv ≤ 1048576) (hnx : nx ≤ 1048576) (hng : ng ≤ 1048576) (HSZ : Hid (∀ k (h : k < l.length), l[k].2.size ≤ 1048576)) (d : ByteArray) (sz : Nat) (hsz : sz = d.size) (id' nd' tm' vt' ro' : Int) (up' : Bool) (l' : List Ent) (cm' el' wt' : Int) (lv' lx' lg' : List Int) (n' nv' nx' ng' m' : Nat) (M : List Mg) (cc : Int) (HN' : Hid (l'.length = n')) (HNv' : Hid (lv'.length = nv')) (HNx' : Hid (lx'.length = nx')) (HNg' : Hid (lg'.length = ng')) (HNM : Hid (M.length = m')) (HIS : Hid (prA ⟨id, nd, tm, vt, ro, up, l, cm, el, wt, lv, lx, lg⟩ d = (⟨id', nd', tm', vt', ro', up', l', cm', el', wt', lv', lx', lg'⟩, M, cc))) (w : World) (hr : RowV w a (cE l)) (hrv : RowV w av (cI lv)) (hrx : RowV w ax (cI lx)) (hrg : RowV w ag (cI lg)) :
    Calls Try.prog 7 #[.agg #[.int .i64 id, .int .i64 nd, .int .i64 tm, .int .i64 vt, .int .i64 ro, .bool up, .slice a n cap, .int .i64 cm, .int .i64 el, .int .i64 wt, .slice av nv cv, .slice ax nx cx, .slice ag ng cg], .string d] w fun e w' => PAnsL w w' e id' nd' tm' vt' ro' up' l' cm' el' wt' lv' lx' lg' n' nv' nx' ng' m' M cc ∧ Below w.heap.size w w' :=
  (iprop id nd tm vt ro cm el wt up a cap n l HN av cv nv lv HNv ax cx nx lx HNx ag cg ng lg HNg hn hnv hnx hng HSZ d sz hsz _ M cc HIS w hr hrv hrx hrg).mono fun e w' h => ⟨PAns.toL HN' HNv' HNx' HNg' HNM h.1, h.2⟩
theorem spropL (id nd tm vt ro cm el wt : Int) (up : Bool) (a : Option Addr) (cap n : Nat) (l : List (Int × ByteArray)) (HN : Hid (l.length = n)) (av : Option Addr) (cv nv : Nat) (lv : List Int) (HNv : Hid (lv.length = nv)) (ax : Option Addr) (cx nx : Nat) (lx : List Int) (HNx : Hid (lx.length = nx)) (ag : Option Addr) (cg ng : Nat) (lg : List Int) (HNg : Hid (lg.length = ng)) (hn : n ≤ 1048576) (hnv : nv ≤ 1048576) (hnx : nx ≤ 1048576) (hng : ng ≤ 1048576) (HSZ : Hid (∀ k (h : k < l.length), l[k].2.size ≤ 1048576)) (d : ByteArray) (sz : Nat) (hsz : sz = d.size) (id' nd' tm' vt' ro' : Int) (up' : Bool) (l' : List Ent) (cm' el' wt' : Int) (lv' lx' lg' : List Int) (n' nv' nx' ng' m' : Nat) (M : List Mg) (cc : Int) (HN' : Hid (l'.length = n')) (HNv' : Hid (lv'.length = nv')) (HNx' : Hid (lx'.length = nx')) (HNg' : Hid (lg'.length = ng')) (HNM : Hid (M.length = m')) (hn' : n' ≤ 1048576) (hnv' : nv' ≤ 1048576) (hnx' : nx' ≤ 1048576) (hng' : ng' ≤ 1048576) (HIS : Hid (prA ⟨id, nd, tm, vt, ro, up, l, cm, el, wt, lv, lx, lg⟩ d = (⟨id', nd', tm', vt', ro', up', l', cm', el', wt', lv', lx', lg'⟩, M, cc))) (w : World) (hr : RowV w a (cE l)) (hrv : RowV w av (cI lv)) (hrx : RowV w ax (cI lx)) (hrg : RowV w ag (cI lg)) :
    Calls Try.prog 5 #[.agg #[.int .i64 id, .int .i64 nd, .int .i64 tm, .int .i64 vt, .int .i64 ro, .bool up, .slice a n cap, .int .i64 cm, .int .i64 el, .int .i64 wt, .slice av nv cv, .slice ax nx cx, .slice ag ng cg], .string d] w fun e w' => SAnsL w' e id' nd' tm' vt' ro' up' l' cm' el' wt' lv' lx' lg' n' nv' nx' ng' m' M cc ∧ Below w.heap.size w w' :=
  (sprop id nd tm vt ro cm el wt up a cap n l HN av cv nv lv HNv ax cx nx lx HNx ag cg ng lg HNg hn hnv hnx hng HSZ d sz hsz id' nd' tm' vt' ro' up' l' cm' el' wt' lv' lx' lg' n' nv' nx' ng' HN' HNv' HNx' HNg' M cc hn' hnv' hnx' hng' HIS w hr hrv hrx hrg).mono fun e w' h => ⟨h.1.toL HNM, h.2⟩
end Go.Proofs.Ytpadpgjkpajfaaa
