/- (*tree).find: a pane's part of the tree, and its place. -/
import Derived.Test.YtgnecacoehedkaaDoorZSpI
import Derived.Test.YtgnecacoehedkaaDoorZSplM
import Derived.Test.YtgnecacoehedkaaDoorZOfI
namespace Go.Proofs.YtgnecacoehedkaaDoor
open Go.ChangeShapes Go.WideShapes Go.ChangeAt Go.RowKit
abbrev oFdI0 : Oper := { dst := some 33, op := .call { callee := .value (.func 42), args := #[.tmp 30, .tmp 31, .tmp 32], argTypes := #[45, 3, 32] }, type := 78, pos := "l05_layout.go:226", after := #[{ on := 3, ground := .data }, { on := 4, ground := .data }, { on := 5, ground := .data }], guard := none }
abbrev oFdI1 : Oper := { dst := some 11, op := .alloc 32, type := 0, pos := "l05_layout.go:226", after := #[], guard := none }
abbrev oFdI2 : Oper := { dst := some 26, op := .move (.tmp 33), type := 78, pos := "l05_layout.go:226", after := #[{ on := 6, ground := .data }], guard := none }
abbrev oFdI3 : Oper := { dst := some 34, op := .extract (.tmp 26) 0, type := 45, pos := "l05_layout.go:226", after := #[{ on := 7, ground := .data }], guard := none }
abbrev oFdI4 : Oper := { dst := some 35, op := .extract (.tmp 26) 1, type := 32, pos := "l05_layout.go:226", after := #[{ on := 7, ground := .data }, { on := 11, ground := .gcOnly Go.Departure.lateStores }], guard := none }
abbrev oFdI5 : Oper := { dst := some 10, op := .assign (.tmp 34), type := 45, pos := "l05_layout.go:226", after := #[{ on := 8, ground := .data }, { on := 6, ground := .chain }, { on := 0, ground := .phase }, { on := 1, ground := .phase }, { on := 2, ground := .phase }, { on := 3, ground := .phase }, { on := 4, ground := .phase }, { on := 5, ground := .phase }, { on := 6, ground := .phase }, { on := 7, ground := .phase }, { on := 8, ground := .phase }, { on := 9, ground := .textOnly Go.Departure.lateStores }, { on := 10, ground := .phase }], guard := none }
abbrev oFdI6 : Oper := { dst := none, op := .store 32 (.tmp 11) (.tmp 35), type := 0, pos := "l05_layout.go:226", after := #[{ on := 10, ground := .data }, { on := 9, ground := .data }, { on := 11, ground := .chain }, { on := 0, ground := .phase }, { on := 1, ground := .phase }, { on := 2, ground := .phase }, { on := 3, ground := .phase }, { on := 4, ground := .phase }, { on := 5, ground := .phase }, { on := 6, ground := .phase }, { on := 7, ground := .phase }, { on := 8, ground := .phase }, { on := 9, ground := .phase }, { on := 10, ground := .phase }, { on := 11, ground := .phase }], guard := none }
abbrev oFdI7 : Oper := { dst := some 38, op := .move (.tmp 10), type := 45, pos := "l05_layout.go:227", after := #[], guard := none }
abbrev oFdI8 : Oper := { dst := some 39, op := .load 32 (.tmp 11), type := 32, pos := "l05_layout.go:227", after := #[{ on := 2, ground := .gcOnly Go.Departure.lateStores }], guard := none }
abbrev oFdI9 : Oper := { dst := some 6, op := .assign (.tmp 38), type := 45, pos := "l05_layout.go:227", after := #[{ on := 0, ground := .data }, { on := 0, ground := .phase }, { on := 1, ground := .textOnly Go.Departure.lateStores }], guard := none }
abbrev oFdI10 : Oper := { dst := none, op := .store 32 (.tmp 7) (.tmp 39), type := 0, pos := "l05_layout.go:227", after := #[{ on := 1, ground := .data }, { on := 2, ground := .chain }, { on := 0, ground := .phase }, { on := 1, ground := .phase }, { on := 2, ground := .phase }], guard := none }
abbrev oFdI11 : Oper := { dst := some 40, op := .move (.tmp 0), type := 45, pos := "l05_layout.go:229", after := #[], guard := none }
abbrev oFdI12 : Oper := { dst := some 41, op := .nilCheck (.tmp 40), type := 0, pos := "l05_layout.go:229", after := #[{ on := 0, ground := .data }], guard := none }
abbrev oFdI13 : Oper := { dst := some 42, op := .fieldAddr 58 (.tmp 41) 4, type := 0, pos := "l05_layout.go:229", after := #[{ on := 1, ground := .data }], guard := none }
abbrev oFdI14 : Oper := { dst := some 43, op := .load 45 (.tmp 42), type := 45, pos := "l05_layout.go:229", after := #[{ on := 2, ground := .data }], guard := none }
abbrev oFdI15 : Oper := { dst := some 44, op := .move (.tmp 1), type := 3, pos := "l05_layout.go:229", after := #[], guard := none }
abbrev oFdI16 : Oper := { dst := some 45, op := .load 32 (.tmp 9), type := 32, pos := "l05_layout.go:229", after := #[], guard := none }
abbrev oFdI17 : Oper := { dst := some 46, op := .call { callee := .value (.func 42), args := #[.tmp 43, .tmp 44, .tmp 45], argTypes := #[45, 3, 32] }, type := 78, pos := "l05_layout.go:229", after := #[{ on := 3, ground := .data }, { on := 4, ground := .data }, { on := 5, ground := .data }], guard := none }
abbrev oFdI18 : Oper := { dst := some 47, op := .extract (.tmp 46) 0, type := 45, pos := "l05_layout.go:229", after := #[{ on := 6, ground := .data }], guard := none }
abbrev oFdI19 : Oper := { dst := some 48, op := .extract (.tmp 46) 1, type := 32, pos := "l05_layout.go:229", after := #[{ on := 6, ground := .data }], guard := none }
abbrev oFdI20 : Oper := { dst := some 6, op := .assign (.tmp 47), type := 45, pos := "l05_layout.go:229", after := #[{ on := 7, ground := .data }, { on := 6, ground := .chain }, { on := 0, ground := .phase }, { on := 1, ground := .phase }, { on := 2, ground := .phase }, { on := 3, ground := .phase }, { on := 4, ground := .phase }, { on := 5, ground := .phase }, { on := 6, ground := .phase }, { on := 7, ground := .phase }, { on := 8, ground := .phase }], guard := none }
abbrev oFdI21 : Oper := { dst := none, op := .store 32 (.tmp 7) (.tmp 48), type := 0, pos := "l05_layout.go:229", after := #[{ on := 8, ground := .data }, { on := 9, ground := .chain }, { on := 0, ground := .phase }, { on := 1, ground := .phase }, { on := 2, ground := .phase }, { on := 3, ground := .phase }, { on := 4, ground := .phase }, { on := 5, ground := .phase }, { on := 6, ground := .phase }, { on := 7, ground := .phase }, { on := 8, ground := .phase }, { on := 9, ground := .phase }], guard := none }
theorem put5' {n : Nat} {a0 a1 a2 a3 a4 : Value} {w : World} (h : BF n #[a0, a1, a2, a3, a4] w) (v0 v1 v2 v3 v4 : Value) : BF n #[v0, v1, v2, v3, v4] (((((w.setCell ⟨n, 0, none⟩ v0).setCell ⟨n, 1, none⟩ v1).setCell ⟨n, 2, none⟩ v2).setCell ⟨n, 3, none⟩ v3).setCell ⟨n, 4, none⟩ v4) := by
 have := ((((h.set 0 (by simp) v0).set 1 (by simp) v1).set 2 (by simp) v2).set 3 (by simp) v3).set 4 (by simp) v4
 simpa using this
/-- The pane at sb may be turned into a split of it and another one, whatever else turns outside of the tree. -/
def SplitAt (X : Bx) (w : World) (t : Tr) (b : Nat) (bs : List Nat) (n : Int) (sb : Nat) : Prop :=
 BF sb (X.leaf n) w ∧ sb ∈ bs ∧ ∀ w' r s p q f, w.heap.size ≤ w'.heap.size → (∀ k ∈ bs, k ≠ sb → w'.heap[k]? = w.heap[k]?) → BF sb (X.node r s p q) w' → BF p (X.leaf n) w' → BF q (X.leaf f) w' → ∃ bs', TreeAt X w' (t.spl n r s f) b bs'
section
variable {X : Bx} {w : World} {r : Bool} {s : Int} {l t : Tr} {b bl br : Nat} {Ls Rs : List Nat} {n : Int}
theorem SplitAt.keep {w2 : World} {bs : List Nat} {sb : Nat} (h : SplitAt X w t b bs n sb) (hs : w.heap.size ≤ w2.heap.size) (hk : ∀ k ∈ bs, w2.heap[k]? = w.heap[k]?) : SplitAt X w2 t b bs n sb :=
 ⟨h.1.keep hs (hk sb h.2.1), h.2.1, fun w' r s p q f h1 h2 h3 h4 h5 => h.2.2 w' r s p q f (Nat.le_trans hs h1) (fun k hk1 hne => (h2 k hk1 hne).trans (hk k hk1)) h3 h4 h5⟩
theorem splitAt_here (hb : BF b (X.leaf n) w) : SplitAt X w (.pane n) b [b] n b := by
 refine ⟨hb, by simp, fun w' r s p q f _ _ h1 h2 h3 => ⟨b :: ([p] ++ [q]), ?_⟩⟩
 rw [Tr.spl, if_pos rfl]
 exact ⟨p, q, [p], [q], rfl, h1, ⟨rfl, h2⟩, ⟨rfl, h3⟩⟩
theorem splitAt_left (hn : (b :: (Ls ++ Rs)).Nodup) (hb : BF b (X.node r s bl br) w) (hr : TreeAt X w t br Rs) (hm : n ∉ t.panes) {sb : Nat} (h : SplitAt X w l bl Ls n sb) : SplitAt X w (.split r s l t) b (b :: (Ls ++ Rs)) n sb := by
 rw [List.nodup_cons, List.mem_append, List.nodup_append] at hn
 obtain ⟨q1, q2, q3⟩ := h
 refine ⟨q1, by simp [q2], fun w' r2 s2 p q f hs hk h1 h2 h3 => ?_⟩
 obtain ⟨bs', h4⟩ := q3 w' r2 s2 p q f hs (fun k hk1 hne => hk k (by simp [hk1]) hne) h1 h2 h3
 refine ⟨b :: (bs' ++ Rs), ?_⟩
 rw [Tr.spl, spl_id t n r2 s2 f hm]
 exact ⟨bl, br, bs', Rs, rfl, hb.keep hs (hk b (by simp) (fun h => hn.1 (.inl (h ▸ q2)))), h4, hr.keep hs (fun k hk1 => hk k (by simp [hk1]) (fun h => hn.2.2.2 sb q2 k hk1 h.symm))⟩
theorem splitAt_right (hn : (b :: (Ls ++ Rs)).Nodup) (hb : BF b (X.node r s bl br) w) (hl : TreeAt X w l bl Ls) (hm : n ∉ l.panes) {sb : Nat} (h : SplitAt X w t br Rs n sb) : SplitAt X w (.split r s l t) b (b :: (Ls ++ Rs)) n sb := by
 rw [List.nodup_cons, List.mem_append, List.nodup_append] at hn
 obtain ⟨q1, q2, q3⟩ := h
 refine ⟨q1, by simp [q2], fun w' r2 s2 p q f hs hk h1 h2 h3 => ?_⟩
 obtain ⟨bs', h4⟩ := q3 w' r2 s2 p q f hs (fun k hk1 hne => hk k (by simp [hk1]) hne) h1 h2 h3
 refine ⟨b :: (Ls ++ bs'), ?_⟩
 rw [Tr.spl, spl_id l n r2 s2 f hm]
 exact ⟨bl, br, Ls, bs', rfl, hb.keep hs (hk b (by simp) (fun h => hn.1 (.inr (h ▸ q2)))), hl.keep hs (fun k hk1 => hk k (by simp [hk1]) (fun h => hn.2.2.2 k hk1 sb q2 h)), h4⟩
end
/-- What find tells: where the pane is, and the columns and rows of its place; or nothing. -/
def FD (w : World) (t : Tr) (b : Nat) (bs : List Nat) (n W H : Int) (P : Option Addr) (q3 q4 : Int) : Prop :=
 (n ∈ t.panes ∧ ∃ sb, P = some ⟨sb, 0, none⟩ ∧ SplitAt iBx w t b bs n sb ∧ q3 = t.sid n false W H ∧ q4 = t.sid n true W H) ∨ (n ∉ t.panes ∧ P = none)
theorem FD.keep {w w2 : World} {t : Tr} {b : Nat} {bs : List Nat} {n W H : Int} {P : Option Addr} {q3 q4 : Int} (h : FD w t b bs n W H P q3 q4) (hs : w.heap.size ≤ w2.heap.size) (hk : ∀ k ∈ bs, w2.heap[k]? = w.heap[k]?) : FD w2 t b bs n W H P q3 q4 := by
 rcases h with ⟨h1, sb, h2, h3, h4⟩ | h
 ·exact .inl ⟨h1, sb, h2, h3.keep hs hk, h4⟩
 ·exact .inr h
theorem FD.base {w0 w w2 : World} {t : Tr} {b : Nat} {bs : List Nat} {n W H : Int} {P : Option Addr} {q3 q4 : Int} (h : FD w t b bs n W H P q3 q4) (hl : ∀ k ∈ bs, k < w0.heap.size) (h1 : Below w0.heap.size w0 w) (h2 : Below w0.heap.size w0 w2) (hs : w.heap.size ≤ w2.heap.size) : FD w2 t b bs n W H P q3 q4 :=
 h.keep hs (fun k hk => (h2.block k (hl k hk)).trans (h1.block k (hl k hk)).symm)
theorem set5_block' (w : World) (p : Nat) (v0 v1 v2 v3 v4 : Value) : ∀ k, ¬ k = p → (((((w.setCell ⟨p, 0, none⟩ v0).setCell ⟨p, 1, none⟩ v1).setCell ⟨p, 2, none⟩ v2).setCell ⟨p, 3, none⟩ v3).setCell ⟨p, 4, none⟩ v4).heap[k]? = w.heap[k]? := fun k hk => by
 have h : ∀ (w : World) (o : Nat) (v : Value), (w.setCell ⟨p, o, none⟩ v).heap[k]? = w.heap[k]? := fun w o v => by have hk' : p ≠ k := fun e => hk e.symm; simp [World.setCell, Array.getElem?_modify, hk']
 rw [h, h, h, h, h]
/-- The places of a split's two parts, by letters, and what a pane within has of them. -/
theorem cut_sid {r : Bool} {s pn x y W H : Int} {l t : Tr} (hx : 0 ≤ x) (hy : 0 ≤ y) (hW : 2 ≤ W) (hH : 2 ≤ H) (h1 : x + W ≤ 1000) (h2 : y + H ≤ 1000) (hf : (Tr.split r s l t).fits W H = true) :
  ∃ xl yl Wl Hl xr yr Wr Hr : Int, cutL r s pn x y W H = #[.int .i64 pn, .int .i64 xl, .int .i64 yl, .int .i64 Wl, .int .i64 Hl] ∧ cutR r s pn x y W H = #[.int .i64 pn, .int .i64 xr, .int .i64 yr, .int .i64 Wr, .int .i64 Hr] ∧
   (0 ≤ xl ∧ 0 ≤ yl ∧ 2 ≤ Wl ∧ 2 ≤ Hl ∧ xl + Wl ≤ 1000 ∧ yl + Hl ≤ 1000) ∧ (0 ≤ xr ∧ 0 ≤ yr ∧ 2 ≤ Wr ∧ 2 ≤ Hr ∧ xr + Wr ≤ 1000 ∧ yr + Hr ≤ 1000) ∧ l.fits Wl Hl = true ∧ t.fits Wr Hr = true ∧ (0 ≤ s ∧ s ≤ 1000) ∧
   (∀ n r', n ∈ l.panes → (Tr.split r s l t).sid n r' W H = l.sid n r' Wl Hl) ∧ (∀ n r', n ∉ l.panes → (Tr.split r s l t).sid n r' W H = t.sid n r' Wr Hr) := by
 rw [Tr.fits] at hf
 cases r
 ·simp only [Bool.false_eq_true, if_false, Bool.and_eq_true] at hf
  have f1 := fits_two _ _ _ hf.1
  have f2 := fits_two _ _ _ hf.2
  exact ⟨x, y, s, H, x + s, y, W - s, H, rfl, rfl, by omega, by omega, hf.1, hf.2, by omega, fun n r' h => by rw [Tr.sid, if_pos h]; rfl, fun n r' h => by rw [Tr.sid, if_neg h]; rfl⟩
 ·simp only [if_true, Bool.and_eq_true] at hf
  have f1 := fits_two _ _ _ hf.1
  have f2 := fits_two _ _ _ hf.2
  exact ⟨x, y, W, s, x, y + s, W, H - s, rfl, rfl, by omega, by omega, hf.1, hf.2, by omega, fun n r' h => by rw [Tr.sid, if_pos h]; rfl, fun n r' h => by rw [Tr.sid, if_neg h]; rfl⟩
set_option maxHeartbeats 4000000 in
set_option maxRecDepth 100000 in
theorem ifind (n : Int) : ∀ (t : Tr) (b : Nat) (bs : List Nat) (pn x y W H : Int) (w : World), TreeAt iBx w t b bs → bs.Nodup → 0 ≤ x → 0 ≤ y → 2 ≤ W → 2 ≤ H → x + W ≤ 1000 → y + H ≤ 1000 → t.fits W H = true → t.panes.Nodup →
  Calls Tryd.prog 42 #[.pointer (some ⟨b, 0, none⟩), .int .i64 n, .agg #[.int .i64 pn, .int .i64 x, .int .i64 y, .int .i64 W, .int .i64 H]] w fun e w' => ∃ (P : Option Addr) (q0 q1 q2 q3 q4 : Int), e = .returned (.tuple #[.pointer P, .agg #[.int .i64 q0, .int .i64 q1, .int .i64 q2, .int .i64 q3, .int .i64 q4]]) ∧ FD w' t b bs n W H P q3 q4 ∧ Below w.heap.size w w' := by
 intro t
 induction t using Tr.ind with
 | pane m =>
  intro b bs pn x y W H w ht hnd hx hy hW hH h1 h2 hf hpn
  have HT := hide ((ht.alloc (Obj.cells #[.int .i64 pn, .int .i64 x, .int .i64 y, .int .i64 W, .int .i64 H] 32)).alloc (Obj.cells #[.int .i64 0, .int .i64 0, .int .i64 0, .int .i64 0, .int .i64 0] 32))
  obtain ⟨rfl, hbf⟩ := ht
  have HBF := hide ((hbf.alloc (Obj.cells #[.int .i64 pn, .int .i64 x, .int .i64 y, .int .i64 W, .int .i64 H] 32)).alloc (Obj.cells #[.int .i64 0, .int .i64 0, .int .i64 0, .int .i64 0, .int .i64 0] 32))
  have hblt := hbf.lt
  have HB0 := hide (Go.Joins.below_alloc2 w (Obj.cells #[.int .i64 pn, .int .i64 x, .int .i64 y, .int .i64 W, .int .i64 H] 32) (Obj.cells #[.int .i64 0, .int .i64 0, .int .i64 0, .int .i64 0, .int .i64 0] 32))
  have PL := hide ((BF.new w #[.int .i64 pn, .int .i64 x, .int .i64 y, .int .i64 W, .int .i64 H] 32).alloc (Obj.cells #[.int .i64 0, .int .i64 0, .int .i64 0, .int .i64 0, .int .i64 0] 32))
  have RS := hide (BF.new (w.alloc (Obj.cells #[.int .i64 pn, .int .i64 x, .int .i64 y, .int .i64 W, .int .i64 H] 32)) #[.int .i64 0, .int .i64 0, .int .i64 0, .int .i64 0, .int .i64 0] 32)
  rw [show (w.alloc (Obj.cells #[.int .i64 pn, .int .i64 x, .int .i64 y, .int .i64 W, .int .i64 H] 32)).heap.size = w.heap.size + 1 from by simp] at RS
  clear hbf hf hpn hnd
  by_cases hm : (Tr.pane m).is n = true
  ·have e1 : m = n := by simpa [Tr.is] using hm
   go_enter Tryd.func42, Tryd.ntmps42
   go_wp2_with fail
   refine (iis (.pane m) n b [b] true hm.symm _ (unhide HT)).mono ?_
   rintro e w1 ⟨rfl, hw⟩
   rw [← hw] at HBF PL RS HB0
   clear hw HT
   have a1 := (unhide PL).S
   go_wp2_with fail
   refine wp_region_held_drew (S := fun w' => ∀ o, w'.cell? ⟨w.heap.size, o, none⟩ = (#[.int .i64 pn, .int .i64 x, .int .i64 y, .int .i64 W, .int .i64 H] : Array Value)[o]?) (by kernel_rfl) a1 (fun hHeld => ?_)
   refine wtv 0 (oi := { dst := some 15, op := .move (.tmp 0), type := 45, pos := "l05_layout.go:220", after := #[], guard := none }) ?_
   refine wtv 1 (oi := { dst := some 16, op := .load 32 (.tmp 5), type := 32, pos := "l05_layout.go:220", after := #[{ on := 2, ground := .gcOnly Go.Departure.lateStores }], guard := none }) ?_
   refine wtv 2 (oi := { dst := some 6, op := .assign (.tmp 15), type := 45, pos := "l05_layout.go:220", after := #[{ on := 0, ground := .data }, { on := 0, ground := .phase }, { on := 1, ground := .textOnly Go.Departure.lateStores }], guard := none }) ?_
   have RSd := hide (unhide RS).drew
   have HBd := hide (unhide HB0).drew
   have PLd := hide (unhide PL).drew
   have HBFd := hide (unhide HBF).drew
   generalize w1.drew = v0 at RSd HBd PLd HBFd hHeld ⊢
   refine wpAnyH_ready (rs := [3]) (by kernel_rfl) (by simp) ?_
   refine AllReadyH.cons (o := { dst := none, op := .store 32 (.tmp 7) (.tmp 16), type := 0, pos := "l05_layout.go:220", after := #[{ on := 1, ground := .data }, { on := 2, ground := .chain }, { on := 0, ground := .phase }, { on := 1, ground := .phase }, { on := 2, ground := .phase }], guard := none }) rfl (fun K hK => ?_) AllReadyH.nil
   have f5 := (unhide RSd).S
   have f6 := (unhide RSd).F
   have HB5 := hide (((((((unhide HBd).setCell (p := ⟨w.heap.size + 1, 0, none⟩) (Nat.le_succ _) (.int .i64 pn)).setCell (p := ⟨w.heap.size + 1, 1, none⟩) (Nat.le_succ _) (.int .i64 x)).setCell (p := ⟨w.heap.size + 1, 2, none⟩) (Nat.le_succ _) (.int .i64 y)).setCell (p := ⟨w.heap.size + 1, 3, none⟩) (Nat.le_succ _) (.int .i64 W)).setCell (p := ⟨w.heap.size + 1, 4, none⟩) (Nat.le_succ _) (.int .i64 H)))
   have PL5 := hide (((((((unhide PLd).far ⟨w.heap.size + 1, 0, none⟩ (.int .i64 pn) (Nat.succ_ne_self _)).far ⟨w.heap.size + 1, 1, none⟩ (.int .i64 x) (Nat.succ_ne_self _)).far ⟨w.heap.size + 1, 2, none⟩ (.int .i64 y) (Nat.succ_ne_self _)).far ⟨w.heap.size + 1, 3, none⟩ (.int .i64 W) (Nat.succ_ne_self _)).far ⟨w.heap.size + 1, 4, none⟩ (.int .i64 H) (Nat.succ_ne_self _)))
   have HBF5 := hide (((((((unhide HBFd).far ⟨w.heap.size + 1, 0, none⟩ (.int .i64 pn) (by exact Nat.ne_of_gt (Nat.lt_succ_of_lt hblt))).far ⟨w.heap.size + 1, 1, none⟩ (.int .i64 x) (by exact Nat.ne_of_gt (Nat.lt_succ_of_lt hblt))).far ⟨w.heap.size + 1, 2, none⟩ (.int .i64 y) (by exact Nat.ne_of_gt (Nat.lt_succ_of_lt hblt))).far ⟨w.heap.size + 1, 3, none⟩ (.int .i64 W) (by exact Nat.ne_of_gt (Nat.lt_succ_of_lt hblt))).far ⟨w.heap.size + 1, 4, none⟩ (.int .i64 H) (by exact Nat.ne_of_gt (Nat.lt_succ_of_lt hblt))))
   have RS5 := hide (put5' (unhide RSd) (.int .i64 pn) (.int .i64 x) (.int .i64 y) (.int .i64 W) (.int .i64 H))
   go_simp
   clear f5 f6
   refine hK.out _ _ ?_ (fun hHeld3 => ?_)
   ·exact (unhide PL5).S
   clear hK K
   try simp only [Act.put, qqA, qqB, qqC]
   refine wpAnyH_done (by kernel_rfl) ?_ _
   generalize (((((v0.setCell ⟨(w.heap.size + 1), 0, none⟩ (.int .i64 pn)).setCell ⟨(w.heap.size + 1), 1, none⟩ (.int .i64 x)).setCell ⟨(w.heap.size + 1), 2, none⟩ (.int .i64 y)).setCell ⟨(w.heap.size + 1), 3, none⟩ (.int .i64 W)).setCell ⟨(w.heap.size + 1), 4, none⟩ (.int .i64 H)) = w5 at HB5 HBF5 RS5 ⊢
   clear PL5 hHeld hHeld3 a1 HBF PL RS HB0 RSd HBd PLd HBFd
   have f7 := (unhide RS5).S
   go_wp2_with fail
   refine bodyPost_ret (v := .tuple #[.pointer (some ⟨b, 0, none⟩), .agg #[.int .i64 pn, .int .i64 x, .int .i64 y, .int .i64 W, .int .i64 H]]) (by simp [results, Tryd.results42, go_sem, f7]) rfl ⟨_, _, _, _, _, _, rfl, ?_, unhide HB5⟩
   have hbf := unhide HBF5
   subst e1
   exact .inl ⟨by simp [Tr.panes], b, rfl, splitAt_here hbf, by simp [Tr.sid], by simp [Tr.sid]⟩
  ·have hm' : (Tr.pane m).is n = false := by simpa using hm
   have hmm : n ∉ (Tr.pane m).panes := fun h => hm (pane_is h)
   go_enter Tryd.func42, Tryd.ntmps42
   go_wp2_with fail
   refine (iis (.pane m) n b [b] false hm'.symm _ (unhide HT)).mono ?_
   rintro e w1 ⟨rfl, hw⟩
   rw [← hw] at HBF PL RS HB0
   clear hw HT
   go_wp2_with fail
   refine (ipane_pane b m _ (unhide HBF)).mono ?_
   rintro e w2 ⟨rfl, hw⟩
   rw [← hw] at HBF PL RS HB0
   clear hw
   have f5 := (unhide RS).S
   have f6 := (unhide RS).F
   have RS5 := hide (put5' (unhide RS) (.int .i64 0) (.int .i64 0) (.int .i64 0) (.int .i64 0) (.int .i64 0))
   have HB5 := hide (((((((unhide HB0).setCell (p := ⟨w.heap.size + 1, 0, none⟩) (Nat.le_succ _) (.int .i64 0)).setCell (p := ⟨w.heap.size + 1, 1, none⟩) (Nat.le_succ _) (.int .i64 0)).setCell (p := ⟨w.heap.size + 1, 2, none⟩) (Nat.le_succ _) (.int .i64 0)).setCell (p := ⟨w.heap.size + 1, 3, none⟩) (Nat.le_succ _) (.int .i64 0)).setCell (p := ⟨w.heap.size + 1, 4, none⟩) (Nat.le_succ _) (.int .i64 0)))
   clear HB0 RS
   go_wp2_with fail
   have f7 := (unhide RS5).S
   refine bodyPost_ret (v := .tuple #[.pointer none, .agg #[.int .i64 0, .int .i64 0, .int .i64 0, .int .i64 0, .int .i64 0]]) (by simp [results, Tryd.results42, go_sem, f7]) rfl ⟨_, _, _, _, _, _, rfl, .inr ⟨hmm, rfl⟩, unhide HB5⟩
 | split r s l t ihl ihr =>
  intro b bs pn x y W H w ht hnd hx hy hW hH h1 h2 hf hpn
  have HT := hide ((ht.alloc (Obj.cells #[.int .i64 pn, .int .i64 x, .int .i64 y, .int .i64 W, .int .i64 H] 32)).alloc (Obj.cells #[.int .i64 0, .int .i64 0, .int .i64 0, .int .i64 0, .int .i64 0] 32))
  obtain ⟨bl, br, Ls, Rs, rfl, hbf, htl, htr⟩ := ht
  have HBF := hide ((hbf.alloc (Obj.cells #[.int .i64 pn, .int .i64 x, .int .i64 y, .int .i64 W, .int .i64 H] 32)).alloc (Obj.cells #[.int .i64 0, .int .i64 0, .int .i64 0, .int .i64 0, .int .i64 0] 32))
  have HTL := hide ((htl.alloc (Obj.cells #[.int .i64 pn, .int .i64 x, .int .i64 y, .int .i64 W, .int .i64 H] 32)).alloc (Obj.cells #[.int .i64 0, .int .i64 0, .int .i64 0, .int .i64 0, .int .i64 0] 32))
  have HTR := hide ((htr.alloc (Obj.cells #[.int .i64 pn, .int .i64 x, .int .i64 y, .int .i64 W, .int .i64 H] 32)).alloc (Obj.cells #[.int .i64 0, .int .i64 0, .int .i64 0, .int .i64 0, .int .i64 0] 32))
  have HB0 := hide (Go.Joins.below_alloc2 w (Obj.cells #[.int .i64 pn, .int .i64 x, .int .i64 y, .int .i64 W, .int .i64 H] 32) (Obj.cells #[.int .i64 0, .int .i64 0, .int .i64 0, .int .i64 0, .int .i64 0] 32))
  have PL := hide ((BF.new w #[.int .i64 pn, .int .i64 x, .int .i64 y, .int .i64 W, .int .i64 H] 32).alloc (Obj.cells #[.int .i64 0, .int .i64 0, .int .i64 0, .int .i64 0, .int .i64 0] 32))
  have RS := hide (BF.new (w.alloc (Obj.cells #[.int .i64 pn, .int .i64 x, .int .i64 y, .int .i64 W, .int .i64 H] 32)) #[.int .i64 0, .int .i64 0, .int .i64 0, .int .i64 0, .int .i64 0] 32)
  rw [show (w.alloc (Obj.cells #[.int .i64 pn, .int .i64 x, .int .i64 y, .int .i64 W, .int .i64 H] 32)).heap.size = w.heap.size + 1 from by simp] at RS
  have HND := hide hnd
  rw [List.nodup_cons, List.mem_append, List.nodup_append] at hnd
  simp only [Tr.panes] at hpn
  rw [List.nodup_append] at hpn
  have HPN := hide hpn
  obtain ⟨xl, yl, Wl, Hl, xr, yr, Wr, Hr, eL, eR, bL, bR, hfl, hfr, hs, es1, es2⟩ := cut_sid (pn := pn) hx hy hW hH h1 h2 hf
  have HEL := hide eL
  have HER := hide eR
  have HE1 := hide es1
  have HE2 := hide es2
  have HI := hide (fun w0 (h0 : TreeAt iBx w0 l bl Ls) => ihl bl Ls pn xl yl Wl Hl w0 h0 hnd.2.1 bL.1 bL.2.1 bL.2.2.1 bL.2.2.2.1 bL.2.2.2.2.1 bL.2.2.2.2.2 hfl hpn.1)
  have HJ := hide (fun w0 (h0 : TreeAt iBx w0 t br Rs) => ihr br Rs pn xr yr Wr Hr w0 h0 hnd.2.2.1 bR.1 bR.2.1 bR.2.2.1 bR.2.2.2.1 bR.2.2.2.2.1 bR.2.2.2.2.2 hfr hpn.2.1)
  have HBLT := hide hbf.lt
  have HRLT := hide htr.lt
  have HLLT := hide htl.lt
  clear hbf htl htr ihl ihr hf eL eR es1 es2 bL bR hfl hfr hnd hpn
  go_enter Tryd.func42, Tryd.ntmps42
  go_wp2_with fail
  refine (iis (.split r s l t) n b _ false rfl _ (unhide HT)).mono ?_
  rintro e w1 ⟨rfl, hw⟩
  rw [← hw] at HBF HTL HTR PL RS HB0
  clear hw HT
  go_wp2_with fail
  refine (ipane_split b r s bl br _ (unhide HBF)).mono ?_
  rintro e w2 ⟨rfl, hw⟩
  rw [← hw] at HBF HTL HTR PL RS HB0
  clear hw
  have a1 := (unhide PL).S
  go_wp2_with fail
  refine (icut b bl br r s pn x y W H hs (by omega) (by omega) (by omega) (by omega) _ (unhide HBF)).mono ?_
  rintro e w3 ⟨rfl, hb3⟩
  rw [unhide HEL, unhide HER]
  have F3 := hide ((unhide HBF).below hb3)
  have TL3 := hide ((unhide HTL).below hb3)
  have TR3 := hide ((unhide HTR).below hb3)
  have RS3 := hide ((unhide RS).below hb3)
  have HB3 := hide ((unhide HB0).trans (hb3.mono (unhide HB0).size))
  clear hb3 a1
  have F4 := hide (((unhide F3).alloc (Obj.cells #[.int .i64 pn, .int .i64 xl, .int .i64 yl, .int .i64 Wl, .int .i64 Hl] 32)).alloc (Obj.cells #[.int .i64 pn, .int .i64 xr, .int .i64 yr, .int .i64 Wr, .int .i64 Hr] 32))
  have TL4 := hide (((unhide TL3).alloc (Obj.cells #[.int .i64 pn, .int .i64 xl, .int .i64 yl, .int .i64 Wl, .int .i64 Hl] 32)).alloc (Obj.cells #[.int .i64 pn, .int .i64 xr, .int .i64 yr, .int .i64 Wr, .int .i64 Hr] 32))
  have TR4 := hide (((unhide TR3).alloc (Obj.cells #[.int .i64 pn, .int .i64 xl, .int .i64 yl, .int .i64 Wl, .int .i64 Hl] 32)).alloc (Obj.cells #[.int .i64 pn, .int .i64 xr, .int .i64 yr, .int .i64 Wr, .int .i64 Hr] 32))
  have RS4 := hide (((unhide RS3).alloc (Obj.cells #[.int .i64 pn, .int .i64 xl, .int .i64 yl, .int .i64 Wl, .int .i64 Hl] 32)).alloc (Obj.cells #[.int .i64 pn, .int .i64 xr, .int .i64 yr, .int .i64 Wr, .int .i64 Hr] 32))
  have QL := hide ((BF.new w3 #[.int .i64 pn, .int .i64 xl, .int .i64 yl, .int .i64 Wl, .int .i64 Hl] 32).alloc (Obj.cells #[.int .i64 pn, .int .i64 xr, .int .i64 yr, .int .i64 Wr, .int .i64 Hr] 32))
  have QR := hide (BF.new (w3.alloc (Obj.cells #[.int .i64 pn, .int .i64 xl, .int .i64 yl, .int .i64 Wl, .int .i64 Hl] 32)) #[.int .i64 pn, .int .i64 xr, .int .i64 yr, .int .i64 Wr, .int .i64 Hr] 32)
  rw [show (w3.alloc (Obj.cells #[.int .i64 pn, .int .i64 xl, .int .i64 yl, .int .i64 Wl, .int .i64 Hl] 32)).heap.size = w3.heap.size + 1 from by simp] at QR
  have HB4 := hide ((unhide HB3).trans ((Go.Joins.below_alloc2 w3 (Obj.cells #[.int .i64 pn, .int .i64 xl, .int .i64 yl, .int .i64 Wl, .int .i64 Hl] 32) (Obj.cells #[.int .i64 pn, .int .i64 xr, .int .i64 yr, .int .i64 Wr, .int .i64 Hr] 32)).mono (unhide HB3).size))
  have HLL0 := hide (unhide RS3).lt
  clear F3 TL3 TR3 RS3 HB3 HBF HTL HTR PL RS HB0
  go_wp2_with fail
  generalize (w3.alloc (Obj.cells #[.int .i64 pn, .int .i64 xl, .int .i64 yl, .int .i64 Wl, .int .i64 Hl] 32)).alloc (Obj.cells #[.int .i64 pn, .int .i64 xr, .int .i64 yr, .int .i64 Wr, .int .i64 Hr] 32) = w4 at F4 TL4 TR4 RS4 QL QR HB4 ⊢
  have HLL : Hid (w.heap.size + 1 < w3.heap.size) := by show _ < _; exact unhide HLL0
  generalize w3.heap.size = L at QL QR HLL ⊢
  have HLT := hide (unhide TL4).lt
  have hrs : w.heap.size + 1 < w4.heap.size := (unhide RS4).lt
  have k4 : w4.cell? ⟨b, 3, none⟩ = some (.pointer (some ⟨bl, 0, none⟩)) ∧ (∀ o, w4.cell? ⟨L, o, none⟩ = (#[.int .i64 pn, .int .i64 xl, .int .i64 yl, .int .i64 Wl, .int .i64 Hl] : Array Value)[o]?) := ⟨(unhide F4).S 3, (unhide QL).S⟩
  have HNB : Hid (w.heap.size + 1 ≠ b) := by show _ ≠ _; have := unhide HBLT; omega
  have HNR : Hid (∀ k ∈ Rs, ¬ k = w.heap.size + 1) := fun k hk => by have := unhide HRLT k hk; omega
  have HNL : Hid (∀ k ∈ Ls, ¬ k = w.heap.size + 1) := fun k hk => by have := unhide HLLT k hk; omega
  have HNQ : Hid (w.heap.size + 1 ≠ L + 1) := by show _ ≠ _; have := unhide HLL; omega
  refine wp_region_held_drew (S := fun w' => w'.cell? ⟨b, 3, none⟩ = some (.pointer (some ⟨bl, 0, none⟩)) ∧ (∀ o, w'.cell? ⟨L, o, none⟩ = (#[.int .i64 pn, .int .i64 xl, .int .i64 yl, .int .i64 Wl, .int .i64 Hl] : Array Value)[o]?)) (by kernel_rfl) k4 (fun hHeld => ?_)
  refine wtv 0 (oi := { dst := some 27, op := .move (.tmp 0), type := 45, pos := "l05_layout.go:226", after := #[], guard := none }) ?_
  refine wtv 1 (oi := { dst := some 28, op := .nilCheck (.tmp 27), type := 0, pos := "l05_layout.go:226", after := #[{ on := 0, ground := .data }], guard := none }) ?_
  refine wtv 2 (oi := { dst := some 29, op := .fieldAddr 58 (.tmp 28) 3, type := 0, pos := "l05_layout.go:226", after := #[{ on := 1, ground := .data }], guard := none }) ?_
  refine wtv 3 (oi := { dst := some 30, op := .load 45 (.tmp 29), type := 45, pos := "l05_layout.go:226", after := #[{ on := 2, ground := .data }], guard := none }) ?_
  refine wtv 4 (oi := { dst := some 31, op := .move (.tmp 1), type := 3, pos := "l05_layout.go:226", after := #[], guard := none }) ?_
  refine wtv 5 (oi := { dst := some 32, op := .load 32 (.tmp 8), type := 32, pos := "l05_layout.go:226", after := #[], guard := none }) ?_
  have B0 : Hid (Below w4.heap.size w4 w4.drew) := (Below.refl _ _).drew
  generalize w4.drew = v0 at B0 hHeld ⊢
  refine wpAnyH_ready (rs := [6, 10]) (by kernel_rfl) (by simp) ?_
  refine AllReadyH.cons (o := oFdI0) rfl (fun K hK => ?_) (AllReadyH.cons (o := oFdI1) rfl (fun K hK => ?_) AllReadyH.nil)
  ·skip
   go_simp
   refine (unhide HI _ ((unhide TL4).below (unhide B0))).mono ?_
   rintro e v1 ⟨P, q0, q1, q2, q3, q4, rfl, hfd, hb⟩
   have B1 := hide ((unhide B0).trans (hb.mono (unhide B0).size))
   have FD1 := hide hfd
   have S1 : v1.cell? ⟨b, 3, none⟩ = some (.pointer (some ⟨bl, 0, none⟩)) ∧ (∀ o, v1.cell? ⟨L, o, none⟩ = (#[.int .i64 pn, .int .i64 xl, .int .i64 yl, .int .i64 Wl, .int .i64 Hl] : Array Value)[o]?) := ⟨((unhide F4).below (unhide B1)).S 3, ((unhide QL).below (unhide B1)).S⟩
   clear hb hfd
   go_wp2_with fail
   refine hK.out _ _ ?_ (fun hHeld6 => ?_)
   ·exact S1
   clear hK K
   try simp only [Act.put, qqA, qqB, qqC]
   refine wtv 7 (oi := oFdI2) ?_
   refine wtv 8 (oi := oFdI3) ?_
   refine wtv 9 (oi := oFdI4) ?_
   refine wpAnyH_ready (rs := [10]) (by kernel_rfl) (by simp) ?_
   refine AllReadyH.cons (o := oFdI1) rfl (fun K hK => ?_) AllReadyH.nil
   have hb : Below v1.heap.size v1 (v1.alloc (Obj.cells #[.int .i64 0, .int .i64 0, .int .i64 0, .int .i64 0, .int .i64 0] 32)) := (Below.refl _ _).alloc (Nat.le_refl _) _
   have A2 := hide (BF.new v1 #[.int .i64 0, .int .i64 0, .int .i64 0, .int .i64 0, .int .i64 0] 32)
   have B2 := hide ((unhide B1).trans (hb.mono (unhide B1).size))
   have S2 : (v1.alloc (Obj.cells #[.int .i64 0, .int .i64 0, .int .i64 0, .int .i64 0, .int .i64 0] 32)).cell? ⟨b, 3, none⟩ = some (.pointer (some ⟨bl, 0, none⟩)) ∧ (∀ o, (v1.alloc (Obj.cells #[.int .i64 0, .int .i64 0, .int .i64 0, .int .i64 0, .int .i64 0] 32)).cell? ⟨L, o, none⟩ = (#[.int .i64 pn, .int .i64 xl, .int .i64 yl, .int .i64 Wl, .int .i64 Hl] : Array Value)[o]?) := ⟨((unhide F4).below (unhide B2)).S 3, ((unhide QL).below (unhide B2)).S⟩
   have ag : w4.heap.size ≤ v1.heap.size := (unhide B1).size
   have zz2 : v1.heap.size ≤ (v1.alloc (Obj.cells #[.int .i64 0, .int .i64 0, .int .i64 0, .int .i64 0, .int .i64 0] 32)).heap.size := hb.size
   clear hb
   go_simp
   refine hK.out _ _ ?_ (fun hHeld10 => ?_)
   ·exact S2
   clear hK K
   try simp only [Act.put, qqA, qqB, qqC]
   generalize v1.alloc (Obj.cells #[.int .i64 0, .int .i64 0, .int .i64 0, .int .i64 0, .int .i64 0] 32) = v2 at A2 B2 S2 hHeld10 zz2 ⊢
   generalize hA : v1.heap.size = A at A2 ag zz2 ⊢
   refine wtv 11 (oi := oFdI5) ?_
   refine wpAnyH_ready (rs := [12]) (by kernel_rfl) (by simp) ?_
   refine AllReadyH.cons (o := oFdI6) rfl (fun K hK => ?_) AllReadyH.nil
   have f5 := (unhide A2).S
   have f6 := (unhide A2).F
   have A7 := hide (put5' (unhide A2) (.int .i64 q0) (.int .i64 q1) (.int .i64 q2) (.int .i64 q3) (.int .i64 q4))
   have B7 := hide (((((((unhide B2).setCell (p := ⟨A, 0, none⟩) ag (.int .i64 q0)).setCell (p := ⟨A, 1, none⟩) ag (.int .i64 q1)).setCell (p := ⟨A, 2, none⟩) ag (.int .i64 q2)).setCell (p := ⟨A, 3, none⟩) ag (.int .i64 q3)).setCell (p := ⟨A, 4, none⟩) ag (.int .i64 q4)))
   have S7 : (((((v2.setCell ⟨A, 0, none⟩ (.int .i64 q0)).setCell ⟨A, 1, none⟩ (.int .i64 q1)).setCell ⟨A, 2, none⟩ (.int .i64 q2)).setCell ⟨A, 3, none⟩ (.int .i64 q3)).setCell ⟨A, 4, none⟩ (.int .i64 q4)).cell? ⟨b, 3, none⟩ = some (.pointer (some ⟨bl, 0, none⟩)) ∧ (∀ o, (((((v2.setCell ⟨A, 0, none⟩ (.int .i64 q0)).setCell ⟨A, 1, none⟩ (.int .i64 q1)).setCell ⟨A, 2, none⟩ (.int .i64 q2)).setCell ⟨A, 3, none⟩ (.int .i64 q3)).setCell ⟨A, 4, none⟩ (.int .i64 q4)).cell? ⟨L, o, none⟩ = (#[.int .i64 pn, .int .i64 xl, .int .i64 yl, .int .i64 Wl, .int .i64 Hl] : Array Value)[o]?) := ⟨((unhide F4).below (unhide B7)).S 3, ((unhide QL).below (unhide B7)).S⟩
   have FD7 := hide ((unhide FD1).base (w2 := (((((v2.setCell ⟨A, 0, none⟩ (.int .i64 q0)).setCell ⟨A, 1, none⟩ (.int .i64 q1)).setCell ⟨A, 2, none⟩ (.int .i64 q2)).setCell ⟨A, 3, none⟩ (.int .i64 q3)).setCell ⟨A, 4, none⟩ (.int .i64 q4))) (unhide HLT) (unhide B1) (unhide B7) (by rw [hA]; simpa using zz2))
   clear FD1
   go_simp
   clear f5 f6
   refine hK.out _ _ ?_ (fun hHeld12 => ?_)
   ·exact S7
   clear hK K
   try simp only [Act.put, qqA, qqB, qqC]
   refine wpAnyH_done (by kernel_rfl) ?_ _
   generalize (((((v2.setCell ⟨A, 0, none⟩ (.int .i64 q0)).setCell ⟨A, 1, none⟩ (.int .i64 q1)).setCell ⟨A, 2, none⟩ (.int .i64 q2)).setCell ⟨A, 3, none⟩ (.int .i64 q3)).setCell ⟨A, 4, none⟩ (.int .i64 q4)) = v7 at A7 B7 S7 FD7 hHeld12 ⊢
   clear hHeld hHeld12 S7
   by_cases hm : n ∈ l.panes
   ·have hmt : n ∉ t.panes := fun h => (unhide HPN).2.2 n hm n h rfl
    rcases unhide FD7 with ⟨-, sb, hP, hsp, hq3, hq4⟩ | ⟨h, -⟩
    rotate_left 1
    ·exact absurd hm h
    subst hP
    have HSP := hide hsp
    have HQ3 := hide hq3
    have HQ4 := hide hq4
    clear FD7 hsp hq3 hq4
    have RS7 := hide ((unhide RS4).below (unhide B7))
    have F7 := hide ((unhide F4).below (unhide B7))
    have TR7 := hide ((unhide TR4).below (unhide B7))
    have HB7 := hide ((unhide HB4).trans ((unhide B7).mono (unhide HB4).size))
    have a7 := (unhide A7).S
    go_wp2_with fail
    refine wp_region_held_drew (S := fun w' => ∀ o, w'.cell? ⟨A, o, none⟩ = (#[.int .i64 q0, .int .i64 q1, .int .i64 q2, .int .i64 q3, .int .i64 q4] : Array Value)[o]?) (by kernel_rfl) a7 (fun hHeld => ?_)
    refine wtv 0 (oi := oFdI7) ?_
    refine wtv 1 (oi := oFdI8) ?_
    refine wtv 2 (oi := oFdI9) ?_
    have RSd := hide (unhide RS7).drew
    have HBd := hide (unhide HB7).drew
    have A7d := hide (unhide A7).drew
    have F7d := hide (unhide F7).drew
    have Yd : Hid (∀ k : Nat, v7.drew.heap[k]? = v7.heap[k]?) := fun _ => rfl
    have Zd : Hid (v7.heap.size ≤ v7.drew.heap.size) := Nat.le_refl _
    generalize v7.drew = v8 at RSd HBd A7d F7d Yd Zd hHeld ⊢
    refine wpAnyH_ready (rs := [3]) (by kernel_rfl) (by simp) ?_
    refine AllReadyH.cons (o := oFdI10) rfl (fun K hK => ?_) AllReadyH.nil
    have f5 := (unhide RSd).S
    have f6 := (unhide RSd).F
    have HB8 := hide (((((((unhide HBd).setCell (p := ⟨w.heap.size + 1, 0, none⟩) (Nat.le_succ _) (.int .i64 q0)).setCell (p := ⟨w.heap.size + 1, 1, none⟩) (Nat.le_succ _) (.int .i64 q1)).setCell (p := ⟨w.heap.size + 1, 2, none⟩) (Nat.le_succ _) (.int .i64 q2)).setCell (p := ⟨w.heap.size + 1, 3, none⟩) (Nat.le_succ _) (.int .i64 q3)).setCell (p := ⟨w.heap.size + 1, 4, none⟩) (Nat.le_succ _) (.int .i64 q4)))
    have A8 := hide (((((((unhide A7d).far ⟨w.heap.size + 1, 0, none⟩ (.int .i64 q0) (by show w.heap.size + 1 ≠ A; omega)).far ⟨w.heap.size + 1, 1, none⟩ (.int .i64 q1) (by show w.heap.size + 1 ≠ A; omega)).far ⟨w.heap.size + 1, 2, none⟩ (.int .i64 q2) (by show w.heap.size + 1 ≠ A; omega)).far ⟨w.heap.size + 1, 3, none⟩ (.int .i64 q3) (by show w.heap.size + 1 ≠ A; omega)).far ⟨w.heap.size + 1, 4, none⟩ (.int .i64 q4) (by show w.heap.size + 1 ≠ A; omega)))
    have F8 := hide (((((((unhide F7d).far ⟨w.heap.size + 1, 0, none⟩ (.int .i64 q0) (unhide HNB)).far ⟨w.heap.size + 1, 1, none⟩ (.int .i64 q1) (unhide HNB)).far ⟨w.heap.size + 1, 2, none⟩ (.int .i64 q2) (unhide HNB)).far ⟨w.heap.size + 1, 3, none⟩ (.int .i64 q3) (unhide HNB)).far ⟨w.heap.size + 1, 4, none⟩ (.int .i64 q4) (unhide HNB)))
    have RS8 := hide (put5' (unhide RSd) (.int .i64 q0) (.int .i64 q1) (.int .i64 q2) (.int .i64 q3) (.int .i64 q4))
    have Y8 : Hid (∀ k, ¬ k = w.heap.size + 1 → (((((v8.setCell ⟨(w.heap.size + 1), 0, none⟩ (.int .i64 q0)).setCell ⟨(w.heap.size + 1), 1, none⟩ (.int .i64 q1)).setCell ⟨(w.heap.size + 1), 2, none⟩ (.int .i64 q2)).setCell ⟨(w.heap.size + 1), 3, none⟩ (.int .i64 q3)).setCell ⟨(w.heap.size + 1), 4, none⟩ (.int .i64 q4)).heap[k]? = v7.heap[k]?) := fun k hk => (set5_block' v8 _ _ _ _ _ _ k hk).trans (unhide Yd k)
    have Z8 : Hid (v7.heap.size ≤ (((((v8.setCell ⟨(w.heap.size + 1), 0, none⟩ (.int .i64 q0)).setCell ⟨(w.heap.size + 1), 1, none⟩ (.int .i64 q1)).setCell ⟨(w.heap.size + 1), 2, none⟩ (.int .i64 q2)).setCell ⟨(w.heap.size + 1), 3, none⟩ (.int .i64 q3)).setCell ⟨(w.heap.size + 1), 4, none⟩ (.int .i64 q4)).heap.size) := by show _ ≤ _; have := unhide Zd; simpa using this
    go_simp
    clear f5 f6
    refine hK.out _ _ ?_ (fun hHeld3 => ?_)
    ·exact (unhide A8).S
    clear hK K
    try simp only [Act.put, qqA, qqB, qqC]
    refine wpAnyH_done (by kernel_rfl) ?_ _
    generalize (((((v8.setCell ⟨(w.heap.size + 1), 0, none⟩ (.int .i64 q0)).setCell ⟨(w.heap.size + 1), 1, none⟩ (.int .i64 q1)).setCell ⟨(w.heap.size + 1), 2, none⟩ (.int .i64 q2)).setCell ⟨(w.heap.size + 1), 3, none⟩ (.int .i64 q3)).setCell ⟨(w.heap.size + 1), 4, none⟩ (.int .i64 q4)) = w9 at HB8 F8 RS8 Y8 Z8 ⊢
    have f7 := (unhide RS8).S
    go_wp2_with fail
    refine bodyPost_ret (v := .tuple #[.pointer (some ⟨sb, 0, none⟩), .agg #[.int .i64 q0, .int .i64 q1, .int .i64 q2, .int .i64 q3, .int .i64 q4]]) (by simp [results, Tryd.results42, go_sem, f7]) rfl ⟨_, _, _, _, _, _, rfl, ?_, unhide HB8⟩
    refine .inl ⟨by simp [Tr.panes, hm], sb, rfl, splitAt_left (unhide HND) (unhide F8) ((unhide TR7).keep (unhide Z8) (fun k hk => unhide Y8 k (unhide HNR k hk))) hmt ((unhide HSP).keep (unhide Z8) (fun k hk => unhide Y8 k (unhide HNL k hk))), ?_, ?_⟩
    ·rw [unhide HE1 n false hm]; exact unhide HQ3
    ·rw [unhide HE1 n true hm]; exact unhide HQ4
   ·rcases unhide FD7 with ⟨h, -⟩ | ⟨-, hP⟩
    ·exact absurd h hm
    subst hP
    clear FD7
    have RS7 := hide ((unhide RS4).below (unhide B7))
    have F7 := hide ((unhide F4).below (unhide B7))
    have TL7 := hide ((unhide TL4).below (unhide B7))
    have TR7 := hide ((unhide TR4).below (unhide B7))
    have QR7 := hide ((unhide QR).below (unhide B7))
    have HB7 := hide ((unhide HB4).trans ((unhide B7).mono (unhide HB4).size))
    have k7 : v7.cell? ⟨b, 4, none⟩ = some (.pointer (some ⟨br, 0, none⟩)) ∧ (∀ o, v7.cell? ⟨L + 1, o, none⟩ = (#[.int .i64 pn, .int .i64 xr, .int .i64 yr, .int .i64 Wr, .int .i64 Hr] : Array Value)[o]?) := ⟨(unhide F7).S 4, (unhide QR7).S⟩
    go_wp2_with fail
    refine wp_region_held_drew (S := fun w' => w'.cell? ⟨b, 4, none⟩ = some (.pointer (some ⟨br, 0, none⟩)) ∧ (∀ o, w'.cell? ⟨L + 1, o, none⟩ = (#[.int .i64 pn, .int .i64 xr, .int .i64 yr, .int .i64 Wr, .int .i64 Hr] : Array Value)[o]?)) (by kernel_rfl) k7 (fun hHeld => ?_)
    refine wtv 0 (oi := oFdI11) ?_
    refine wtv 1 (oi := oFdI12) ?_
    refine wtv 2 (oi := oFdI13) ?_
    refine wtv 3 (oi := oFdI14) ?_
    refine wtv 4 (oi := oFdI15) ?_
    refine wtv 5 (oi := oFdI16) ?_
    refine wpAnyH_ready (rs := [6]) (by kernel_rfl) (by simp) ?_
    refine AllReadyH.cons (o := oFdI17) rfl (fun K hK => ?_) AllReadyH.nil
    go_simp
    refine (unhide HJ _ (unhide TR7).drew).mono ?_
    rintro e v8 ⟨P2, u0, u1, u2, u3, u4, rfl, hfd, hb⟩
    have RS8 := hide ((unhide RS7).drew.below hb)
    have F8 := hide ((unhide F7).drew.below hb)
    have TL8 := hide ((unhide TL7).drew.below hb)
    have QR8 := hide ((unhide QR7).drew.below hb)
    have HB8 := hide ((unhide HB7).trans ((below_undrew hb).mono (unhide HB7).size))
    have FD8 := hide hfd
    have k8 : v8.cell? ⟨b, 4, none⟩ = some (.pointer (some ⟨br, 0, none⟩)) ∧ (∀ o, v8.cell? ⟨L + 1, o, none⟩ = (#[.int .i64 pn, .int .i64 xr, .int .i64 yr, .int .i64 Wr, .int .i64 Hr] : Array Value)[o]?) := ⟨(unhide F8).S 4, (unhide QR8).S⟩
    clear hb hfd
    go_wp2_with fail
    refine hK.out _ _ ?_ (fun hHeld6 => ?_)
    ·exact k8
    clear hK K
    try simp only [Act.put, qqA, qqB, qqC]
    refine wtv 7 (oi := oFdI18) ?_
    refine wtv 8 (oi := oFdI19) ?_
    refine wtv 9 (oi := oFdI20) ?_
    refine wpAnyH_ready (rs := [10]) (by kernel_rfl) (by simp) ?_
    refine AllReadyH.cons (o := oFdI21) rfl (fun K hK => ?_) AllReadyH.nil
    have f5 := (unhide RS8).S
    have f6 := (unhide RS8).F
    have HB9 := hide (((((((unhide HB8).setCell (p := ⟨w.heap.size + 1, 0, none⟩) (Nat.le_succ _) (.int .i64 u0)).setCell (p := ⟨w.heap.size + 1, 1, none⟩) (Nat.le_succ _) (.int .i64 u1)).setCell (p := ⟨w.heap.size + 1, 2, none⟩) (Nat.le_succ _) (.int .i64 u2)).setCell (p := ⟨w.heap.size + 1, 3, none⟩) (Nat.le_succ _) (.int .i64 u3)).setCell (p := ⟨w.heap.size + 1, 4, none⟩) (Nat.le_succ _) (.int .i64 u4)))
    have F9 := hide (((((((unhide F8).far ⟨w.heap.size + 1, 0, none⟩ (.int .i64 u0) (unhide HNB)).far ⟨w.heap.size + 1, 1, none⟩ (.int .i64 u1) (unhide HNB)).far ⟨w.heap.size + 1, 2, none⟩ (.int .i64 u2) (unhide HNB)).far ⟨w.heap.size + 1, 3, none⟩ (.int .i64 u3) (unhide HNB)).far ⟨w.heap.size + 1, 4, none⟩ (.int .i64 u4) (unhide HNB)))
    have QR9 := hide (((((((unhide QR8).far ⟨w.heap.size + 1, 0, none⟩ (.int .i64 u0) (unhide HNQ)).far ⟨w.heap.size + 1, 1, none⟩ (.int .i64 u1) (unhide HNQ)).far ⟨w.heap.size + 1, 2, none⟩ (.int .i64 u2) (unhide HNQ)).far ⟨w.heap.size + 1, 3, none⟩ (.int .i64 u3) (unhide HNQ)).far ⟨w.heap.size + 1, 4, none⟩ (.int .i64 u4) (unhide HNQ)))
    have RS9 := hide (put5' (unhide RS8) (.int .i64 u0) (.int .i64 u1) (.int .i64 u2) (.int .i64 u3) (.int .i64 u4))
    have Y9 : Hid (∀ k, ¬ k = w.heap.size + 1 → (((((v8.setCell ⟨(w.heap.size + 1), 0, none⟩ (.int .i64 u0)).setCell ⟨(w.heap.size + 1), 1, none⟩ (.int .i64 u1)).setCell ⟨(w.heap.size + 1), 2, none⟩ (.int .i64 u2)).setCell ⟨(w.heap.size + 1), 3, none⟩ (.int .i64 u3)).setCell ⟨(w.heap.size + 1), 4, none⟩ (.int .i64 u4)).heap[k]? = v8.heap[k]?) := set5_block' v8 _ _ _ _ _ _
    have Z9 : Hid (v8.heap.size ≤ (((((v8.setCell ⟨(w.heap.size + 1), 0, none⟩ (.int .i64 u0)).setCell ⟨(w.heap.size + 1), 1, none⟩ (.int .i64 u1)).setCell ⟨(w.heap.size + 1), 2, none⟩ (.int .i64 u2)).setCell ⟨(w.heap.size + 1), 3, none⟩ (.int .i64 u3)).setCell ⟨(w.heap.size + 1), 4, none⟩ (.int .i64 u4)).heap.size) := by show _ ≤ _; simp
    have k9 : (((((v8.setCell ⟨(w.heap.size + 1), 0, none⟩ (.int .i64 u0)).setCell ⟨(w.heap.size + 1), 1, none⟩ (.int .i64 u1)).setCell ⟨(w.heap.size + 1), 2, none⟩ (.int .i64 u2)).setCell ⟨(w.heap.size + 1), 3, none⟩ (.int .i64 u3)).setCell ⟨(w.heap.size + 1), 4, none⟩ (.int .i64 u4)).cell? ⟨b, 4, none⟩ = some (.pointer (some ⟨br, 0, none⟩)) ∧ (∀ o, (((((v8.setCell ⟨(w.heap.size + 1), 0, none⟩ (.int .i64 u0)).setCell ⟨(w.heap.size + 1), 1, none⟩ (.int .i64 u1)).setCell ⟨(w.heap.size + 1), 2, none⟩ (.int .i64 u2)).setCell ⟨(w.heap.size + 1), 3, none⟩ (.int .i64 u3)).setCell ⟨(w.heap.size + 1), 4, none⟩ (.int .i64 u4)).cell? ⟨L + 1, o, none⟩ = (#[.int .i64 pn, .int .i64 xr, .int .i64 yr, .int .i64 Wr, .int .i64 Hr] : Array Value)[o]?) := ⟨(unhide F9).S 4, (unhide QR9).S⟩
    go_simp
    clear f5 f6
    refine hK.out _ _ ?_ (fun hHeld10 => ?_)
    ·exact k9
    clear hK K
    try simp only [Act.put, qqA, qqB, qqC]
    refine wpAnyH_done (by kernel_rfl) ?_ _
    generalize (((((v8.setCell ⟨(w.heap.size + 1), 0, none⟩ (.int .i64 u0)).setCell ⟨(w.heap.size + 1), 1, none⟩ (.int .i64 u1)).setCell ⟨(w.heap.size + 1), 2, none⟩ (.int .i64 u2)).setCell ⟨(w.heap.size + 1), 3, none⟩ (.int .i64 u3)).setCell ⟨(w.heap.size + 1), 4, none⟩ (.int .i64 u4)) = w9 at HB9 F9 RS9 Y9 Z9 ⊢
    have f7 := (unhide RS9).S
    go_wp2_with fail
    refine bodyPost_ret (v := .tuple #[.pointer P2, .agg #[.int .i64 u0, .int .i64 u1, .int .i64 u2, .int .i64 u3, .int .i64 u4]]) (by simp [results, Tryd.results42, go_sem, f7]) rfl ⟨_, _, _, _, _, _, rfl, ?_, unhide HB9⟩
    rcases (unhide FD8).keep (unhide Z9) (fun k hk => unhide Y9 k (unhide HNR k hk)) with ⟨h1, sb, h2, h3, h4, h5⟩ | ⟨h1, h2⟩
    ·refine .inl ⟨by simp [Tr.panes, h1], sb, h2, splitAt_right (unhide HND) (unhide F9) ((unhide TL8).keep (unhide Z9) (fun k hk => unhide Y9 k (unhide HNL k hk))) hm h3, ?_, ?_⟩
     ·rw [unhide HE2 n false hm]; exact h4
     ·rw [unhide HE2 n true hm]; exact h5
    ·exact .inr ⟨by simp [Tr.panes, hm, h1], h2⟩
  ·skip
   have hb : Below v0.heap.size v0 (v0.alloc (Obj.cells #[.int .i64 0, .int .i64 0, .int .i64 0, .int .i64 0, .int .i64 0] 32)) := (Below.refl _ _).alloc (Nat.le_refl _) _
   have A1 := hide (BF.new v0 #[.int .i64 0, .int .i64 0, .int .i64 0, .int .i64 0, .int .i64 0] 32)
   have B1 := hide ((unhide B0).trans (hb.mono (unhide B0).size))
   have S1 : (v0.alloc (Obj.cells #[.int .i64 0, .int .i64 0, .int .i64 0, .int .i64 0, .int .i64 0] 32)).cell? ⟨b, 3, none⟩ = some (.pointer (some ⟨bl, 0, none⟩)) ∧ (∀ o, (v0.alloc (Obj.cells #[.int .i64 0, .int .i64 0, .int .i64 0, .int .i64 0, .int .i64 0] 32)).cell? ⟨L, o, none⟩ = (#[.int .i64 pn, .int .i64 xl, .int .i64 yl, .int .i64 Wl, .int .i64 Hl] : Array Value)[o]?) := ⟨((unhide F4).below (unhide B1)).S 3, ((unhide QL).below (unhide B1)).S⟩
   have ag : w4.heap.size ≤ v0.heap.size := (unhide B0).size
   have zz1 : v0.heap.size ≤ (v0.alloc (Obj.cells #[.int .i64 0, .int .i64 0, .int .i64 0, .int .i64 0, .int .i64 0] 32)).heap.size := hb.size
   clear hb
   go_simp
   refine hK.out _ _ ?_ (fun hHeld10 => ?_)
   ·exact S1
   clear hK K
   try simp only [Act.put, qqA, qqB, qqC]
   generalize v0.alloc (Obj.cells #[.int .i64 0, .int .i64 0, .int .i64 0, .int .i64 0, .int .i64 0] 32) = v1 at A1 B1 S1 hHeld10 zz1 ⊢
   generalize hA : v0.heap.size = A at A1 ag zz1 ⊢
   refine wpAnyH_ready (rs := [6]) (by kernel_rfl) (by simp) ?_
   refine AllReadyH.cons (o := oFdI0) rfl (fun K hK => ?_) AllReadyH.nil
   go_simp
   refine (unhide HI _ ((unhide TL4).below (unhide B1))).mono ?_
   rintro e v2 ⟨P, q0, q1, q2, q3, q4, rfl, hfd, hb⟩
   have B2 := hide ((unhide B1).trans (hb.mono (unhide B1).size))
   have FD2 := hide hfd
   have S2 : v2.cell? ⟨b, 3, none⟩ = some (.pointer (some ⟨bl, 0, none⟩)) ∧ (∀ o, v2.cell? ⟨L, o, none⟩ = (#[.int .i64 pn, .int .i64 xl, .int .i64 yl, .int .i64 Wl, .int .i64 Hl] : Array Value)[o]?) := ⟨((unhide F4).below (unhide B2)).S 3, ((unhide QL).below (unhide B2)).S⟩
   have A2 := hide ((unhide A1).below hb)
   clear hb hfd
   go_wp2_with fail
   refine hK.out _ _ ?_ (fun hHeld6 => ?_)
   ·exact S2
   clear hK K
   try simp only [Act.put, qqA, qqB, qqC]
   refine wtv 7 (oi := oFdI2) ?_
   refine wtv 8 (oi := oFdI3) ?_
   refine wtv 9 (oi := oFdI4) ?_
   refine wtv 11 (oi := oFdI5) ?_
   refine wpAnyH_ready (rs := [12]) (by kernel_rfl) (by simp) ?_
   refine AllReadyH.cons (o := oFdI6) rfl (fun K hK => ?_) AllReadyH.nil
   have f5 := (unhide A2).S
   have f6 := (unhide A2).F
   have A7 := hide (put5' (unhide A2) (.int .i64 q0) (.int .i64 q1) (.int .i64 q2) (.int .i64 q3) (.int .i64 q4))
   have B7 := hide (((((((unhide B2).setCell (p := ⟨A, 0, none⟩) ag (.int .i64 q0)).setCell (p := ⟨A, 1, none⟩) ag (.int .i64 q1)).setCell (p := ⟨A, 2, none⟩) ag (.int .i64 q2)).setCell (p := ⟨A, 3, none⟩) ag (.int .i64 q3)).setCell (p := ⟨A, 4, none⟩) ag (.int .i64 q4)))
   have S7 : (((((v2.setCell ⟨A, 0, none⟩ (.int .i64 q0)).setCell ⟨A, 1, none⟩ (.int .i64 q1)).setCell ⟨A, 2, none⟩ (.int .i64 q2)).setCell ⟨A, 3, none⟩ (.int .i64 q3)).setCell ⟨A, 4, none⟩ (.int .i64 q4)).cell? ⟨b, 3, none⟩ = some (.pointer (some ⟨bl, 0, none⟩)) ∧ (∀ o, (((((v2.setCell ⟨A, 0, none⟩ (.int .i64 q0)).setCell ⟨A, 1, none⟩ (.int .i64 q1)).setCell ⟨A, 2, none⟩ (.int .i64 q2)).setCell ⟨A, 3, none⟩ (.int .i64 q3)).setCell ⟨A, 4, none⟩ (.int .i64 q4)).cell? ⟨L, o, none⟩ = (#[.int .i64 pn, .int .i64 xl, .int .i64 yl, .int .i64 Wl, .int .i64 Hl] : Array Value)[o]?) := ⟨((unhide F4).below (unhide B7)).S 3, ((unhide QL).below (unhide B7)).S⟩
   have FD7 := hide ((unhide FD2).base (w2 := (((((v2.setCell ⟨A, 0, none⟩ (.int .i64 q0)).setCell ⟨A, 1, none⟩ (.int .i64 q1)).setCell ⟨A, 2, none⟩ (.int .i64 q2)).setCell ⟨A, 3, none⟩ (.int .i64 q3)).setCell ⟨A, 4, none⟩ (.int .i64 q4))) (unhide HLT) (unhide B2) (unhide B7) (by simp))
   clear FD2
   go_simp
   clear f5 f6
   refine hK.out _ _ ?_ (fun hHeld12 => ?_)
   ·exact S7
   clear hK K
   try simp only [Act.put, qqA, qqB, qqC]
   refine wpAnyH_done (by kernel_rfl) ?_ _
   generalize (((((v2.setCell ⟨A, 0, none⟩ (.int .i64 q0)).setCell ⟨A, 1, none⟩ (.int .i64 q1)).setCell ⟨A, 2, none⟩ (.int .i64 q2)).setCell ⟨A, 3, none⟩ (.int .i64 q3)).setCell ⟨A, 4, none⟩ (.int .i64 q4)) = v7 at A7 B7 S7 FD7 hHeld12 ⊢
   clear hHeld hHeld12 S7
   by_cases hm : n ∈ l.panes
   ·have hmt : n ∉ t.panes := fun h => (unhide HPN).2.2 n hm n h rfl
    rcases unhide FD7 with ⟨-, sb, hP, hsp, hq3, hq4⟩ | ⟨h, -⟩
    rotate_left 1
    ·exact absurd hm h
    subst hP
    have HSP := hide hsp
    have HQ3 := hide hq3
    have HQ4 := hide hq4
    clear FD7 hsp hq3 hq4
    have RS7 := hide ((unhide RS4).below (unhide B7))
    have F7 := hide ((unhide F4).below (unhide B7))
    have TR7 := hide ((unhide TR4).below (unhide B7))
    have HB7 := hide ((unhide HB4).trans ((unhide B7).mono (unhide HB4).size))
    have a7 := (unhide A7).S
    go_wp2_with fail
    refine wp_region_held_drew (S := fun w' => ∀ o, w'.cell? ⟨A, o, none⟩ = (#[.int .i64 q0, .int .i64 q1, .int .i64 q2, .int .i64 q3, .int .i64 q4] : Array Value)[o]?) (by kernel_rfl) a7 (fun hHeld => ?_)
    refine wtv 0 (oi := oFdI7) ?_
    refine wtv 1 (oi := oFdI8) ?_
    refine wtv 2 (oi := oFdI9) ?_
    have RSd := hide (unhide RS7).drew
    have HBd := hide (unhide HB7).drew
    have A7d := hide (unhide A7).drew
    have F7d := hide (unhide F7).drew
    have Yd : Hid (∀ k : Nat, v7.drew.heap[k]? = v7.heap[k]?) := fun _ => rfl
    have Zd : Hid (v7.heap.size ≤ v7.drew.heap.size) := Nat.le_refl _
    generalize v7.drew = v8 at RSd HBd A7d F7d Yd Zd hHeld ⊢
    refine wpAnyH_ready (rs := [3]) (by kernel_rfl) (by simp) ?_
    refine AllReadyH.cons (o := oFdI10) rfl (fun K hK => ?_) AllReadyH.nil
    have f5 := (unhide RSd).S
    have f6 := (unhide RSd).F
    have HB8 := hide (((((((unhide HBd).setCell (p := ⟨w.heap.size + 1, 0, none⟩) (Nat.le_succ _) (.int .i64 q0)).setCell (p := ⟨w.heap.size + 1, 1, none⟩) (Nat.le_succ _) (.int .i64 q1)).setCell (p := ⟨w.heap.size + 1, 2, none⟩) (Nat.le_succ _) (.int .i64 q2)).setCell (p := ⟨w.heap.size + 1, 3, none⟩) (Nat.le_succ _) (.int .i64 q3)).setCell (p := ⟨w.heap.size + 1, 4, none⟩) (Nat.le_succ _) (.int .i64 q4)))
    have A8 := hide (((((((unhide A7d).far ⟨w.heap.size + 1, 0, none⟩ (.int .i64 q0) (by show w.heap.size + 1 ≠ A; omega)).far ⟨w.heap.size + 1, 1, none⟩ (.int .i64 q1) (by show w.heap.size + 1 ≠ A; omega)).far ⟨w.heap.size + 1, 2, none⟩ (.int .i64 q2) (by show w.heap.size + 1 ≠ A; omega)).far ⟨w.heap.size + 1, 3, none⟩ (.int .i64 q3) (by show w.heap.size + 1 ≠ A; omega)).far ⟨w.heap.size + 1, 4, none⟩ (.int .i64 q4) (by show w.heap.size + 1 ≠ A; omega)))
    have F8 := hide (((((((unhide F7d).far ⟨w.heap.size + 1, 0, none⟩ (.int .i64 q0) (unhide HNB)).far ⟨w.heap.size + 1, 1, none⟩ (.int .i64 q1) (unhide HNB)).far ⟨w.heap.size + 1, 2, none⟩ (.int .i64 q2) (unhide HNB)).far ⟨w.heap.size + 1, 3, none⟩ (.int .i64 q3) (unhide HNB)).far ⟨w.heap.size + 1, 4, none⟩ (.int .i64 q4) (unhide HNB)))
    have RS8 := hide (put5' (unhide RSd) (.int .i64 q0) (.int .i64 q1) (.int .i64 q2) (.int .i64 q3) (.int .i64 q4))
    have Y8 : Hid (∀ k, ¬ k = w.heap.size + 1 → (((((v8.setCell ⟨(w.heap.size + 1), 0, none⟩ (.int .i64 q0)).setCell ⟨(w.heap.size + 1), 1, none⟩ (.int .i64 q1)).setCell ⟨(w.heap.size + 1), 2, none⟩ (.int .i64 q2)).setCell ⟨(w.heap.size + 1), 3, none⟩ (.int .i64 q3)).setCell ⟨(w.heap.size + 1), 4, none⟩ (.int .i64 q4)).heap[k]? = v7.heap[k]?) := fun k hk => (set5_block' v8 _ _ _ _ _ _ k hk).trans (unhide Yd k)
    have Z8 : Hid (v7.heap.size ≤ (((((v8.setCell ⟨(w.heap.size + 1), 0, none⟩ (.int .i64 q0)).setCell ⟨(w.heap.size + 1), 1, none⟩ (.int .i64 q1)).setCell ⟨(w.heap.size + 1), 2, none⟩ (.int .i64 q2)).setCell ⟨(w.heap.size + 1), 3, none⟩ (.int .i64 q3)).setCell ⟨(w.heap.size + 1), 4, none⟩ (.int .i64 q4)).heap.size) := by show _ ≤ _; have := unhide Zd; simpa using this
    go_simp
    clear f5 f6
    refine hK.out _ _ ?_ (fun hHeld3 => ?_)
    ·exact (unhide A8).S
    clear hK K
    try simp only [Act.put, qqA, qqB, qqC]
    refine wpAnyH_done (by kernel_rfl) ?_ _
    generalize (((((v8.setCell ⟨(w.heap.size + 1), 0, none⟩ (.int .i64 q0)).setCell ⟨(w.heap.size + 1), 1, none⟩ (.int .i64 q1)).setCell ⟨(w.heap.size + 1), 2, none⟩ (.int .i64 q2)).setCell ⟨(w.heap.size + 1), 3, none⟩ (.int .i64 q3)).setCell ⟨(w.heap.size + 1), 4, none⟩ (.int .i64 q4)) = w9 at HB8 F8 RS8 Y8 Z8 ⊢
    have f7 := (unhide RS8).S
    go_wp2_with fail
    refine bodyPost_ret (v := .tuple #[.pointer (some ⟨sb, 0, none⟩), .agg #[.int .i64 q0, .int .i64 q1, .int .i64 q2, .int .i64 q3, .int .i64 q4]]) (by simp [results, Tryd.results42, go_sem, f7]) rfl ⟨_, _, _, _, _, _, rfl, ?_, unhide HB8⟩
    refine .inl ⟨by simp [Tr.panes, hm], sb, rfl, splitAt_left (unhide HND) (unhide F8) ((unhide TR7).keep (unhide Z8) (fun k hk => unhide Y8 k (unhide HNR k hk))) hmt ((unhide HSP).keep (unhide Z8) (fun k hk => unhide Y8 k (unhide HNL k hk))), ?_, ?_⟩
    ·rw [unhide HE1 n false hm]; exact unhide HQ3
    ·rw [unhide HE1 n true hm]; exact unhide HQ4
   ·rcases unhide FD7 with ⟨h, -⟩ | ⟨-, hP⟩
    ·exact absurd h hm
    subst hP
    clear FD7
    have RS7 := hide ((unhide RS4).below (unhide B7))
    have F7 := hide ((unhide F4).below (unhide B7))
    have TL7 := hide ((unhide TL4).below (unhide B7))
    have TR7 := hide ((unhide TR4).below (unhide B7))
    have QR7 := hide ((unhide QR).below (unhide B7))
    have HB7 := hide ((unhide HB4).trans ((unhide B7).mono (unhide HB4).size))
    have k7 : v7.cell? ⟨b, 4, none⟩ = some (.pointer (some ⟨br, 0, none⟩)) ∧ (∀ o, v7.cell? ⟨L + 1, o, none⟩ = (#[.int .i64 pn, .int .i64 xr, .int .i64 yr, .int .i64 Wr, .int .i64 Hr] : Array Value)[o]?) := ⟨(unhide F7).S 4, (unhide QR7).S⟩
    go_wp2_with fail
    refine wp_region_held_drew (S := fun w' => w'.cell? ⟨b, 4, none⟩ = some (.pointer (some ⟨br, 0, none⟩)) ∧ (∀ o, w'.cell? ⟨L + 1, o, none⟩ = (#[.int .i64 pn, .int .i64 xr, .int .i64 yr, .int .i64 Wr, .int .i64 Hr] : Array Value)[o]?)) (by kernel_rfl) k7 (fun hHeld => ?_)
    refine wtv 0 (oi := oFdI11) ?_
    refine wtv 1 (oi := oFdI12) ?_
    refine wtv 2 (oi := oFdI13) ?_
    refine wtv 3 (oi := oFdI14) ?_
    refine wtv 4 (oi := oFdI15) ?_
    refine wtv 5 (oi := oFdI16) ?_
    refine wpAnyH_ready (rs := [6]) (by kernel_rfl) (by simp) ?_
    refine AllReadyH.cons (o := oFdI17) rfl (fun K hK => ?_) AllReadyH.nil
    go_simp
    refine (unhide HJ _ (unhide TR7).drew).mono ?_
    rintro e v8 ⟨P2, u0, u1, u2, u3, u4, rfl, hfd, hb⟩
    have RS8 := hide ((unhide RS7).drew.below hb)
    have F8 := hide ((unhide F7).drew.below hb)
    have TL8 := hide ((unhide TL7).drew.below hb)
    have QR8 := hide ((unhide QR7).drew.below hb)
    have HB8 := hide ((unhide HB7).trans ((below_undrew hb).mono (unhide HB7).size))
    have FD8 := hide hfd
    have k8 : v8.cell? ⟨b, 4, none⟩ = some (.pointer (some ⟨br, 0, none⟩)) ∧ (∀ o, v8.cell? ⟨L + 1, o, none⟩ = (#[.int .i64 pn, .int .i64 xr, .int .i64 yr, .int .i64 Wr, .int .i64 Hr] : Array Value)[o]?) := ⟨(unhide F8).S 4, (unhide QR8).S⟩
    clear hb hfd
    go_wp2_with fail
    refine hK.out _ _ ?_ (fun hHeld6 => ?_)
    ·exact k8
    clear hK K
    try simp only [Act.put, qqA, qqB, qqC]
    refine wtv 7 (oi := oFdI18) ?_
    refine wtv 8 (oi := oFdI19) ?_
    refine wtv 9 (oi := oFdI20) ?_
    refine wpAnyH_ready (rs := [10]) (by kernel_rfl) (by simp) ?_
    refine AllReadyH.cons (o := oFdI21) rfl (fun K hK => ?_) AllReadyH.nil
    have f5 := (unhide RS8).S
    have f6 := (unhide RS8).F
    have HB9 := hide (((((((unhide HB8).setCell (p := ⟨w.heap.size + 1, 0, none⟩) (Nat.le_succ _) (.int .i64 u0)).setCell (p := ⟨w.heap.size + 1, 1, none⟩) (Nat.le_succ _) (.int .i64 u1)).setCell (p := ⟨w.heap.size + 1, 2, none⟩) (Nat.le_succ _) (.int .i64 u2)).setCell (p := ⟨w.heap.size + 1, 3, none⟩) (Nat.le_succ _) (.int .i64 u3)).setCell (p := ⟨w.heap.size + 1, 4, none⟩) (Nat.le_succ _) (.int .i64 u4)))
    have F9 := hide (((((((unhide F8).far ⟨w.heap.size + 1, 0, none⟩ (.int .i64 u0) (unhide HNB)).far ⟨w.heap.size + 1, 1, none⟩ (.int .i64 u1) (unhide HNB)).far ⟨w.heap.size + 1, 2, none⟩ (.int .i64 u2) (unhide HNB)).far ⟨w.heap.size + 1, 3, none⟩ (.int .i64 u3) (unhide HNB)).far ⟨w.heap.size + 1, 4, none⟩ (.int .i64 u4) (unhide HNB)))
    have QR9 := hide (((((((unhide QR8).far ⟨w.heap.size + 1, 0, none⟩ (.int .i64 u0) (unhide HNQ)).far ⟨w.heap.size + 1, 1, none⟩ (.int .i64 u1) (unhide HNQ)).far ⟨w.heap.size + 1, 2, none⟩ (.int .i64 u2) (unhide HNQ)).far ⟨w.heap.size + 1, 3, none⟩ (.int .i64 u3) (unhide HNQ)).far ⟨w.heap.size + 1, 4, none⟩ (.int .i64 u4) (unhide HNQ)))
    have RS9 := hide (put5' (unhide RS8) (.int .i64 u0) (.int .i64 u1) (.int .i64 u2) (.int .i64 u3) (.int .i64 u4))
    have Y9 : Hid (∀ k, ¬ k = w.heap.size + 1 → (((((v8.setCell ⟨(w.heap.size + 1), 0, none⟩ (.int .i64 u0)).setCell ⟨(w.heap.size + 1), 1, none⟩ (.int .i64 u1)).setCell ⟨(w.heap.size + 1), 2, none⟩ (.int .i64 u2)).setCell ⟨(w.heap.size + 1), 3, none⟩ (.int .i64 u3)).setCell ⟨(w.heap.size + 1), 4, none⟩ (.int .i64 u4)).heap[k]? = v8.heap[k]?) := set5_block' v8 _ _ _ _ _ _
    have Z9 : Hid (v8.heap.size ≤ (((((v8.setCell ⟨(w.heap.size + 1), 0, none⟩ (.int .i64 u0)).setCell ⟨(w.heap.size + 1), 1, none⟩ (.int .i64 u1)).setCell ⟨(w.heap.size + 1), 2, none⟩ (.int .i64 u2)).setCell ⟨(w.heap.size + 1), 3, none⟩ (.int .i64 u3)).setCell ⟨(w.heap.size + 1), 4, none⟩ (.int .i64 u4)).heap.size) := by show _ ≤ _; simp
    have k9 : (((((v8.setCell ⟨(w.heap.size + 1), 0, none⟩ (.int .i64 u0)).setCell ⟨(w.heap.size + 1), 1, none⟩ (.int .i64 u1)).setCell ⟨(w.heap.size + 1), 2, none⟩ (.int .i64 u2)).setCell ⟨(w.heap.size + 1), 3, none⟩ (.int .i64 u3)).setCell ⟨(w.heap.size + 1), 4, none⟩ (.int .i64 u4)).cell? ⟨b, 4, none⟩ = some (.pointer (some ⟨br, 0, none⟩)) ∧ (∀ o, (((((v8.setCell ⟨(w.heap.size + 1), 0, none⟩ (.int .i64 u0)).setCell ⟨(w.heap.size + 1), 1, none⟩ (.int .i64 u1)).setCell ⟨(w.heap.size + 1), 2, none⟩ (.int .i64 u2)).setCell ⟨(w.heap.size + 1), 3, none⟩ (.int .i64 u3)).setCell ⟨(w.heap.size + 1), 4, none⟩ (.int .i64 u4)).cell? ⟨L + 1, o, none⟩ = (#[.int .i64 pn, .int .i64 xr, .int .i64 yr, .int .i64 Wr, .int .i64 Hr] : Array Value)[o]?) := ⟨(unhide F9).S 4, (unhide QR9).S⟩
    go_simp
    clear f5 f6
    refine hK.out _ _ ?_ (fun hHeld10 => ?_)
    ·exact k9
    clear hK K
    try simp only [Act.put, qqA, qqB, qqC]
    refine wpAnyH_done (by kernel_rfl) ?_ _
    generalize (((((v8.setCell ⟨(w.heap.size + 1), 0, none⟩ (.int .i64 u0)).setCell ⟨(w.heap.size + 1), 1, none⟩ (.int .i64 u1)).setCell ⟨(w.heap.size + 1), 2, none⟩ (.int .i64 u2)).setCell ⟨(w.heap.size + 1), 3, none⟩ (.int .i64 u3)).setCell ⟨(w.heap.size + 1), 4, none⟩ (.int .i64 u4)) = w9 at HB9 F9 RS9 Y9 Z9 ⊢
    have f7 := (unhide RS9).S
    go_wp2_with fail
    refine bodyPost_ret (v := .tuple #[.pointer P2, .agg #[.int .i64 u0, .int .i64 u1, .int .i64 u2, .int .i64 u3, .int .i64 u4]]) (by simp [results, Tryd.results42, go_sem, f7]) rfl ⟨_, _, _, _, _, _, rfl, ?_, unhide HB9⟩
    rcases (unhide FD8).keep (unhide Z9) (fun k hk => unhide Y9 k (unhide HNR k hk)) with ⟨h1, sb, h2, h3, h4, h5⟩ | ⟨h1, h2⟩
    ·refine .inl ⟨by simp [Tr.panes, h1], sb, h2, splitAt_right (unhide HND) (unhide F9) ((unhide TL8).keep (unhide Z9) (fun k hk => unhide Y9 k (unhide HNL k hk))) hm h3, ?_, ?_⟩
     ·rw [unhide HE2 n false hm]; exact h4
     ·rw [unhide HE2 n true hm]; exact h5
    ·exact .inr ⟨by simp [Tr.panes, hm, h1], h2⟩
end Go.Proofs.YtgnecacoehedkaaDoor
