/- spec.NewCluster. -/
import Derived.Test.YthbkcijkokaoeaaNclI
import Derived.Test.YthbkcijkokaoeaaNnS
import Derived.Test.YthbkcijkokaoeaaNnT
import Derived.Test.YthbkcijkokaoeaaCluL
import Derived.Deep.AppendLies
import Derived.Deep.Cut
namespace Go.Proofs.Ythbkcijkokaoeaa
open Go.ChangeShapes Go.WideShapes Go.ChangeAt Go.RowKit
set_option linter.unusedVariables false
theorem FOwn.swap {w : World} {lo : Nat} {r s : RD} {F : List RD} (h : FOwn w lo (r :: s :: F)) : FOwn w lo (s :: r :: F) := by
  have hp := List.pairwise_cons.1 h.apart
  have hq := List.pairwise_cons.1 hp.2
  refine ⟨fun q hq' => h.own q (by rcases List.mem_cons.1 hq' with rfl | h1; simp; rcases List.mem_cons.1 h1 with rfl | h1; simp; simp [h1]), ?_⟩
  rw [List.pairwise_cons, List.pairwise_cons]
  refine ⟨fun q hq' j hj e => ?_, fun q hq' => hp.1 q (List.mem_cons_of_mem _ hq'), hq.2⟩
  rcases List.mem_cons.1 hq' with rfl | h1
  · exact hp.1 s (List.mem_cons_self ..) j e hj
  · exact hq.1 q h1 j hj e
theorem Held.lo_le' {w : World} {lo hi : Nat} {e : TypeId} {v : Value} {n : Nat} {xs : List Value} (h : Held w lo hi e v n xs) : hi ≤ w.heap.size := h.le
theorem clu_new {w : World} {lo n nk sk : Nat} {na sa aw ad : Option Addr} {K : List NdA} (FZ : FOwn w lo (⟨38, 13, (.slice na n nk), n, (K).flatMap cN⟩ :: ⟨53, 2, (.slice sa n sk), n, (List.replicate (n) zSt').flatMap cSt⟩ :: (K).flatMap nrows)) (HK : K.map (·.n) = newL n n) : CluR w (.slice na n nk) (.slice sa n sk) (.slice aw 0 0) (.slice ad 0 0) ⟨K, List.replicate n zSt', [], []⟩ := by
  have hKl : K.length = n := by have e := congrArg List.length HK; rw [newL_len] at e; simpa using e
  refine ⟨?_, ?_, ?_, ?_⟩
  · refine RRow.of_own (lo := lo) (t := 38) (z := 13) ?_ (FOwn.right (F := [_]) (FOwn.right (F := [_]) FZ))
    rw [hKl]; exact FZ.head
  · refine RRow.of_own (rows := norows) (lo := lo) (lo2 := lo) (t := 53) (z := 2) ?_ (by rw [norows_nil]; exact FOwn.nil _ _)
    rw [List.length_replicate]; exact FZ.swap.head
  · exact ⟨⟨_, _, rfl, .inl rfl⟩, fun p hp => by cases hp⟩
  · exact ⟨_, _, rfl, .inl rfl⟩
/-- A new cluster as the specification answers it. -/
def NcS (w' : World) (e : Ending) (nn : Nat) (c : Int) : Prop :=
  ∃ nv sv wv dv q, e = .returned (.tuple #[.agg #[nv, sv, wv, dv], .int .i64 c]) ∧ q.nds.map (·.n) = newL nn nn ∧ q.sts = List.replicate nn zSt' ∧ q.wire = [] ∧ q.done = [] ∧ CluR w' nv sv wv dv q
set_option maxHeartbeats 4000000 in
set_option maxRecDepth 100000 in
theorem snew9 (n : Nat) (h1 : 1 ≤ n) (h5 : n ≤ 5) (w : World) :
    Calls Try.prog 10 #[.int .i64 (n : Int)] w fun e w' => ∃ na nk sa sk aw ad, ∃ K : List NdA, ∃ lo, e = .returned (.agg #[.slice na n nk, .slice sa n sk, .slice aw 0 0, .slice ad 0 0]) ∧ K.map (·.n) = newL n n ∧ w.heap.size < lo ∧ FOwn w' lo (⟨38, 13, (.slice na n nk), n, (K).flatMap cN⟩ :: ⟨53, 2, (.slice sa n sk), n, (List.replicate (n) zSt').flatMap cSt⟩ :: (K).flatMap nrows) ∧ Below w.heap.size w w' := by
  have B0 := (((Go.Joins.below_alloc1 w (.cells #[.slice none 0 0, .slice none 0 0, .slice none 0 0, .slice none 0 0] 27)).alloc (by simp) (.cells #[] 58)).alloc (by simp only [World.size_alloc]; omega) (.cells #[] 9))
  have R0 := (((BF.new w #[.slice none 0 0, .slice none 0 0, .slice none 0 0, .slice none 0 0] 27).alloc (.cells #[] 58)).alloc (.cells #[] 9))
  obtain ⟨j0, hi, hz0, hz1, hz2⟩ := info_parts Try.infSt
  obtain ⟨i0, ni, nz0, nz1, nz2⟩ := info_parts Try.infNd
  obtain ⟨cb, hcb⟩ : ∃ cb, cb = w.heap.size + 1 + 1 + 1 := ⟨_, rfl⟩
  have OC := (Obj.cells #[.slice none 0 0, .slice none 0 0, .slice (some ⟨w.heap.size + 1, 0, none⟩) 0 0, .slice (some ⟨w.heap.size + 1 + 1, 0, none⟩) 0 0] 27)
  have v0 := Go.Joins.below_alloc1 (((w.alloc (.cells #[.slice none 0 0, .slice none 0 0, .slice none 0 0, .slice none 0 0] 27)).alloc (.cells #[] 58)).alloc (.cells #[] 9)) (Obj.cells #[.slice none 0 0, .slice none 0 0, .slice (some ⟨w.heap.size + 1, 0, none⟩) 0 0, .slice (some ⟨w.heap.size + 1 + 1, 0, none⟩) 0 0] 27)
  have B2 := hide (B0.trans (v0.mono B0.size))
  have R2 := hide (R0.below v0)
  have C2 := hide (BF.new (((w.alloc (.cells #[.slice none 0 0, .slice none 0 0, .slice none 0 0, .slice none 0 0] 27)).alloc (.cells #[] 58)).alloc (.cells #[] 9)) #[.slice none 0 0, .slice none 0 0, .slice (some ⟨w.heap.size + 1, 0, none⟩) 0 0, .slice (some ⟨w.heap.size + 1 + 1, 0, none⟩) 0 0] 27)
  simp only [World.size_alloc] at C2
  have F2 : Hid (FOwn ((((w.alloc (.cells #[.slice none 0 0, .slice none 0 0, .slice none 0 0, .slice none 0 0] 27)).alloc (.cells #[] 58)).alloc (.cells #[] 9)).alloc (Obj.cells #[.slice none 0 0, .slice none 0 0, .slice (some ⟨w.heap.size + 1, 0, none⟩) 0 0, .slice (some ⟨w.heap.size + 1 + 1, 0, none⟩) 0 0] 27)) (cb + 1) (⟨38, 13, .slice none 0 0, 0, (([] : List NdA)).flatMap cN⟩ :: ⟨53, 2, .slice none 0 0, 0, (List.replicate (0) zSt').flatMap cSt⟩ :: (([] : List NdA)).flatMap nrows)) := (FOwn.one (r := ⟨38, 13, .slice none 0 0, 0, []⟩) (World.ownsRow_nil _ _ _ _)).app (G := [⟨53, 2, .slice none 0 0, 0, []⟩]) (FOwn.one (World.ownsRow_nil _ _ _ _)) (Nat.le_refl _) (fun r hr j hj => by obtain rfl := List.mem_singleton.1 hr; cases hj)
  have Z2 : Hid (cb + 1 ≤ ((((w.alloc (.cells #[.slice none 0 0, .slice none 0 0, .slice none 0 0, .slice none 0 0] 27)).alloc (.cells #[] 58)).alloc (.cells #[] 9)).alloc (Obj.cells #[.slice none 0 0, .slice none 0 0, .slice (some ⟨w.heap.size + 1, 0, none⟩) 0 0, .slice (some ⟨w.heap.size + 1 + 1, 0, none⟩) 0 0] 27)).heap.size) := by show _ ≤ _; simp only [World.size_alloc]; omega
  have L2 : Hid (w.heap.size < cb) := by show _ < _; omega
  clear B0 R0 v0 OC
  go_enter Try.func10, Try.ntmps10
  go_wp2_with fail
  rw [← hcb] at C2 ⊢
  generalize (((w.alloc (.cells #[.slice none 0 0, .slice none 0 0, .slice none 0 0, .slice none 0 0] 27)).alloc (.cells #[] 58)).alloc (.cells #[] 9)).alloc (Obj.cells #[.slice none 0 0, .slice none 0 0, .slice (some ⟨w.heap.size + 1, 0, none⟩) 0 0, .slice (some ⟨w.heap.size + 1 + 1, 0, none⟩) 0 0] 27) = w2 at B2 R2 C2 F2 Z2 ⊢
  clear hcb
  go_loopw [4] (fun i wr => ∃ (k : Nat) (nv sv : Value) (K0 : List NdA), k ≤ n ∧ i = .int .i64 k ∧ Hid (K0.map (·.n) = newL n k) ∧ Hid (BF cb #[nv, sv, .slice (some ⟨w.heap.size + 1, 0, none⟩) 0 0, .slice (some ⟨w.heap.size + 1 + 1, 0, none⟩) 0 0] wr) ∧ Hid (BF w.heap.size #[.slice none 0 0, .slice none 0 0, .slice none 0 0, .slice none 0 0] wr) ∧ Hid (FOwn wr (cb + 1) (⟨38, 13, nv, k, (K0).flatMap cN⟩ :: ⟨53, 2, sv, k, (List.replicate (k) zSt').flatMap cSt⟩ :: (K0).flatMap nrows)) ∧ Hid (cb + 1 ≤ wr.heap.size) ∧ Hid (Below w.heap.size w wr)) (fun i _ => n - (intOf i).toNat)
  case atStart => exact ⟨0, _, _, [], by omega, rfl, rfl, C2, R2, F2, Z2, B2⟩
  case round =>
    clear B2 R2 C2 F2 Z2
    obtain ⟨k, nv, sv, K0, hk, rfl, HK, HC, HR, HF, HZ, HB⟩ := hrel
    by_cases hlt : k < n
    · have hlt' : (k : Int) < (n : Int) := by omega
      have i0' : (0 : Int) ≤ (k : Int) := by omega
      go_wp2_with fail
      have Cd := hide ((unhide HC).drew)
      have Rd := hide ((unhide HR).drew)
      have Bd := hide ((unhide HB).drew)
      have Fd := hide ((unhide HF).below (Below.refl _ _).drew)
      have Zd : Hid (cb + 1 ≤ wr.drew.heap.size) := HZ
      clear HC HR HB HF HZ
      refine wp_region_held_drew (S := fun _ => True) (by kernel_rfl) trivial (fun hHeld => ?_)
      generalize hwd : wr.drew = wd at Fd Cd Rd Bd Zd hHeld ⊢
      clear hwd
      refine wpAnyH_take (i := 0) (oi := { dst := some 13, op := .fieldAddr 27 (.tmp 3) 0, type := 0, pos := "l09_cluster.go:10", after := #[], guard := none }) (v := ?_) rfl (by kernel_rfl) (by kernel_rfl) (by kernel_rfl) (fun _ _ _ h => h) (Or.inl ⟨by rfl, ?_⟩) (by assumption) ?_
      rotate_left 1
      · (intro w' hSw; (try dsimp only at hSw); go_simp; try with_reducible rfl)
      try simp only [Act.put, List.setIfInBounds_toArray, List.set_cons_zero, List.set_cons_succ]
      refine wpAnyH_take (i := 2) (oi := { dst := some 15, op := .move (.tmp 4), type := 3, pos := "l09_cluster.go:10", after := #[], guard := none }) (v := ?_) rfl (by kernel_rfl) (by kernel_rfl) (by kernel_rfl) (fun _ _ _ h => h) (Or.inl ⟨by rfl, ?_⟩) (by assumption) ?_
      rotate_left 1
      · (intro w' hSw; (try dsimp only at hSw); go_simp; try with_reducible rfl)
      try simp only [Act.put, List.setIfInBounds_toArray, List.set_cons_zero, List.set_cons_succ]
      refine wpAnyH_take (i := 3) (oi := { dst := some 16, op := .move (.tmp 0), type := 3, pos := "l09_cluster.go:10", after := #[], guard := none }) (v := ?_) rfl (by kernel_rfl) (by kernel_rfl) (by kernel_rfl) (fun _ _ _ h => h) (Or.inl ⟨by rfl, ?_⟩) (by assumption) ?_
      rotate_left 1
      · (intro w' hSw; (try dsimp only at hSw); go_simp; try with_reducible rfl)
      try simp only [Act.put, List.setIfInBounds_toArray, List.set_cons_zero, List.set_cons_succ]
      refine wpAnyH_take (i := 4) (oi := { dst := some 17, op := .build 51 #[(1, .const (.int .i64 (-1)))], type := 51, pos := "l09_cluster.go:10", after := #[], guard := none }) (v := ?_) rfl (by kernel_rfl) (by kernel_rfl) (by kernel_rfl) (fun _ _ _ h => h) (Or.inl ⟨by rfl, ?_⟩) (by assumption) ?_
      rotate_left 1
      · (intro w' hSw; (try dsimp only at hSw); go_simp; try with_reducible rfl)
      try simp only [Act.put, List.setIfInBounds_toArray, List.set_cons_zero, List.set_cons_succ]
      refine wpAnyH_ready (rs := [1, 5]) (by kernel_rfl) (by simp) ?_
      refine AllReadyH.cons (o := { dst := some 14, op := .load 22 (.tmp 13), type := 22, pos := "l09_cluster.go:10", after := #[{ on := 0, ground := .data }], guard := none }) rfl (fun K hK => ?_) (AllReadyH.cons (o := { dst := some 18, op := .call { callee := .value (.func 26), args := #[.tmp 15, .tmp 16, .tmp 17], argTypes := #[3, 3, 51] }, type := 38, pos := "l09_cluster.go:10", after := #[{ on := 2, ground := .data }, { on := 3, ground := .data }, { on := 4, ground := .data }], guard := none }) rfl (fun K hK => ?_) AllReadyH.nil)
      · have kp := (unhide Cd).S
        go_simp
        refine hK.out _ _ ?_ (fun hHl => ?_)
        · trivial
        clear hK K kp hHl
        try simp only [Act.put, List.setIfInBounds_toArray, List.set_cons_zero, List.set_cons_succ]
        refine wpAnyH_ready (rs := [5]) (by kernel_rfl) (by simp) ?_
        refine AllReadyH.cons (o := { dst := some 18, op := .call { callee := .value (.func 26), args := #[.tmp 15, .tmp 16, .tmp 17], argTypes := #[3, 3, 51] }, type := 38, pos := "l09_cluster.go:10", after := #[{ on := 2, ground := .data }, { on := 3, ground := .data }, { on := 4, ground := .data }], guard := none }) rfl (fun K hK => ?_) AllReadyH.nil
        go_simp
        refine (snew (k : Int) n h1 h5 i0' (by omega) _).mono ?_
        rintro e y1 ⟨gL, gV, gM, aN, cN', bN, rfl, hE, hV, hM, hN, hord, hb⟩
        have NR := new_rows (lo := wd.heap.size) (hi := y1.heap.size) (n := n) (i := k) hE hV hN hM (by have a1 := hN.lo_le'; have a2 := hE.le; have a3 := hV.le; have a4 := hM.le; unfold Apart; omega)
        have FA : Hid (FOwn y1 (cb + 1) (⟨38, 13, nv, k, K0.flatMap cN⟩ :: (⟨53, 2, sv, k, (List.replicate k zSt').flatMap cSt⟩ :: K0.flatMap nrows) ++ nrows (⟨newF n k, some ⟨gL, 0, none⟩, 0, some ⟨gV, 0, none⟩, 0, aN, cN', some ⟨gM, 0, none⟩, n⟩ : NdA))) := ((unhide Fd).below hb).app NR (unhide Zd) (fun q hq j hj => ((unhide Fd).lt q hq j hj).2)
        have C1 := hide ((unhide Cd).below hb)
        have R1 := hide ((unhide Rd).below hb)
        have B1 := hide ((unhide Bd).trans (hb.mono (unhide Bd).size))
        have Z1 : Hid (cb + 1 ≤ y1.heap.size) := by show _ ≤ _; have := unhide Zd; have := hb.size; omega
        clear hE hV hM hN hord hb NR Fd Cd Rd Bd Zd
        go_wp2_with fail
        refine hK.out _ _ ?_ (fun hHc => ?_)
        · trivial
        clear hK K hHc
        try simp only [Act.put, List.setIfInBounds_toArray, List.set_cons_zero, List.set_cons_succ]
        refine wpAnyH_ready (rs := [6]) (by kernel_rfl) (by simp) ?_
        refine AllReadyH.cons (o := { dst := some 19, op := .buildSlice 22 1 #[(0, .tmp 18)], type := 22, pos := "l09_cluster.go:10", after := #[{ on := 5, ground := .data }], guard := none }) rfl (fun K hK => ?_) AllReadyH.nil
        have v2 := Go.Joins.below_alloc1 y1 (.cells #[.int .i64 (k : Int), .int .i64 (n : Int), .int .i64 0, .int .i64 (-1), .int .i64 0, .bool true, .slice (some ⟨gL, 0, none⟩) 0 0, .int .i64 0, .int .i64 0, .int .i64 (5 + (k : Int)), .slice (some ⟨gV, 0, none⟩) 0 0, .slice aN n cN', .slice (some ⟨gM, 0, none⟩) n n] 38)
        have FA2 := hide ((unhide FA).below v2)
        have C2 := hide ((unhide C1).below v2)
        have R2 := hide ((unhide R1).below v2)
        have B2 := hide ((unhide B1).trans (v2.mono (unhide B1).size))
        have Z2 : Hid (cb + 1 ≤ y1.heap.size) := Z1
        have M2 := hide (BF.new y1 #[.int .i64 (k : Int), .int .i64 (n : Int), .int .i64 0, .int .i64 (-1), .int .i64 0, .bool true, .slice (some ⟨gL, 0, none⟩) 0 0, .int .i64 0, .int .i64 0, .int .i64 (5 + (k : Int)), .slice (some ⟨gV, 0, none⟩) 0 0, .slice aN n cN', .slice (some ⟨gM, 0, none⟩) n n] 38)
        have Y2 : Hid ((y1.alloc (.cells #[.int .i64 (k : Int), .int .i64 (n : Int), .int .i64 0, .int .i64 (-1), .int .i64 0, .bool true, .slice (some ⟨gL, 0, none⟩) 0 0, .int .i64 0, .int .i64 0, .int .i64 (5 + (k : Int)), .slice (some ⟨gV, 0, none⟩) 0 0, .slice aN n cN', .slice (some ⟨gM, 0, none⟩) n n] 38)).heap.size = y1.heap.size + 1) := by show _ = _; simp only [World.size_alloc]
        go_simp
        refine hK.out _ _ ?_ (fun hHb => ?_)
        · trivial
        clear hK K hHb v2 FA C1 R1 B1 Z1
        try simp only [Act.put, List.setIfInBounds_toArray, List.set_cons_zero, List.set_cons_succ]
        generalize hy2 : y1.alloc (.cells #[.int .i64 (k : Int), .int .i64 (n : Int), .int .i64 0, .int .i64 (-1), .int .i64 0, .bool true, .slice (some ⟨gL, 0, none⟩) 0 0, .int .i64 0, .int .i64 0, .int .i64 (5 + (k : Int)), .slice (some ⟨gV, 0, none⟩) 0 0, .slice aN n cN', .slice (some ⟨gM, 0, none⟩) n n] 38) = y2 at FA2 C2 R2 B2 M2 Y2 ⊢
        clear hy2
        refine wpAnyH_ready (rs := [7]) (by kernel_rfl) (by simp) ?_
        refine AllReadyH.cons (o := { dst := some 20, op := .call { callee := .builtin Go.Builtin.append, args := #[.tmp 14, .tmp 19], argTypes := #[22, 22] }, type := 22, pos := "l09_cluster.go:10", after := #[{ on := 1, ground := .data }, { on := 6, ground := .data }, { on := 5, ground := .chain }], guard := none }) rfl (fun K hK => ?_) AllReadyH.nil
        refine step_append_lies y2 rfl (.tmp 14) (.tmp 19) 22 rfl (cb + 1) 38 i0 (.agg #[.int .i64 0, .int .i64 0, .int .i64 0, .int .i64 0, .int .i64 0, .bool false, .slice none 0 0, .int .i64 0, .int .i64 0, .int .i64 0, .slice none 0 0, .slice none 0 0, .slice none 0 0]) 13 168 Try.underlying22 ni nz0 nz1 nz2 rfl (by decide) nv k (K0.flatMap cN) rfl (unhide FA2).head ⟨y1.heap.size, 0, none⟩ 1 1 #[.int .i64 (k : Int), .int .i64 (n : Int), .int .i64 0, .int .i64 (-1), .int .i64 0, .bool true, .slice (some ⟨gL, 0, none⟩) 0 0, .int .i64 0, .int .i64 0, .int .i64 (5 + (k : Int)), .slice (some ⟨gV, 0, none⟩) 0 0, .slice aN n cN', .slice (some ⟨gM, 0, none⟩) n n].toList rfl rfl (by intro j u hj; have e := (unhide M2).S j; rw [add0, e, ← hj]; simp) (by intro u hu; simp at hu; rcases hu with rfl | rfl | rfl | rfl | rfl | rfl | rfl | rfl | rfl | rfl | rfl | rfl | rfl <;> rfl) (by decide) (by unfold maxLen; omega) (by omega) (by have := unhide Y2; have := unhide Z2; omega) (y1.heap.size + 1) (unhide Y2) ?_
        intro g7 c7 w7 ho7 hg7 hat7 hlt7
        have hnvb : ∀ j, nv.ownBlock = some j → cb + 1 ≤ j := fun j hj => ((unhide FA2).lt _ (List.mem_cons_self ..) j hj).1
        have C7 := hide ((unhide C2).grown hg7 (fun h => by have := hnvb _ h; omega))
        have R7 := hide ((unhide R2).grown hg7 (fun h => by have := hnvb _ h; have := unhide L2; omega))
        have B7 := hide ((unhide B2).grown hg7 (unhide B2).size (fun j hj => by have := hnvb j hj; have := unhide L2; omega))
        have F7 : Hid (FOwn w7 (cb + 1) (⟨38, 13, (Value.slice (some ⟨g7, 0, none⟩) (k + 1) c7), k + 1, (K0 ++ [(⟨newF n k, some ⟨gL, 0, none⟩, 0, some ⟨gV, 0, none⟩, 0, aN, cN', some ⟨gM, 0, none⟩, n⟩ : NdA)]).flatMap cN⟩ :: ⟨53, 2, sv, k, (List.replicate (k) zSt').flatMap cSt⟩ :: (K0 ++ [(⟨newF n k, some ⟨gL, 0, none⟩, 0, some ⟨gV, 0, none⟩, 0, aN, cN', some ⟨gM, 0, none⟩, n⟩ : NdA)]).flatMap nrows)) := by
          show FOwn _ _ _
          rw [List.flatMap_append (f := nrows), List.flatMap_singleton]
          exact (unhide FA2).grow hg7 (by show World.ownsRow _ _ _ _ _ _ _; rw [List.flatMap_append, List.flatMap_singleton, show cN (⟨newF n k, some ⟨gL, 0, none⟩, 0, some ⟨gV, 0, none⟩, 0, aN, cN', some ⟨gM, 0, none⟩, n⟩ : NdA) = #[.int .i64 (k : Int), .int .i64 (n : Int), .int .i64 0, .int .i64 (-1), .int .i64 0, .bool true, .slice (some ⟨gL, 0, none⟩) 0 0, .int .i64 0, .int .i64 0, .int .i64 (5 + (k : Int)), .slice (some ⟨gV, 0, none⟩) 0 0, .slice aN n cN', .slice (some ⟨gM, 0, none⟩) n n].toList from by simp [cN, newF]]; exact ho7) (fun j hj => by have e : g7 = j := Option.some.inj hj; subst e; rw [unhide Y2]; exact hat7)
        have Z7 : Hid (cb + 1 ≤ w7.heap.size) := by show _ ≤ _; have h1 := hg7.size; rw [unhide Y2] at h1; have := unhide Z2; omega
        clear hnvb ho7 hg7 hat7 hlt7 FA2 C2 R2 B2 Z2 M2 Y2
        refine hK.out _ _ ?_ (fun hHa => ?_)
        · trivial
        clear hK K hHa
        try simp only [Act.put, List.setIfInBounds_toArray, List.set_cons_zero, List.set_cons_succ]
        refine wpAnyH_take (i := 8) (oi := { dst := some 21, op := .fieldAddr 27 (.tmp 3) 0, type := 0, pos := "l09_cluster.go:10", after := #[{ on := 0, ground := .phase }, { on := 1, ground := .phase }, { on := 2, ground := .phase }, { on := 3, ground := .phase }, { on := 4, ground := .phase }, { on := 5, ground := .phase }, { on := 6, ground := .phase }, { on := 7, ground := .phase }], guard := none }) (v := ?_) rfl (by kernel_rfl) (by kernel_rfl) (by kernel_rfl) (fun _ _ _ h => h) (Or.inl ⟨by rfl, ?_⟩) (by assumption) ?_
        rotate_left 1
        · (intro w' hSw; (try dsimp only at hSw); go_simp; try with_reducible rfl)
        try simp only [Act.put, List.setIfInBounds_toArray, List.set_cons_zero, List.set_cons_succ]
        refine wpAnyH_ready (rs := [9]) (by kernel_rfl) (by simp) ?_
        refine AllReadyH.cons (o := { dst := none, op := .store 22 (.tmp 21) (.tmp 20), type := 0, pos := "l09_cluster.go:10", after := #[{ on := 8, ground := .data }, { on := 7, ground := .data }, { on := 7, ground := .chain }, { on := 0, ground := .phase }, { on := 1, ground := .phase }, { on := 2, ground := .phase }, { on := 3, ground := .phase }, { on := 4, ground := .phase }, { on := 5, ground := .phase }, { on := 6, ground := .phase }, { on := 7, ground := .phase }], guard := none }) rfl (fun K hK => ?_) AllReadyH.nil
        have kc := (unhide C7).S
        have kf := (unhide C7).F
        have C8 := hide ((unhide C7).set 0 (by simp) (Value.slice (some ⟨g7, 0, none⟩) (k + 1) c7))
        have R8 := hide ((unhide R7).far ⟨cb, 0, none⟩ (Value.slice (some ⟨g7, 0, none⟩) (k + 1) c7) (by have := unhide L2; show cb ≠ w.heap.size; omega))
        have B8 := hide ((unhide B7).setCell (p := ⟨cb, 0, none⟩) (by have := unhide L2; show w.heap.size ≤ cb; omega) (Value.slice (some ⟨g7, 0, none⟩) (k + 1) c7))
        have F8 := hide ((unhide F7).setC (a := ⟨cb, 0, none⟩) (Nat.lt_succ_self _) (Value.slice (some ⟨g7, 0, none⟩) (k + 1) c7))
        have Z8 : Hid (cb + 1 ≤ (w7.setCell ⟨cb, 0, none⟩ (Value.slice (some ⟨g7, 0, none⟩) (k + 1) c7)).heap.size) := by show _ ≤ _; simpa only [World.size_setCell] using (unhide Z7)
        go_simp
        refine hK.out _ _ ?_ (fun hHs => ?_)
        · trivial
        clear hK K hHs kc kf C7 R7 B7 F7 Z7
        try simp only [Act.put, List.setIfInBounds_toArray, List.set_cons_zero, List.set_cons_succ]
        refine wpAnyH_done (by kernel_rfl) ?_ _
        have HK2 : Hid ((K0 ++ [(⟨newF n k, some ⟨gL, 0, none⟩, 0, some ⟨gV, 0, none⟩, 0, aN, cN', some ⟨gM, 0, none⟩, n⟩ : NdA)]).map (·.n) = newL n (k + 1)) := by show _ = _; rw [List.map_append, unhide HK, newL_succ]; rfl
        generalize w7.setCell ⟨cb, 0, none⟩ (Value.slice (some ⟨g7, 0, none⟩) (k + 1) c7) = w8 at C8 R8 B8 F8 Z8 ⊢
        generalize K0 ++ [(⟨newF n k, some ⟨gL, 0, none⟩, 0, some ⟨gV, 0, none⟩, 0, aN, cN', some ⟨gM, 0, none⟩, n⟩ : NdA)] = K1 at HK2 F8
        generalize (Value.slice (some ⟨g7, 0, none⟩) (k + 1) c7) = nv1 at C8 F8 ⊢
        have v9 := Go.Joins.below_alloc1 w8 (.cells #[.string ⟨#[]⟩, .int .i64 0] 53)
        have C9 := hide ((unhide C8).below v9)
        have R9 := hide ((unhide R8).below v9)
        have B9 := hide ((unhide B8).trans (v9.mono (unhide B8).size))
        have F9 := hide (((unhide F8).below v9).swap)
        have Z9 : Hid (cb + 1 ≤ w8.heap.size) := Z8
        have M9 := hide (BF.new w8 #[.string ⟨#[]⟩, .int .i64 0] 53)
        have Y9 : Hid ((w8.alloc (.cells #[.string ⟨#[]⟩, .int .i64 0] 53)).heap.size = w8.heap.size + 1) := by show _ = _; simp only [World.size_alloc]
        have k8 := (unhide C8).S
        have k9 := (unhide C9).S
        have kf9 := (unhide C9).F
        clear v9 C8 R8 B8 F8 Z8
        have fh := (unhide F9).head
        go_wp2_with (at_builtin; go_loud (refine wpList_append_lies _ rfl (.tmp 23) (.tmp 25) 23 rfl (cb + 1) 53 j0 (.agg #[.string ⟨#[]⟩, .int .i64 0]) 2 24 Try.underlying23 hi hz0 hz1 hz2 rfl (by decide) sv k ((List.replicate k zSt').flatMap cSt) rfl fh ⟨w8.heap.size, 0, none⟩ 1 1 [.string ⟨#[]⟩, .int .i64 0] (by simp [go_sem]) rfl (by intro j u hj; have e := (unhide M9).S j; rw [add0, e, ← hj]; simp) (by intro u hu; simp at hu; rcases hu with rfl | rfl <;> rfl) (by decide) (by unfold maxLen; omega) (by omega) (by have := unhide Y9; have := unhide Z9; omega) (w8.heap.size + 1) (unhide Y9) ?_; intro g9 c9 x9 ho9 hg9 hat9 hlt9; have hsvb : ∀ j, sv.ownBlock = some j → cb + 1 ≤ j := (fun j hj => ((unhide F9).lt _ (List.mem_cons_self ..) j hj).1); have C10 := hide ((unhide C9).grown hg9 (fun h => by have := hsvb _ h; omega)); have R10 := hide ((unhide R9).grown hg9 (fun h => by have := hsvb _ h; have := unhide L2; omega)); have B10 := hide ((unhide B9).grown hg9 (unhide B9).size (fun j hj => by have := hsvb j hj; have := unhide L2; omega)); have F10 := hide (((unhide F9).grow (s := ⟨53, 2, (Value.slice (some ⟨g9, 0, none⟩) (k + 1) c9), k + 1, (List.replicate (k + 1) zSt').flatMap cSt⟩) hg9 (by show World.ownsRow _ _ _ _ _ _ _; rw [List.replicate_succ', List.flatMap_append, List.flatMap_singleton]; exact ho9) (fun j hj => by have e : g9 = j := Option.some.inj hj; subst e; rw [unhide Y9]; exact hat9)).swap); have Z10 : Hid (cb + 1 ≤ x9.heap.size) := (by show _ ≤ _; have h1 := hg9.size; rw [unhide Y9] at h1; have := unhide Z9; omega); have kc := (unhide C10).S; have kf := (unhide C10).F; clear hsvb ho9 hg9 hat9 hlt9 k8 k9 kf9 C9 R9 B9 F9 Z9 M9 Y9 fh))
        have C11 := hide ((unhide C10).set 1 (by simp) (Value.slice (some ⟨g9, 0, none⟩) (k + 1) c9))
        have R11 := hide ((unhide R10).far ⟨cb, 1, none⟩ (Value.slice (some ⟨g9, 0, none⟩) (k + 1) c9) (by have := unhide L2; show cb ≠ w.heap.size; omega))
        have B11 := hide ((unhide B10).setCell (p := ⟨cb, 1, none⟩) (by have := unhide L2; show w.heap.size ≤ cb; omega) (Value.slice (some ⟨g9, 0, none⟩) (k + 1) c9))
        have F11 := hide ((unhide F10).setC (a := ⟨cb, 1, none⟩) (Nat.lt_succ_self _) (Value.slice (some ⟨g9, 0, none⟩) (k + 1) c9))
        have Z11 : Hid (cb + 1 ≤ (x9.setCell ⟨cb, 1, none⟩ (Value.slice (some ⟨g9, 0, none⟩) (k + 1) c9)).heap.size) := by show _ ≤ _; simpa only [World.size_setCell] using (unhide Z10)
        clear C10 R10 B10 F10 Z10 kc kf HK
        go_roundw
        case rel => exact ⟨k + 1, nv1, _, K1, by omega, by go_num, HK2, C11, R11, F11, Z11, B11⟩
        case measure => simp [intOf]; omega
      · go_simp
        refine (snew (k : Int) n h1 h5 i0' (by omega) _).mono ?_
        rintro e y1 ⟨gL, gV, gM, aN, cN', bN, rfl, hE, hV, hM, hN, hord, hb⟩
        have NR := new_rows (lo := wd.heap.size) (hi := y1.heap.size) (n := n) (i := k) hE hV hN hM (by have a1 := hN.lo_le'; have a2 := hE.le; have a3 := hV.le; have a4 := hM.le; unfold Apart; omega)
        have FA : Hid (FOwn y1 (cb + 1) (⟨38, 13, nv, k, K0.flatMap cN⟩ :: (⟨53, 2, sv, k, (List.replicate k zSt').flatMap cSt⟩ :: K0.flatMap nrows) ++ nrows (⟨newF n k, some ⟨gL, 0, none⟩, 0, some ⟨gV, 0, none⟩, 0, aN, cN', some ⟨gM, 0, none⟩, n⟩ : NdA))) := ((unhide Fd).below hb).app NR (unhide Zd) (fun q hq j hj => ((unhide Fd).lt q hq j hj).2)
        have C1 := hide ((unhide Cd).below hb)
        have R1 := hide ((unhide Rd).below hb)
        have B1 := hide ((unhide Bd).trans (hb.mono (unhide Bd).size))
        have Z1 : Hid (cb + 1 ≤ y1.heap.size) := by show _ ≤ _; have := unhide Zd; have := hb.size; omega
        clear hE hV hM hN hord hb NR Fd Cd Rd Bd Zd
        go_wp2_with fail
        refine hK.out _ _ ?_ (fun hHc => ?_)
        · trivial
        clear hK K hHc
        try simp only [Act.put, List.setIfInBounds_toArray, List.set_cons_zero, List.set_cons_succ]
        refine wpAnyH_ready (rs := [1, 6]) (by kernel_rfl) (by simp) ?_
        refine AllReadyH.cons (o := { dst := some 14, op := .load 22 (.tmp 13), type := 22, pos := "l09_cluster.go:10", after := #[{ on := 0, ground := .data }], guard := none }) rfl (fun K hK => ?_) (AllReadyH.cons (o := { dst := some 19, op := .buildSlice 22 1 #[(0, .tmp 18)], type := 22, pos := "l09_cluster.go:10", after := #[{ on := 5, ground := .data }], guard := none }) rfl (fun K hK => ?_) AllReadyH.nil)
        · have kp := (unhide C1).S
          go_simp
          refine hK.out _ _ ?_ (fun hHl => ?_)
          · trivial
          clear hK K kp hHl
          try simp only [Act.put, List.setIfInBounds_toArray, List.set_cons_zero, List.set_cons_succ]
          refine wpAnyH_ready (rs := [6]) (by kernel_rfl) (by simp) ?_
          refine AllReadyH.cons (o := { dst := some 19, op := .buildSlice 22 1 #[(0, .tmp 18)], type := 22, pos := "l09_cluster.go:10", after := #[{ on := 5, ground := .data }], guard := none }) rfl (fun K hK => ?_) AllReadyH.nil
          have v2 := Go.Joins.below_alloc1 y1 (.cells #[.int .i64 (k : Int), .int .i64 (n : Int), .int .i64 0, .int .i64 (-1), .int .i64 0, .bool true, .slice (some ⟨gL, 0, none⟩) 0 0, .int .i64 0, .int .i64 0, .int .i64 (5 + (k : Int)), .slice (some ⟨gV, 0, none⟩) 0 0, .slice aN n cN', .slice (some ⟨gM, 0, none⟩) n n] 38)
          have FA2 := hide ((unhide FA).below v2)
          have C2 := hide ((unhide C1).below v2)
          have R2 := hide ((unhide R1).below v2)
          have B2 := hide ((unhide B1).trans (v2.mono (unhide B1).size))
          have Z2 : Hid (cb + 1 ≤ y1.heap.size) := Z1
          have M2 := hide (BF.new y1 #[.int .i64 (k : Int), .int .i64 (n : Int), .int .i64 0, .int .i64 (-1), .int .i64 0, .bool true, .slice (some ⟨gL, 0, none⟩) 0 0, .int .i64 0, .int .i64 0, .int .i64 (5 + (k : Int)), .slice (some ⟨gV, 0, none⟩) 0 0, .slice aN n cN', .slice (some ⟨gM, 0, none⟩) n n] 38)
          have Y2 : Hid ((y1.alloc (.cells #[.int .i64 (k : Int), .int .i64 (n : Int), .int .i64 0, .int .i64 (-1), .int .i64 0, .bool true, .slice (some ⟨gL, 0, none⟩) 0 0, .int .i64 0, .int .i64 0, .int .i64 (5 + (k : Int)), .slice (some ⟨gV, 0, none⟩) 0 0, .slice aN n cN', .slice (some ⟨gM, 0, none⟩) n n] 38)).heap.size = y1.heap.size + 1) := by show _ = _; simp only [World.size_alloc]
          go_simp
          refine hK.out _ _ ?_ (fun hHb => ?_)
          · trivial
          clear hK K hHb v2 FA C1 R1 B1 Z1
          try simp only [Act.put, List.setIfInBounds_toArray, List.set_cons_zero, List.set_cons_succ]
          generalize hy2 : y1.alloc (.cells #[.int .i64 (k : Int), .int .i64 (n : Int), .int .i64 0, .int .i64 (-1), .int .i64 0, .bool true, .slice (some ⟨gL, 0, none⟩) 0 0, .int .i64 0, .int .i64 0, .int .i64 (5 + (k : Int)), .slice (some ⟨gV, 0, none⟩) 0 0, .slice aN n cN', .slice (some ⟨gM, 0, none⟩) n n] 38) = y2 at FA2 C2 R2 B2 M2 Y2 ⊢
          clear hy2
          refine wpAnyH_ready (rs := [7]) (by kernel_rfl) (by simp) ?_
          refine AllReadyH.cons (o := { dst := some 20, op := .call { callee := .builtin Go.Builtin.append, args := #[.tmp 14, .tmp 19], argTypes := #[22, 22] }, type := 22, pos := "l09_cluster.go:10", after := #[{ on := 1, ground := .data }, { on := 6, ground := .data }, { on := 5, ground := .chain }], guard := none }) rfl (fun K hK => ?_) AllReadyH.nil
          refine step_append_lies y2 rfl (.tmp 14) (.tmp 19) 22 rfl (cb + 1) 38 i0 (.agg #[.int .i64 0, .int .i64 0, .int .i64 0, .int .i64 0, .int .i64 0, .bool false, .slice none 0 0, .int .i64 0, .int .i64 0, .int .i64 0, .slice none 0 0, .slice none 0 0, .slice none 0 0]) 13 168 Try.underlying22 ni nz0 nz1 nz2 rfl (by decide) nv k (K0.flatMap cN) rfl (unhide FA2).head ⟨y1.heap.size, 0, none⟩ 1 1 #[.int .i64 (k : Int), .int .i64 (n : Int), .int .i64 0, .int .i64 (-1), .int .i64 0, .bool true, .slice (some ⟨gL, 0, none⟩) 0 0, .int .i64 0, .int .i64 0, .int .i64 (5 + (k : Int)), .slice (some ⟨gV, 0, none⟩) 0 0, .slice aN n cN', .slice (some ⟨gM, 0, none⟩) n n].toList rfl rfl (by intro j u hj; have e := (unhide M2).S j; rw [add0, e, ← hj]; simp) (by intro u hu; simp at hu; rcases hu with rfl | rfl | rfl | rfl | rfl | rfl | rfl | rfl | rfl | rfl | rfl | rfl | rfl <;> rfl) (by decide) (by unfold maxLen; omega) (by omega) (by have := unhide Y2; have := unhide Z2; omega) (y1.heap.size + 1) (unhide Y2) ?_
          intro g7 c7 w7 ho7 hg7 hat7 hlt7
          have hnvb : ∀ j, nv.ownBlock = some j → cb + 1 ≤ j := fun j hj => ((unhide FA2).lt _ (List.mem_cons_self ..) j hj).1
          have C7 := hide ((unhide C2).grown hg7 (fun h => by have := hnvb _ h; omega))
          have R7 := hide ((unhide R2).grown hg7 (fun h => by have := hnvb _ h; have := unhide L2; omega))
          have B7 := hide ((unhide B2).grown hg7 (unhide B2).size (fun j hj => by have := hnvb j hj; have := unhide L2; omega))
          have F7 : Hid (FOwn w7 (cb + 1) (⟨38, 13, (Value.slice (some ⟨g7, 0, none⟩) (k + 1) c7), k + 1, (K0 ++ [(⟨newF n k, some ⟨gL, 0, none⟩, 0, some ⟨gV, 0, none⟩, 0, aN, cN', some ⟨gM, 0, none⟩, n⟩ : NdA)]).flatMap cN⟩ :: ⟨53, 2, sv, k, (List.replicate (k) zSt').flatMap cSt⟩ :: (K0 ++ [(⟨newF n k, some ⟨gL, 0, none⟩, 0, some ⟨gV, 0, none⟩, 0, aN, cN', some ⟨gM, 0, none⟩, n⟩ : NdA)]).flatMap nrows)) := by
            show FOwn _ _ _
            rw [List.flatMap_append (f := nrows), List.flatMap_singleton]
            exact (unhide FA2).grow hg7 (by show World.ownsRow _ _ _ _ _ _ _; rw [List.flatMap_append, List.flatMap_singleton, show cN (⟨newF n k, some ⟨gL, 0, none⟩, 0, some ⟨gV, 0, none⟩, 0, aN, cN', some ⟨gM, 0, none⟩, n⟩ : NdA) = #[.int .i64 (k : Int), .int .i64 (n : Int), .int .i64 0, .int .i64 (-1), .int .i64 0, .bool true, .slice (some ⟨gL, 0, none⟩) 0 0, .int .i64 0, .int .i64 0, .int .i64 (5 + (k : Int)), .slice (some ⟨gV, 0, none⟩) 0 0, .slice aN n cN', .slice (some ⟨gM, 0, none⟩) n n].toList from by simp [cN, newF]]; exact ho7) (fun j hj => by have e : g7 = j := Option.some.inj hj; subst e; rw [unhide Y2]; exact hat7)
          have Z7 : Hid (cb + 1 ≤ w7.heap.size) := by show _ ≤ _; have h1 := hg7.size; rw [unhide Y2] at h1; have := unhide Z2; omega
          clear hnvb ho7 hg7 hat7 hlt7 FA2 C2 R2 B2 Z2 M2 Y2
          refine hK.out _ _ ?_ (fun hHa => ?_)
          · trivial
          clear hK K hHa
          try simp only [Act.put, List.setIfInBounds_toArray, List.set_cons_zero, List.set_cons_succ]
          refine wpAnyH_take (i := 8) (oi := { dst := some 21, op := .fieldAddr 27 (.tmp 3) 0, type := 0, pos := "l09_cluster.go:10", after := #[{ on := 0, ground := .phase }, { on := 1, ground := .phase }, { on := 2, ground := .phase }, { on := 3, ground := .phase }, { on := 4, ground := .phase }, { on := 5, ground := .phase }, { on := 6, ground := .phase }, { on := 7, ground := .phase }], guard := none }) (v := ?_) rfl (by kernel_rfl) (by kernel_rfl) (by kernel_rfl) (fun _ _ _ h => h) (Or.inl ⟨by rfl, ?_⟩) (by assumption) ?_
          rotate_left 1
          · (intro w' hSw; (try dsimp only at hSw); go_simp; try with_reducible rfl)
          try simp only [Act.put, List.setIfInBounds_toArray, List.set_cons_zero, List.set_cons_succ]
          refine wpAnyH_ready (rs := [9]) (by kernel_rfl) (by simp) ?_
          refine AllReadyH.cons (o := { dst := none, op := .store 22 (.tmp 21) (.tmp 20), type := 0, pos := "l09_cluster.go:10", after := #[{ on := 8, ground := .data }, { on := 7, ground := .data }, { on := 7, ground := .chain }, { on := 0, ground := .phase }, { on := 1, ground := .phase }, { on := 2, ground := .phase }, { on := 3, ground := .phase }, { on := 4, ground := .phase }, { on := 5, ground := .phase }, { on := 6, ground := .phase }, { on := 7, ground := .phase }], guard := none }) rfl (fun K hK => ?_) AllReadyH.nil
          have kc := (unhide C7).S
          have kf := (unhide C7).F
          have C8 := hide ((unhide C7).set 0 (by simp) (Value.slice (some ⟨g7, 0, none⟩) (k + 1) c7))
          have R8 := hide ((unhide R7).far ⟨cb, 0, none⟩ (Value.slice (some ⟨g7, 0, none⟩) (k + 1) c7) (by have := unhide L2; show cb ≠ w.heap.size; omega))
          have B8 := hide ((unhide B7).setCell (p := ⟨cb, 0, none⟩) (by have := unhide L2; show w.heap.size ≤ cb; omega) (Value.slice (some ⟨g7, 0, none⟩) (k + 1) c7))
          have F8 := hide ((unhide F7).setC (a := ⟨cb, 0, none⟩) (Nat.lt_succ_self _) (Value.slice (some ⟨g7, 0, none⟩) (k + 1) c7))
          have Z8 : Hid (cb + 1 ≤ (w7.setCell ⟨cb, 0, none⟩ (Value.slice (some ⟨g7, 0, none⟩) (k + 1) c7)).heap.size) := by show _ ≤ _; simpa only [World.size_setCell] using (unhide Z7)
          go_simp
          refine hK.out _ _ ?_ (fun hHs => ?_)
          · trivial
          clear hK K hHs kc kf C7 R7 B7 F7 Z7
          try simp only [Act.put, List.setIfInBounds_toArray, List.set_cons_zero, List.set_cons_succ]
          refine wpAnyH_done (by kernel_rfl) ?_ _
          have HK2 : Hid ((K0 ++ [(⟨newF n k, some ⟨gL, 0, none⟩, 0, some ⟨gV, 0, none⟩, 0, aN, cN', some ⟨gM, 0, none⟩, n⟩ : NdA)]).map (·.n) = newL n (k + 1)) := by show _ = _; rw [List.map_append, unhide HK, newL_succ]; rfl
          generalize w7.setCell ⟨cb, 0, none⟩ (Value.slice (some ⟨g7, 0, none⟩) (k + 1) c7) = w8 at C8 R8 B8 F8 Z8 ⊢
          generalize K0 ++ [(⟨newF n k, some ⟨gL, 0, none⟩, 0, some ⟨gV, 0, none⟩, 0, aN, cN', some ⟨gM, 0, none⟩, n⟩ : NdA)] = K1 at HK2 F8
          generalize (Value.slice (some ⟨g7, 0, none⟩) (k + 1) c7) = nv1 at C8 F8 ⊢
          have v9 := Go.Joins.below_alloc1 w8 (.cells #[.string ⟨#[]⟩, .int .i64 0] 53)
          have C9 := hide ((unhide C8).below v9)
          have R9 := hide ((unhide R8).below v9)
          have B9 := hide ((unhide B8).trans (v9.mono (unhide B8).size))
          have F9 := hide (((unhide F8).below v9).swap)
          have Z9 : Hid (cb + 1 ≤ w8.heap.size) := Z8
          have M9 := hide (BF.new w8 #[.string ⟨#[]⟩, .int .i64 0] 53)
          have Y9 : Hid ((w8.alloc (.cells #[.string ⟨#[]⟩, .int .i64 0] 53)).heap.size = w8.heap.size + 1) := by show _ = _; simp only [World.size_alloc]
          have k8 := (unhide C8).S
          have k9 := (unhide C9).S
          have kf9 := (unhide C9).F
          clear v9 C8 R8 B8 F8 Z8
          have fh := (unhide F9).head
          go_wp2_with (at_builtin; go_loud (refine wpList_append_lies _ rfl (.tmp 23) (.tmp 25) 23 rfl (cb + 1) 53 j0 (.agg #[.string ⟨#[]⟩, .int .i64 0]) 2 24 Try.underlying23 hi hz0 hz1 hz2 rfl (by decide) sv k ((List.replicate k zSt').flatMap cSt) rfl fh ⟨w8.heap.size, 0, none⟩ 1 1 [.string ⟨#[]⟩, .int .i64 0] (by simp [go_sem]) rfl (by intro j u hj; have e := (unhide M9).S j; rw [add0, e, ← hj]; simp) (by intro u hu; simp at hu; rcases hu with rfl | rfl <;> rfl) (by decide) (by unfold maxLen; omega) (by omega) (by have := unhide Y9; have := unhide Z9; omega) (w8.heap.size + 1) (unhide Y9) ?_; intro g9 c9 x9 ho9 hg9 hat9 hlt9; have hsvb : ∀ j, sv.ownBlock = some j → cb + 1 ≤ j := (fun j hj => ((unhide F9).lt _ (List.mem_cons_self ..) j hj).1); have C10 := hide ((unhide C9).grown hg9 (fun h => by have := hsvb _ h; omega)); have R10 := hide ((unhide R9).grown hg9 (fun h => by have := hsvb _ h; have := unhide L2; omega)); have B10 := hide ((unhide B9).grown hg9 (unhide B9).size (fun j hj => by have := hsvb j hj; have := unhide L2; omega)); have F10 := hide (((unhide F9).grow (s := ⟨53, 2, (Value.slice (some ⟨g9, 0, none⟩) (k + 1) c9), k + 1, (List.replicate (k + 1) zSt').flatMap cSt⟩) hg9 (by show World.ownsRow _ _ _ _ _ _ _; rw [List.replicate_succ', List.flatMap_append, List.flatMap_singleton]; exact ho9) (fun j hj => by have e : g9 = j := Option.some.inj hj; subst e; rw [unhide Y9]; exact hat9)).swap); have Z10 : Hid (cb + 1 ≤ x9.heap.size) := (by show _ ≤ _; have h1 := hg9.size; rw [unhide Y9] at h1; have := unhide Z9; omega); have kc := (unhide C10).S; have kf := (unhide C10).F; clear hsvb ho9 hg9 hat9 hlt9 k8 k9 kf9 C9 R9 B9 F9 Z9 M9 Y9 fh))
          have C11 := hide ((unhide C10).set 1 (by simp) (Value.slice (some ⟨g9, 0, none⟩) (k + 1) c9))
          have R11 := hide ((unhide R10).far ⟨cb, 1, none⟩ (Value.slice (some ⟨g9, 0, none⟩) (k + 1) c9) (by have := unhide L2; show cb ≠ w.heap.size; omega))
          have B11 := hide ((unhide B10).setCell (p := ⟨cb, 1, none⟩) (by have := unhide L2; show w.heap.size ≤ cb; omega) (Value.slice (some ⟨g9, 0, none⟩) (k + 1) c9))
          have F11 := hide ((unhide F10).setC (a := ⟨cb, 1, none⟩) (Nat.lt_succ_self _) (Value.slice (some ⟨g9, 0, none⟩) (k + 1) c9))
          have Z11 : Hid (cb + 1 ≤ (x9.setCell ⟨cb, 1, none⟩ (Value.slice (some ⟨g9, 0, none⟩) (k + 1) c9)).heap.size) := by show _ ≤ _; simpa only [World.size_setCell] using (unhide Z10)
          clear C10 R10 B10 F10 Z10 kc kf HK
          go_roundw
          case rel => exact ⟨k + 1, nv1, _, K1, by omega, by go_num, HK2, C11, R11, F11, Z11, B11⟩
          case measure => simp [intOf]; omega
        · have v2 := Go.Joins.below_alloc1 y1 (.cells #[.int .i64 (k : Int), .int .i64 (n : Int), .int .i64 0, .int .i64 (-1), .int .i64 0, .bool true, .slice (some ⟨gL, 0, none⟩) 0 0, .int .i64 0, .int .i64 0, .int .i64 (5 + (k : Int)), .slice (some ⟨gV, 0, none⟩) 0 0, .slice aN n cN', .slice (some ⟨gM, 0, none⟩) n n] 38)
          have FA2 := hide ((unhide FA).below v2)
          have C2 := hide ((unhide C1).below v2)
          have R2 := hide ((unhide R1).below v2)
          have B2 := hide ((unhide B1).trans (v2.mono (unhide B1).size))
          have Z2 : Hid (cb + 1 ≤ y1.heap.size) := Z1
          have M2 := hide (BF.new y1 #[.int .i64 (k : Int), .int .i64 (n : Int), .int .i64 0, .int .i64 (-1), .int .i64 0, .bool true, .slice (some ⟨gL, 0, none⟩) 0 0, .int .i64 0, .int .i64 0, .int .i64 (5 + (k : Int)), .slice (some ⟨gV, 0, none⟩) 0 0, .slice aN n cN', .slice (some ⟨gM, 0, none⟩) n n] 38)
          have Y2 : Hid ((y1.alloc (.cells #[.int .i64 (k : Int), .int .i64 (n : Int), .int .i64 0, .int .i64 (-1), .int .i64 0, .bool true, .slice (some ⟨gL, 0, none⟩) 0 0, .int .i64 0, .int .i64 0, .int .i64 (5 + (k : Int)), .slice (some ⟨gV, 0, none⟩) 0 0, .slice aN n cN', .slice (some ⟨gM, 0, none⟩) n n] 38)).heap.size = y1.heap.size + 1) := by show _ = _; simp only [World.size_alloc]
          go_simp
          refine hK.out _ _ ?_ (fun hHb => ?_)
          · trivial
          clear hK K hHb v2 FA C1 R1 B1 Z1
          try simp only [Act.put, List.setIfInBounds_toArray, List.set_cons_zero, List.set_cons_succ]
          generalize hy2 : y1.alloc (.cells #[.int .i64 (k : Int), .int .i64 (n : Int), .int .i64 0, .int .i64 (-1), .int .i64 0, .bool true, .slice (some ⟨gL, 0, none⟩) 0 0, .int .i64 0, .int .i64 0, .int .i64 (5 + (k : Int)), .slice (some ⟨gV, 0, none⟩) 0 0, .slice aN n cN', .slice (some ⟨gM, 0, none⟩) n n] 38) = y2 at FA2 C2 R2 B2 M2 Y2 ⊢
          clear hy2
          refine wpAnyH_ready (rs := [1]) (by kernel_rfl) (by simp) ?_
          refine AllReadyH.cons (o := { dst := some 14, op := .load 22 (.tmp 13), type := 22, pos := "l09_cluster.go:10", after := #[{ on := 0, ground := .data }], guard := none }) rfl (fun K hK => ?_) AllReadyH.nil
          have kp := (unhide C2).S
          go_simp
          refine hK.out _ _ ?_ (fun hHl => ?_)
          · trivial
          clear hK K kp hHl
          try simp only [Act.put, List.setIfInBounds_toArray, List.set_cons_zero, List.set_cons_succ]
          refine wpAnyH_ready (rs := [7]) (by kernel_rfl) (by simp) ?_
          refine AllReadyH.cons (o := { dst := some 20, op := .call { callee := .builtin Go.Builtin.append, args := #[.tmp 14, .tmp 19], argTypes := #[22, 22] }, type := 22, pos := "l09_cluster.go:10", after := #[{ on := 1, ground := .data }, { on := 6, ground := .data }, { on := 5, ground := .chain }], guard := none }) rfl (fun K hK => ?_) AllReadyH.nil
          refine step_append_lies y2 rfl (.tmp 14) (.tmp 19) 22 rfl (cb + 1) 38 i0 (.agg #[.int .i64 0, .int .i64 0, .int .i64 0, .int .i64 0, .int .i64 0, .bool false, .slice none 0 0, .int .i64 0, .int .i64 0, .int .i64 0, .slice none 0 0, .slice none 0 0, .slice none 0 0]) 13 168 Try.underlying22 ni nz0 nz1 nz2 rfl (by decide) nv k (K0.flatMap cN) rfl (unhide FA2).head ⟨y1.heap.size, 0, none⟩ 1 1 #[.int .i64 (k : Int), .int .i64 (n : Int), .int .i64 0, .int .i64 (-1), .int .i64 0, .bool true, .slice (some ⟨gL, 0, none⟩) 0 0, .int .i64 0, .int .i64 0, .int .i64 (5 + (k : Int)), .slice (some ⟨gV, 0, none⟩) 0 0, .slice aN n cN', .slice (some ⟨gM, 0, none⟩) n n].toList rfl rfl (by intro j u hj; have e := (unhide M2).S j; rw [add0, e, ← hj]; simp) (by intro u hu; simp at hu; rcases hu with rfl | rfl | rfl | rfl | rfl | rfl | rfl | rfl | rfl | rfl | rfl | rfl | rfl <;> rfl) (by decide) (by unfold maxLen; omega) (by omega) (by have := unhide Y2; have := unhide Z2; omega) (y1.heap.size + 1) (unhide Y2) ?_
          intro g7 c7 w7 ho7 hg7 hat7 hlt7
          have hnvb : ∀ j, nv.ownBlock = some j → cb + 1 ≤ j := fun j hj => ((unhide FA2).lt _ (List.mem_cons_self ..) j hj).1
          have C7 := hide ((unhide C2).grown hg7 (fun h => by have := hnvb _ h; omega))
          have R7 := hide ((unhide R2).grown hg7 (fun h => by have := hnvb _ h; have := unhide L2; omega))
          have B7 := hide ((unhide B2).grown hg7 (unhide B2).size (fun j hj => by have := hnvb j hj; have := unhide L2; omega))
          have F7 : Hid (FOwn w7 (cb + 1) (⟨38, 13, (Value.slice (some ⟨g7, 0, none⟩) (k + 1) c7), k + 1, (K0 ++ [(⟨newF n k, some ⟨gL, 0, none⟩, 0, some ⟨gV, 0, none⟩, 0, aN, cN', some ⟨gM, 0, none⟩, n⟩ : NdA)]).flatMap cN⟩ :: ⟨53, 2, sv, k, (List.replicate (k) zSt').flatMap cSt⟩ :: (K0 ++ [(⟨newF n k, some ⟨gL, 0, none⟩, 0, some ⟨gV, 0, none⟩, 0, aN, cN', some ⟨gM, 0, none⟩, n⟩ : NdA)]).flatMap nrows)) := by
            show FOwn _ _ _
            rw [List.flatMap_append (f := nrows), List.flatMap_singleton]
            exact (unhide FA2).grow hg7 (by show World.ownsRow _ _ _ _ _ _ _; rw [List.flatMap_append, List.flatMap_singleton, show cN (⟨newF n k, some ⟨gL, 0, none⟩, 0, some ⟨gV, 0, none⟩, 0, aN, cN', some ⟨gM, 0, none⟩, n⟩ : NdA) = #[.int .i64 (k : Int), .int .i64 (n : Int), .int .i64 0, .int .i64 (-1), .int .i64 0, .bool true, .slice (some ⟨gL, 0, none⟩) 0 0, .int .i64 0, .int .i64 0, .int .i64 (5 + (k : Int)), .slice (some ⟨gV, 0, none⟩) 0 0, .slice aN n cN', .slice (some ⟨gM, 0, none⟩) n n].toList from by simp [cN, newF]]; exact ho7) (fun j hj => by have e : g7 = j := Option.some.inj hj; subst e; rw [unhide Y2]; exact hat7)
          have Z7 : Hid (cb + 1 ≤ w7.heap.size) := by show _ ≤ _; have h1 := hg7.size; rw [unhide Y2] at h1; have := unhide Z2; omega
          clear hnvb ho7 hg7 hat7 hlt7 FA2 C2 R2 B2 Z2 M2 Y2
          refine hK.out _ _ ?_ (fun hHa => ?_)
          · trivial
          clear hK K hHa
          try simp only [Act.put, List.setIfInBounds_toArray, List.set_cons_zero, List.set_cons_succ]
          refine wpAnyH_take (i := 8) (oi := { dst := some 21, op := .fieldAddr 27 (.tmp 3) 0, type := 0, pos := "l09_cluster.go:10", after := #[{ on := 0, ground := .phase }, { on := 1, ground := .phase }, { on := 2, ground := .phase }, { on := 3, ground := .phase }, { on := 4, ground := .phase }, { on := 5, ground := .phase }, { on := 6, ground := .phase }, { on := 7, ground := .phase }], guard := none }) (v := ?_) rfl (by kernel_rfl) (by kernel_rfl) (by kernel_rfl) (fun _ _ _ h => h) (Or.inl ⟨by rfl, ?_⟩) (by assumption) ?_
          rotate_left 1
          · (intro w' hSw; (try dsimp only at hSw); go_simp; try with_reducible rfl)
          try simp only [Act.put, List.setIfInBounds_toArray, List.set_cons_zero, List.set_cons_succ]
          refine wpAnyH_ready (rs := [9]) (by kernel_rfl) (by simp) ?_
          refine AllReadyH.cons (o := { dst := none, op := .store 22 (.tmp 21) (.tmp 20), type := 0, pos := "l09_cluster.go:10", after := #[{ on := 8, ground := .data }, { on := 7, ground := .data }, { on := 7, ground := .chain }, { on := 0, ground := .phase }, { on := 1, ground := .phase }, { on := 2, ground := .phase }, { on := 3, ground := .phase }, { on := 4, ground := .phase }, { on := 5, ground := .phase }, { on := 6, ground := .phase }, { on := 7, ground := .phase }], guard := none }) rfl (fun K hK => ?_) AllReadyH.nil
          have kc := (unhide C7).S
          have kf := (unhide C7).F
          have C8 := hide ((unhide C7).set 0 (by simp) (Value.slice (some ⟨g7, 0, none⟩) (k + 1) c7))
          have R8 := hide ((unhide R7).far ⟨cb, 0, none⟩ (Value.slice (some ⟨g7, 0, none⟩) (k + 1) c7) (by have := unhide L2; show cb ≠ w.heap.size; omega))
          have B8 := hide ((unhide B7).setCell (p := ⟨cb, 0, none⟩) (by have := unhide L2; show w.heap.size ≤ cb; omega) (Value.slice (some ⟨g7, 0, none⟩) (k + 1) c7))
          have F8 := hide ((unhide F7).setC (a := ⟨cb, 0, none⟩) (Nat.lt_succ_self _) (Value.slice (some ⟨g7, 0, none⟩) (k + 1) c7))
          have Z8 : Hid (cb + 1 ≤ (w7.setCell ⟨cb, 0, none⟩ (Value.slice (some ⟨g7, 0, none⟩) (k + 1) c7)).heap.size) := by show _ ≤ _; simpa only [World.size_setCell] using (unhide Z7)
          go_simp
          refine hK.out _ _ ?_ (fun hHs => ?_)
          · trivial
          clear hK K hHs kc kf C7 R7 B7 F7 Z7
          try simp only [Act.put, List.setIfInBounds_toArray, List.set_cons_zero, List.set_cons_succ]
          refine wpAnyH_done (by kernel_rfl) ?_ _
          have HK2 : Hid ((K0 ++ [(⟨newF n k, some ⟨gL, 0, none⟩, 0, some ⟨gV, 0, none⟩, 0, aN, cN', some ⟨gM, 0, none⟩, n⟩ : NdA)]).map (·.n) = newL n (k + 1)) := by show _ = _; rw [List.map_append, unhide HK, newL_succ]; rfl
          generalize w7.setCell ⟨cb, 0, none⟩ (Value.slice (some ⟨g7, 0, none⟩) (k + 1) c7) = w8 at C8 R8 B8 F8 Z8 ⊢
          generalize K0 ++ [(⟨newF n k, some ⟨gL, 0, none⟩, 0, some ⟨gV, 0, none⟩, 0, aN, cN', some ⟨gM, 0, none⟩, n⟩ : NdA)] = K1 at HK2 F8
          generalize (Value.slice (some ⟨g7, 0, none⟩) (k + 1) c7) = nv1 at C8 F8 ⊢
          have v9 := Go.Joins.below_alloc1 w8 (.cells #[.string ⟨#[]⟩, .int .i64 0] 53)
          have C9 := hide ((unhide C8).below v9)
          have R9 := hide ((unhide R8).below v9)
          have B9 := hide ((unhide B8).trans (v9.mono (unhide B8).size))
          have F9 := hide (((unhide F8).below v9).swap)
          have Z9 : Hid (cb + 1 ≤ w8.heap.size) := Z8
          have M9 := hide (BF.new w8 #[.string ⟨#[]⟩, .int .i64 0] 53)
          have Y9 : Hid ((w8.alloc (.cells #[.string ⟨#[]⟩, .int .i64 0] 53)).heap.size = w8.heap.size + 1) := by show _ = _; simp only [World.size_alloc]
          have k8 := (unhide C8).S
          have k9 := (unhide C9).S
          have kf9 := (unhide C9).F
          clear v9 C8 R8 B8 F8 Z8
          have fh := (unhide F9).head
          go_wp2_with (at_builtin; go_loud (refine wpList_append_lies _ rfl (.tmp 23) (.tmp 25) 23 rfl (cb + 1) 53 j0 (.agg #[.string ⟨#[]⟩, .int .i64 0]) 2 24 Try.underlying23 hi hz0 hz1 hz2 rfl (by decide) sv k ((List.replicate k zSt').flatMap cSt) rfl fh ⟨w8.heap.size, 0, none⟩ 1 1 [.string ⟨#[]⟩, .int .i64 0] (by simp [go_sem]) rfl (by intro j u hj; have e := (unhide M9).S j; rw [add0, e, ← hj]; simp) (by intro u hu; simp at hu; rcases hu with rfl | rfl <;> rfl) (by decide) (by unfold maxLen; omega) (by omega) (by have := unhide Y9; have := unhide Z9; omega) (w8.heap.size + 1) (unhide Y9) ?_; intro g9 c9 x9 ho9 hg9 hat9 hlt9; have hsvb : ∀ j, sv.ownBlock = some j → cb + 1 ≤ j := (fun j hj => ((unhide F9).lt _ (List.mem_cons_self ..) j hj).1); have C10 := hide ((unhide C9).grown hg9 (fun h => by have := hsvb _ h; omega)); have R10 := hide ((unhide R9).grown hg9 (fun h => by have := hsvb _ h; have := unhide L2; omega)); have B10 := hide ((unhide B9).grown hg9 (unhide B9).size (fun j hj => by have := hsvb j hj; have := unhide L2; omega)); have F10 := hide (((unhide F9).grow (s := ⟨53, 2, (Value.slice (some ⟨g9, 0, none⟩) (k + 1) c9), k + 1, (List.replicate (k + 1) zSt').flatMap cSt⟩) hg9 (by show World.ownsRow _ _ _ _ _ _ _; rw [List.replicate_succ', List.flatMap_append, List.flatMap_singleton]; exact ho9) (fun j hj => by have e : g9 = j := Option.some.inj hj; subst e; rw [unhide Y9]; exact hat9)).swap); have Z10 : Hid (cb + 1 ≤ x9.heap.size) := (by show _ ≤ _; have h1 := hg9.size; rw [unhide Y9] at h1; have := unhide Z9; omega); have kc := (unhide C10).S; have kf := (unhide C10).F; clear hsvb ho9 hg9 hat9 hlt9 k8 k9 kf9 C9 R9 B9 F9 Z9 M9 Y9 fh))
          have C11 := hide ((unhide C10).set 1 (by simp) (Value.slice (some ⟨g9, 0, none⟩) (k + 1) c9))
          have R11 := hide ((unhide R10).far ⟨cb, 1, none⟩ (Value.slice (some ⟨g9, 0, none⟩) (k + 1) c9) (by have := unhide L2; show cb ≠ w.heap.size; omega))
          have B11 := hide ((unhide B10).setCell (p := ⟨cb, 1, none⟩) (by have := unhide L2; show w.heap.size ≤ cb; omega) (Value.slice (some ⟨g9, 0, none⟩) (k + 1) c9))
          have F11 := hide ((unhide F10).setC (a := ⟨cb, 1, none⟩) (Nat.lt_succ_self _) (Value.slice (some ⟨g9, 0, none⟩) (k + 1) c9))
          have Z11 : Hid (cb + 1 ≤ (x9.setCell ⟨cb, 1, none⟩ (Value.slice (some ⟨g9, 0, none⟩) (k + 1) c9)).heap.size) := by show _ ≤ _; simpa only [World.size_setCell] using (unhide Z10)
          clear C10 R10 B10 F10 Z10 kc kf HK
          go_roundw
          case rel => exact ⟨k + 1, nv1, _, K1, by omega, by go_num, HK2, C11, R11, F11, Z11, B11⟩
          case measure => simp [intOf]; omega
    · obtain rfl : k = n := by omega
      obtain ⟨na, nk, rfl, hna⟩ := ownZ_rowV (show wr.ownsRow (cb + 1) 38 13 nv k (K0.flatMap cN) from (unhide HF).head)
      obtain ⟨sa, sk, rfl, -⟩ := ownZ_rowV (show wr.ownsRow (cb + 1) 53 2 sv k ((List.replicate k zSt').flatMap cSt) from (unhide HF).swap.head)
      have kc := (unhide HC).S
      have kr := (unhide HR).S
      have kf := (unhide HR).F
      clear hna
      go_wp2_with fail
      have q1 : w.heap.size < cb + 1 := by have := unhide L2; omega
      have q2 : w.heap.size ≤ w.heap.size := Nat.le_refl _
      refine bodyPost_ret (v := .agg #[.slice na k nk, .slice sa k sk, .slice (some ⟨w.heap.size + 1, 0, none⟩) 0 0, .slice (some ⟨w.heap.size + 1 + 1, 0, none⟩) 0 0]) (by simp [results, Try.results10, go_sem, *]) rfl ⟨_, _, _, _, _, _, K0, cb + 1, rfl, unhide HK, q1, ?_, ?_⟩
      · exact (((((unhide HF).setC (a := ⟨w.heap.size, 0, none⟩) q1 (.slice na k nk)).setC (a := ⟨w.heap.size, 1, none⟩) q1 (.slice sa k sk)).setC (a := ⟨w.heap.size, 2, none⟩) q1 (.slice (some ⟨w.heap.size + 1, 0, none⟩) 0 0)).setC (a := ⟨w.heap.size, 3, none⟩) q1 (.slice (some ⟨w.heap.size + 1 + 1, 0, none⟩) 0 0))
      · repeat refine Below.setCell ?_ (by exact q2) _
        exact unhide HB
set_option maxHeartbeats 4000000 in
set_option maxRecDepth 100000 in
theorem snewcluster (x : Int) (n : Nat) (c : Int) (HIS : Hid (CnIs x n c)) (w : World) :
    Calls Try.prog 4 #[.int .i64 x] w fun e w' => NcS w' e n c ∧ Below w.heap.size w w' := by
  have B0 := hide (Go.Joins.below_alloc1 w (.cells #[.slice none 0 0, .slice none 0 0, .slice none 0 0, .slice none 0 0] 27))
  have R0 := hide (BF.new w #[.slice none 0 0, .slice none 0 0, .slice none 0 0, .slice none 0 0] 27)
  have r0 := (unhide R0).S
  have r1 := (unhide R0).F
  obtain ⟨b1, hb1⟩ : ∃ b, b = inB x 1 5 := ⟨_, rfl⟩
  have HB1 := hide hb1
  clear hb1
  go_enter Try.func4, Try.ntmps4
  go_wp2_with fail
  refine (snodesQ x _).mono ?_
  rintro e w1 ⟨rfl, rfl⟩
  rw [← unhide HB1]
  cases b1
  · have his := unhide HIS
    unfold CnIs at his
    rw [← unhide HB1] at his
    obtain ⟨rfl, rfl⟩ : n = 0 ∧ c = 4 := by simpa using his
    clear his
    go_wp2_with fail
    refine bodyPost_ret (v := .tuple #[.agg #[.slice none 0 0, .slice none 0 0, .slice none 0 0, .slice none 0 0], .int .i64 4]) (by simp [results, Try.results4, go_sem, *]) rfl ⟨⟨.slice none 0 0, .slice none 0 0, .slice none 0 0, .slice none 0 0, ⟨[], [], [], []⟩, rfl, rfl, rfl, rfl, rfl, ?_⟩, ?_⟩
    · exact ⟨⟨⟨_, _, rfl, .inl rfl⟩, fun p hp => by cases hp⟩, ⟨⟨_, _, rfl, .inl rfl⟩, fun p hp => by cases hp⟩, ⟨⟨_, _, rfl, .inl rfl⟩, fun p hp => by cases hp⟩, ⟨_, _, rfl, .inl rfl⟩⟩
    · repeat refine Below.setCell ?_ (by exact Nat.le_refl _) _
      exact unhide B0
  have his := unhide HIS
  unfold CnIs at his
  rw [← unhide HB1] at his
  obtain ⟨hx, rfl⟩ : x = (n : Int) ∧ c = 0 := by simpa using his
  have h15 : 1 ≤ x ∧ x ≤ 5 := of_decide_eq_true (unhide HB1).symm
  subst hx
  have h1 : 1 ≤ n := by omega
  have h5 : n ≤ 5 := by omega
  clear his h15 HIS HB1
  go_wp2_with fail
  refine (snew9 n h1 h5 _).mono ?_
  rintro e w2 ⟨na, nk, sa, sk, aw, ad, K, lo, rfl, HK, hlo, FZ, hb⟩
  have R2 := hide ((unhide R0).below hb)
  have B2 := hide ((unhide B0).trans (hb.mono (unhide B0).size))
  have FZ2 := hide FZ
  have q1 : w.heap.size < lo := by simp only [World.size_alloc] at hlo; omega
  have q2 : w.heap.size ≤ w.heap.size := Nat.le_refl _
  have kr := (unhide R2).S
  have kf := (unhide R2).F
  clear FZ hb R0 B0 r0 r1
  go_wp2_with fail
  refine bodyPost_ret (v := .tuple #[.agg #[.slice na n nk, .slice sa n sk, .slice aw 0 0, .slice ad 0 0], .int .i64 0]) (by simp [results, Try.results4, go_sem, *]) rfl ⟨⟨_, _, _, _, _, rfl, HK, rfl, rfl, rfl, clu_new (lo := lo) ?_ HK⟩, ?_⟩
  · exact (((((unhide FZ2).setC (a := ⟨w.heap.size, 0, none⟩) q1 (.slice na n nk)).setC (a := ⟨w.heap.size, 1, none⟩) q1 (.slice sa n sk)).setC (a := ⟨w.heap.size, 2, none⟩) q1 (.slice aw 0 0)).setC (a := ⟨w.heap.size, 3, none⟩) q1 (.slice ad 0 0))
  · repeat refine Below.setCell ?_ (by exact q2) _
    exact unhide B2
end Go.Proofs.Ythbkcijkokaoeaa
