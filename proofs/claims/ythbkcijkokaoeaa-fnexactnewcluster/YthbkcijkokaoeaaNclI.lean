/- impl.NewCluster. -/
import Derived.Test.YthbkcijkokaoeaaNclM
import Derived.Test.YthbkcijkokaoeaaNnJ
import Derived.Test.YthbkcijkokaoeaaWinI
import Derived.Test.YthbkcijkokaoeaaCluM
import Derived.Deep.AppendLies
namespace Go.Proofs.Ythbkcijkokaoeaa
open Go.ChangeShapes Go.WideShapes Go.ChangeAt Go.RowKit
set_option linter.unusedVariables false
def zSt' : StA := (⟨#[]⟩, 0)
theorem Try.infNd : (Try.prog.info? 38).map (fun i => (i.zero, i.size, i.bytes)) = some (some (.agg #[.int .i64 0, .int .i64 0, .int .i64 0, .int .i64 0, .int .i64 0, .bool false, .slice none 0 0, .int .i64 0, .int .i64 0, .int .i64 0, .slice none 0 0, .slice none 0 0, .slice none 0 0]), 13, 168) := by kernel_rfl
theorem Try.infSt : (Try.prog.info? 53).map (fun i => (i.zero, i.size, i.bytes)) = some (some (.agg #[.string ⟨#[]⟩, .int .i64 0]), 2, 24) := by kernel_rfl
/-- A new cluster as the program answers it. -/
def NcI (w w' : World) (e : Ending) (nn : Nat) (c : Int) : Prop :=
  ∃ nv sv m1 K, e = .returned (.tuple #[.agg #[nv, sv, .slice none 0 0, .slice none 0 0], .int .i64 c]) ∧ K.map (·.n) = newL nn nn ∧ HeldZ 2 w' w.heap.size m1 53 sv nn ((List.replicate nn zSt').flatMap cSt) ∧ FOwn w' m1 (ndF nv nn K) ∧ m1 ≤ w'.heap.size ∧ w.heap.size ≤ m1
theorem heldZ_farC {z : Nat} {w : World} {lo hi : Nat} {e : TypeId} {v : Value} {n : Nat} {xs : List Value} (h : HeldZ z w lo hi e v n xs) {g o : Nat} (ha : v.ownBlock ≠ some g) (u : Value) : HeldZ z (w.setCell ⟨g, o, none⟩ u) lo hi e v n xs :=
  ⟨own_grownC h.1 (stored_grown (g := g) (j := o)) (fun j hj e => ha (by rw [hj, e])), h.2.1, by simpa only [World.size_setCell] using h.2.2⟩
theorem add0 (b j : Nat) : (⟨b, 0, none⟩ : Addr).add j = ⟨b, j, none⟩ := by
  have h : ∀ off, (⟨b, off, none⟩ : Addr).add j = ⟨b, off + j, none⟩ := fun off => by unfold Addr.add; split <;> simp_all
  rw [h, Nat.zero_add]
theorem new_is (n k : Nat) (h1 : 1 ≤ n) (h5 : n ≤ 5) (hk : k < n) : NewIs (k : Int) (n : Int) (k : Int) (n : Int) (-1) (5 + (k : Int)) true (List.replicate n 1) (List.replicate n 0) 0 := by
  unfold NewIs
  have : (inB (n : Int) 1 5 && inB (k : Int) 0 ((n : Int) - 1)) = true := by
    rw [in_yes (by omega), in_yes (by omega)]; rfl
  rw [this]
  simp
set_option maxHeartbeats 4000000 in
set_option maxRecDepth 100000 in
theorem inewcluster (x : Int) (n : Nat) (c : Int) (HIS : Hid (CnIs x n c)) (w : World) :
    Calls Try.prog 5 #[.int .i64 x] w fun e w' => NcI w w' e n c ∧ Below w.heap.size w w' := by
  have B0 := hide (Go.Joins.below_alloc1 w (.cells #[.slice none 0 0, .slice none 0 0, .slice none 0 0, .slice none 0 0] 27))
  have R0 := hide (BF.new w #[.slice none 0 0, .slice none 0 0, .slice none 0 0, .slice none 0 0] 27)
  obtain ⟨b1, hb1⟩ : ∃ b, b = inB x 1 5 := ⟨_, rfl⟩
  have HB1 := hide hb1
  clear hb1
  have r0 := (unhide R0).S
  have r1 := (unhide R0).F
  go_enter Try.func5, Try.ntmps5
  go_wp2_with fail
  refine (iwi x 1 5 b1 HB1 _).mono ?_
  rintro e w1 ⟨rfl, rfl⟩
  cases b1
  · have his := unhide HIS
    unfold CnIs at his
    rw [← unhide HB1] at his
    obtain ⟨rfl, rfl⟩ : n = 0 ∧ c = 4 := by simpa using his
    clear his
    go_wp2_with fail
    refine bodyPost_ret (v := .tuple #[.agg #[.slice none 0 0, .slice none 0 0, .slice none 0 0, .slice none 0 0], .int .i64 4]) (by simp [results, Try.results5, go_sem, *]) rfl ⟨⟨.slice none 0 0, .slice none 0 0, w.heap.size, [], rfl, rfl, ?_, ?_, ?_, Nat.le_refl _⟩, ?_⟩
    · refine ⟨World.ownsRow_nil _ _ _ _, (fun k hk => by cases hk), ?_⟩
      simp only [World.size_alloc]; omega
    · exact FOwn.one (r := ⟨_, _, _, _, _⟩) (World.ownsRow_nil _ _ _ _)
    · simp only [World.size_alloc]; omega
    · repeat refine Below.setCell ?_ (Nat.le_refl _) _
      exact unhide B0
  have his := unhide HIS
  unfold CnIs at his
  rw [← unhide HB1] at his
  obtain ⟨hx, rfl⟩ : x = (n : Int) ∧ c = 0 := by simpa using his
  have h15 : 1 ≤ x ∧ x ≤ 5 := of_decide_eq_true (unhide HB1).symm
  subst hx
  have h1 : 1 ≤ n := by omega
  have h5 : n ≤ 5 := by omega
  clear his h15 HIS HB1
  obtain ⟨j0, hi, hz0, hz1, hz2⟩ := info_parts Try.infSt
  obtain ⟨i0, ni, nz0, nz1, nz2⟩ := info_parts Try.infNd
  go_wp2_with (at_make; refine wpList_make_full _ rfl _ _ 23 rfl w.heap.size 53 j0 (.agg #[.string ⟨#[]⟩, .int .i64 0]) 2 Try.underlying23 hi hz0 hz1 .i64 .i64 _ _ n rfl rfl rfl rfl (by rw [hz2]; omega) (by unfold maxLen; omega) (by simp) ?_; intro w1 hown hgrow)
  rw [show (Value.agg #[.string ⟨#[]⟩, .int .i64 0]).cells = #[.string ⟨#[]⟩, .int .i64 0] from rfl, made_flat (c := cSt) (k := 2) (fun p => rfl) (by decide) zSt' #[.string ⟨#[]⟩, .int .i64 0] rfl] at hown
  simp only [World.size_alloc] at hown
  obtain ⟨cb, hcb⟩ : ∃ cb, cb = w1.heap.size := ⟨_, rfl⟩
  have B1 := (unhide B0).grown hgrow (unhide B0).size (fun k hk => by cases hk)
  have R1 := (unhide R0).grown hgrow (by intro h; cases h)
  have hs1 : w.heap.size + 1 ≤ w1.heap.size := by have := hgrow.size; simp only [World.size_alloc] at this; exact this
  have v1 := Go.Joins.below_alloc1 w1 (.cells #[.slice none 0 0, .slice (some ⟨w.heap.size + 1, 0, none⟩) n n, .slice none 0 0, .slice none 0 0] 27)
  have S2 := hide ((heldZ_of hown).below v1 (Nat.le_refl _))
  have B2 := hide (B1.trans (v1.mono B1.size))
  have R2 := hide (R1.below v1)
  have C2 := hide (BF.new w1 #[.slice none 0 0, .slice (some ⟨w.heap.size + 1, 0, none⟩) n n, .slice none 0 0, .slice none 0 0] 27)
  have F2 : Hid (FOwn (w1.alloc (.cells #[.slice none 0 0, .slice (some ⟨w.heap.size + 1, 0, none⟩) n n, .slice none 0 0, .slice none 0 0] 27)) (cb + 1) (ndF (.slice none 0 0) 0 [])) := FOwn.one (r := ⟨_, _, _, _, _⟩) (World.ownsRow_nil _ _ _ _)
  have Z2 : Hid (cb + 1 ≤ (w1.alloc (.cells #[.slice none 0 0, .slice (some ⟨w.heap.size + 1, 0, none⟩) n n, .slice none 0 0, .slice none 0 0] 27)).heap.size) := by show _ ≤ _; simp only [World.size_alloc]; omega
  have L2 : Hid (w.heap.size < cb ∧ w.heap.size + 1 < cb + 1) := by show _ ∧ _; omega
  rw [← hcb] at S2 C2 ⊢
  clear hown hgrow B0 R0 r0 r1 B1 R1 hs1 v1 hcb hi hz0 hz1 hz2
  generalize w1.alloc (.cells #[.slice none 0 0, .slice (some ⟨w.heap.size + 1, 0, none⟩) n n, .slice none 0 0, .slice none 0 0] 27) = w2 at S2 B2 R2 C2 F2 Z2 ⊢
  go_loopw [16] (fun i wr => ∃ (k : Nat) (nv : Value) (K : List NdA), k ≤ n ∧ i = .int .i64 k ∧ Hid (K.map (·.n) = newL n k) ∧ Hid (BF cb #[nv, .slice (some ⟨w.heap.size + 1, 0, none⟩) n n, .slice none 0 0, .slice none 0 0] wr) ∧ Hid (BF w.heap.size #[.slice none 0 0, .slice none 0 0, .slice none 0 0, .slice none 0 0] wr) ∧ Hid (HeldZ 2 wr w.heap.size cb 53 (.slice (some ⟨w.heap.size + 1, 0, none⟩) n n) n ((List.replicate n zSt').flatMap cSt)) ∧ Hid (FOwn wr (cb + 1) (ndF nv k K)) ∧ Hid (cb + 1 ≤ wr.heap.size) ∧ Hid (Below w.heap.size w wr)) (fun i _ => n - (intOf i).toNat)
  case atStart => exact ⟨0, _, [], by omega, rfl, rfl, C2, R2, S2, F2, Z2, B2⟩
  case round =>
    clear S2 B2 R2 C2 F2 Z2
    obtain ⟨k, nv, K, hk, rfl, HK, HC, HR, HS, HF, HZ, HB⟩ := hrel
    by_cases hlt : k < n
    · have hlt' : (k : Int) < (n : Int) := by omega
      have i0' : (0 : Int) ≤ (k : Int) := by omega
      go_wp2_with fail
      refine (inewnode (k : Int) (n : Int) (k : Int) (n : Int) (-1) (5 + (k : Int)) true (List.replicate n 1) (List.replicate n 0) n n 0 (hide (new_is n k h1 h5 hlt)) (hide (by simp)) (hide (by simp)) _).mono ?_
      rintro e y1 ⟨⟨a, cap, av, cv, ax, cx, ag, cg, l0, h0, l1, h1', l2, h2, l3, h3, rfl, ⟨hE, hV, hX, hG⟩, ha⟩, hb⟩
      have NR := new_rows (i := k) hE hV hX hG ha
      have FA : FOwn y1 (cb + 1) (⟨38, 13, nv, k, K.flatMap cN⟩ :: (K.flatMap nrows ++ nrows ⟨newF n k, a, cap, av, cv, ax, cx, ag, cg⟩)) := ((unhide HF).below hb).cons_app NR (unhide HZ) (fun q hq j hj => ((unhide HF).lt q hq j hj).2)
      have hz1 := hb.size
      have v2 := Go.Joins.below_alloc2 y1 (.cells #[.int .i64 (k : Int), .int .i64 (n : Int), .int .i64 0, .int .i64 (-1), .int .i64 0, .bool true, .slice a 0 cap, .int .i64 0, .int .i64 0, .int .i64 (5 + (k : Int)), .slice av 0 cv, .slice ax n cx, .slice ag n cg] 38) (.cells #[.int .i64 (k : Int), .int .i64 (n : Int), .int .i64 0, .int .i64 (-1), .int .i64 0, .bool true, .slice a 0 cap, .int .i64 0, .int .i64 0, .int .i64 (5 + (k : Int)), .slice av 0 cv, .slice ax n cx, .slice ag n cg] 38)
      have FB := hide (FA.below v2)
      have C3 := hide (((unhide HC).below hb).below v2)
      have R3 := hide (((unhide HR).below hb).below v2)
      have S3 := hide (((unhide HS).below hb (unhide HS).le).below v2 (Nat.le_trans (unhide HS).le hz1))
      have B3 := hide (((unhide HB).trans (hb.mono (unhide HB).size)).trans (v2.mono (Nat.le_trans (unhide HB).size hz1)))
      have Z3 : Hid (cb + 1 ≤ y1.heap.size) := by show _ ≤ _; have := unhide HZ; omega
      have N3 := (BF.new y1 #[.int .i64 (k : Int), .int .i64 (n : Int), .int .i64 0, .int .i64 (-1), .int .i64 0, .bool true, .slice a 0 cap, .int .i64 0, .int .i64 0, .int .i64 (5 + (k : Int)), .slice av 0 cv, .slice ax n cx, .slice ag n cg] 38).S
      have c2 := (((unhide HC).below hb).alloc (.cells #[.int .i64 (k : Int), .int .i64 (n : Int), .int .i64 0, .int .i64 (-1), .int .i64 0, .bool true, .slice a 0 cap, .int .i64 0, .int .i64 0, .int .i64 (5 + (k : Int)), .slice av 0 cv, .slice ax n cx, .slice ag n cg] 38)).S
      have M3 := hide (BF.new (y1.alloc (.cells #[.int .i64 (k : Int), .int .i64 (n : Int), .int .i64 0, .int .i64 (-1), .int .i64 0, .bool true, .slice a 0 cap, .int .i64 0, .int .i64 0, .int .i64 (5 + (k : Int)), .slice av 0 cv, .slice ax n cx, .slice ag n cg] 38)) #[.int .i64 (k : Int), .int .i64 (n : Int), .int .i64 0, .int .i64 (-1), .int .i64 0, .bool true, .slice a 0 cap, .int .i64 0, .int .i64 0, .int .i64 (5 + (k : Int)), .slice av 0 cv, .slice ax n cx, .slice ag n cg] 38)
      simp only [World.size_alloc] at M3
      have c3 := (unhide C3).S
      have cf3 := (unhide C3).F
      have Y3 : Hid (((y1.alloc (.cells #[.int .i64 (k : Int), .int .i64 (n : Int), .int .i64 0, .int .i64 (-1), .int .i64 0, .bool true, .slice a 0 cap, .int .i64 0, .int .i64 0, .int .i64 (5 + (k : Int)), .slice av 0 cv, .slice ax n cx, .slice ag n cg] 38)).alloc (.cells #[.int .i64 (k : Int), .int .i64 (n : Int), .int .i64 0, .int .i64 (-1), .int .i64 0, .bool true, .slice a 0 cap, .int .i64 0, .int .i64 0, .int .i64 (5 + (k : Int)), .slice av 0 cv, .slice ax n cx, .slice ag n cg] 38)).heap.size = y1.heap.size + 2) := by show _ = _; simp only [World.size_alloc]
      clear hE hV hX hG ha hb NR FA hz1 v2 HF HC HR HS HB HZ
      have fh := (unhide FB).head
      go_wp2_with (at_builtin; go_loud (refine wpList_append_lies _ rfl (.tmp 26) (.tmp 28) 22 rfl (cb + 1) 38 i0 (.agg #[.int .i64 0, .int .i64 0, .int .i64 0, .int .i64 0, .int .i64 0, .bool false, .slice none 0 0, .int .i64 0, .int .i64 0, .int .i64 0, .slice none 0 0, .slice none 0 0, .slice none 0 0]) 13 168 Try.underlying22 ni nz0 nz1 nz2 rfl (by decide) nv k (K.flatMap cN) rfl fh ⟨y1.heap.size + 1, 0, none⟩ 1 1 #[.int .i64 (k : Int), .int .i64 (n : Int), .int .i64 0, .int .i64 (-1), .int .i64 0, .bool true, .slice a 0 cap, .int .i64 0, .int .i64 0, .int .i64 (5 + (k : Int)), .slice av 0 cv, .slice ax n cx, .slice ag n cg].toList (by simp [go_sem]) rfl (by intro j u hj; have e := (unhide M3).S j; rw [add0, e, ← hj]; simp) (by intro u hu; simp at hu; rcases hu with rfl | rfl | rfl | rfl | rfl | rfl | rfl | rfl | rfl | rfl | rfl | rfl | rfl <;> rfl) (by decide) (by unfold maxLen; omega) (by omega) (by have := unhide Y3; have := unhide Z3; omega) (y1.heap.size + 2) (unhide Y3) ?_; intro g7 c7 w7 ho7 hg7 hat7 hlt7; have hnvb : ∀ j, nv.ownBlock = some j → cb + 1 ≤ j ∧ j < y1.heap.size + 2 := (fun j hj => by have h := (unhide FB).lt _ (List.mem_cons_self ..) j hj; rw [unhide Y3] at h; exact h); have C7 := hide ((unhide C3).grown hg7 (fun h => by have := (hnvb _ h).1; omega)); have R7 := hide ((unhide R3).grown hg7 (fun h => by have := (hnvb _ h).1; have := unhide L2; omega)); have B7 := hide ((unhide B3).grown hg7 (unhide B3).size (fun j hj => by have := (hnvb j hj).1; have := unhide L2; omega)); have S7 : Hid (HeldZ 2 w7 w.heap.size cb 53 (.slice (some ⟨w.heap.size + 1, 0, none⟩) n n) n ((List.replicate n zSt').flatMap cSt)) := ⟨own_grownC (unhide S3).1 hg7 (fun j hj e => by have := (hnvb j e).1; have := (unhide S3).2.1 j hj; omega), (unhide S3).2.1, Nat.le_trans (unhide S3).2.2 hg7.size⟩; have F7 : Hid (FOwn w7 (cb + 1) (⟨38, 13, (.slice (some ⟨g7, 0, none⟩) (k + 1) c7), k + 1, (K ++ [(⟨newF n k, a, cap, av, cv, ax, cx, ag, cg⟩ : NdA)]).flatMap cN⟩ :: (K.flatMap nrows ++ nrows (⟨newF n k, a, cap, av, cv, ax, cx, ag, cg⟩ : NdA)))) := ((unhide FB).grow hg7 (by show World.ownsRow _ _ _ _ _ _ _; rw [List.flatMap_append, List.flatMap_singleton, show cN (⟨newF n k, a, cap, av, cv, ax, cx, ag, cg⟩ : NdA) = #[.int .i64 (k : Int), .int .i64 (n : Int), .int .i64 0, .int .i64 (-1), .int .i64 0, .bool true, .slice a 0 cap, .int .i64 0, .int .i64 0, .int .i64 (5 + (k : Int)), .slice av 0 cv, .slice ax n cx, .slice ag n cg].toList from by simp [cN, newF]]; exact ho7) (fun j hj => by have e : g7 = j := Option.some.inj hj; subst e; rw [unhide Y3]; exact hat7)); have Z7 : Hid (cb + 1 ≤ w7.heap.size) := (by show _ ≤ _; have h1 := hg7.size; rw [unhide Y3] at h1; have := unhide Z3; omega); have kc := (unhide C7).S; have kf := (unhide C7).F; clear hnvb ho7 hg7 hat7 hlt7 c2 N3 M3 c3 cf3 FB C3 R3 S3 B3 Z3 Y3 fh))
      have C8 := hide ((unhide C7).set 0 (by simp) (.slice (some ⟨g7, 0, none⟩) (k + 1) c7))
      have R8 := hide ((unhide R7).far ⟨cb, 0, none⟩ (.slice (some ⟨g7, 0, none⟩) (k + 1) c7) (by have := unhide L2; show cb ≠ w.heap.size; omega))
      have B8 := hide ((unhide B7).setCell (p := ⟨cb, 0, none⟩) (by have := unhide L2; show w.heap.size ≤ cb; omega) (.slice (some ⟨g7, 0, none⟩) (k + 1) c7))
      have S8 : Hid (HeldZ 2 (w7.setCell ⟨cb, 0, none⟩ (.slice (some ⟨g7, 0, none⟩) (k + 1) c7)) w.heap.size cb 53 (.slice (some ⟨w.heap.size + 1, 0, none⟩) n n) n ((List.replicate n zSt').flatMap cSt)) := ⟨own_grownC (unhide S7).1 (stored_grown (g := cb) (j := 0)) (fun j hj e => by have := (unhide S7).2.1 j hj; injection e with e; omega), (unhide S7).2.1, by simpa only [World.size_setCell] using (unhide S7).2.2⟩
      have F8 := hide ((unhide F7).setC (a := ⟨cb, 0, none⟩) (Nat.lt_succ_self _) (.slice (some ⟨g7, 0, none⟩) (k + 1) c7))
      have Z8 : Hid (cb + 1 ≤ (w7.setCell ⟨cb, 0, none⟩ (.slice (some ⟨g7, 0, none⟩) (k + 1) c7)).heap.size) := by show _ ≤ _; simpa only [World.size_setCell] using (unhide Z7)
      have HK2 : Hid ((K ++ [(⟨newF n k, a, cap, av, cv, ax, cx, ag, cg⟩ : NdA)]).map (·.n) = newL n (k + 1)) := by show _ = _; rw [List.map_append, unhide HK, newL_succ]; rfl
      clear C7 R7 B7 S7 F7 Z7 kc kf HK
      go_roundw
      case rel => exact ⟨k + 1, _, K ++ [(⟨newF n k, a, cap, av, cv, ax, cx, ag, cg⟩ : NdA)], by omega, by go_num, HK2, C8, R8, S8, (by show FOwn _ _ _; unfold ndF; rw [List.flatMap_append (f := nrows), List.flatMap_singleton]; exact unhide F8), Z8, B8⟩
      case measure => simp [intOf]; omega
    · obtain rfl : k = n := by omega
      obtain ⟨na, nk, rfl, -⟩ := ownZ_rowV (show wr.ownsRow (cb + 1) 38 13 nv k (K.flatMap cN) from (unhide HF).head)
      have kc := (unhide HC).S
      have kr := (unhide HR).S
      have kf := (unhide HR).F
      go_wp2_with fail
      refine bodyPost_ret (v := .tuple #[.agg #[.slice na k nk, .slice (some ⟨w.heap.size + 1, 0, none⟩) k k, .slice none 0 0, .slice none 0 0], .int .i64 0]) (by simp [results, Try.results5, go_sem, *]) rfl ⟨⟨.slice na k nk, .slice (some ⟨w.heap.size + 1, 0, none⟩) k k, cb, K, rfl, unhide HK, ?_, ?_, ?_, (by have := unhide L2; omega)⟩, ?_⟩
      · repeat refine heldZ_farC ?_ (by simp [Value.ownBlock]) _
        exact unhide HS
      · have q1 : w.heap.size < cb + 1 := by have := unhide L2; omega
        refine FOwn.low (lo := cb + 1) ?_ (by omega)
        repeat refine FOwn.setC ?_ q1 _
        exact unhide HF
      · simp only [World.size_setCell]; have := unhide HZ; omega
      · have q1 : w.heap.size ≤ w.heap.size := Nat.le_refl _
        repeat refine Below.setCell ?_ (by exact q1) _
        exact unhide HB
end Go.Proofs.Ythbkcijkokaoeaa
