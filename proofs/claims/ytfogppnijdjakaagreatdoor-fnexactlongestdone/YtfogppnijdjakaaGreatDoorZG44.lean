/- Texts put together: CluO CluX. -/
import Derived.Test.YtfogppnijdjakaaGreatDoorZCluL
import Derived.Test.YtfogppnijdjakaaGreatDoorZG43
import Derived.Deep.Slices
/- A cluster that came in by value, opened: rows of records, rows within them. -/
namespace Go.Proofs.YtfogppnijdjakaaGreatDoor
open Go.ChangeShapes Go.WideShapes Go.ChangeAt Go.RowKit Go.Deep
set_option linter.unusedVariables false
section
variable {H : Type} {enc : TypeId × Value → H} {P : Program} {w : World} {base : Nat} {spare : Nat → Bool} {held : Bool}
theorem recs_field {A : Type} {c : A → List Value} {z : Nat} (hz : ∀ p, (c p).length = z) (hz0 : 0 < z) (dA : A) {t e : TypeId} (Pr : A → Prop) {fuel : Nat} {v : Value} {y : DataW H × List MemPlace} (ht : P.underlying t = some (.slice e)) (ce : P.cellsOf e = z)
  (hel : ∀ (n : Nat) (cs : List Value) (x : DataW H × List MemPlace), cs.length = z → DataW.trod enc P w base spare held n e cs = some x → ∃ p : A, cs = c p ∧ Pr p) (h : DataW.trod enc P w base spare held fuel t [v] = some y) :
  ∃ (a : Option Addr) (cap : Nat) (L : List A), v = .slice a L.length cap ∧ L.length ≤ maxLen ∧ RowV w a (L.flatMap c) ∧ ∀ p ∈ L, Pr p := by
 rcases open_slice ht h with ⟨hcs, _⟩ | ⟨x, len, cap, m, n, D, Pl, hcs, _, hl, hm, hmm, _, hx⟩
 ·simp at hcs
  exact ⟨none, 0, [], hcs, by unfold maxLen; simp, .inl rfl, fun p hp => by cases hp⟩
 ·simp at hcs
  have hlm : len ≤ m := by rw [hmm]; split <;> omega
  have hv : ∀ i, i < len → ∃ p : A, (∀ j u, (c p)[j]? = some u → w.cell? (x.add (i * z + j)) = some u) ∧ Pr p := by
   intro i hi
   obtain ⟨cs', g0, g1⟩ := hx i (by omega)
   rw [ce] at g0
   obtain ⟨_, g2, g3⟩ := World.cells?_some g0
   obtain ⟨p, rfl, hp⟩ := hel n cs' _ g2 g1
   refine ⟨p, fun j u hu => ?_, hp⟩
   have hj : j < z := by have := (List.getElem?_eq_some_iff.1 hu).1; rw [hz] at this; exact this
   have := g3 j hj
   rw [hu, Addr.add_add] at this
   exact this
  haveI : Inhabited A := ⟨dA⟩
  obtain ⟨q, hq⟩ := choose_lt hv
  refine ⟨some x, cap, (List.range len).map q, by simpa using hcs, by simp; omega, ?_, fun p hp => ?_⟩
  ·by_cases h0 : len = 0
   ·left; subst h0; rfl
   ·right
    have hat : ∀ i u, ((List.range len).map q |>.flatMap c)[i]? = some u → w.cell? (x.add i) = some u := fun i u hu => by
     have hi : i < (((List.range len).map q).flatMap c).length := (List.getElem?_eq_some_iff.1 hu).1
     rw [flat_len hz, List.length_map, List.length_range] at hi
     have hd : i / z < len := Nat.div_lt_of_lt_mul (by rw [Nat.mul_comm]; exact hi)
     have e : i / z * z + i % z = i := by rw [Nat.mul_comm]; exact Nat.div_add_mod i z
     have h1 := flat_at hz ((List.range len).map q) (i / z) (by simpa using hd) (i % z) (Nat.mod_lt _ hz0)
     rw [e, hu, List.getElem_map, List.getElem_range] at h1
     have := (hq (i / z) hd).1 (i % z) u h1.symm
     rwa [e] at this
    obtain ⟨b, off, spot⟩ := x
    have h00 : 0 < (((List.range len).map q).flatMap c).length := by rw [flat_len hz, List.length_map, List.length_range]; exact Nat.mul_pos (by omega) hz0
    have hc0 := hat 0 _ (List.getElem?_eq_getElem h00)
    have hspot : spot = none := by simpa [Addr.add] using World.cell?_spot hc0
    subst hspot
    have hadd : ∀ j, (⟨b, off, none⟩ : Addr).add j = ⟨b, off + j, none⟩ := fun j => by unfold Addr.add; split <;> simp_all
    refine ⟨b, off, rfl, World.block_lt_of_cell? w _ hc0, fun i u hu => ?_⟩
    rw [← hadd]; exact hat i u hu
  ·obtain ⟨i, hi, rfl⟩ := List.mem_map.1 hp
   exact (hq i (List.mem_range.1 hi)).2
theorem open_el2 {t : TypeId} {f0 f1 : Field} {fuel : Nat} {cs : List Value} {x : DataW H × List MemPlace} (hs : P.underlying t = some (.struct #[f0, f1])) (hone : oneCellFields P #[f0, f1] = true) (hl : cs.length = 2) (h : DataW.trod enc P w base spare held fuel t cs = some x) :
  ∃ (c0 c1 : Value) (y0 y1 : DataW H × List MemPlace) (n : Nat), cs = [c0, c1] ∧ DataW.trod enc P w base spare held n f0.type [c0] = some y0 ∧ DataW.trod enc P w base spare held n f1.type [c1] = some y1 := by
 match cs, hl with
 | [c0, c1], _ =>
 obtain ⟨y0, y1, n, h0, h1⟩ := trod_struct2 hs h
 obtain ⟨o0, k0⟩ := hone_of hone 0 f0 rfl
 obtain ⟨o1, k1⟩ := hone_of hone 1 f1 rfl
 exact ⟨c0, c1, y0, y1, n, rfl, by simpa [o0, k0] using h0, by simpa [o1, k1] using h1⟩
theorem open_el9 {t : TypeId} {f0 f1 f2 f3 f4 f5 f6 f7 f8 : Field} {fuel : Nat} {cs : List Value} {x : DataW H × List MemPlace} (hs : P.underlying t = some (.struct #[f0, f1, f2, f3, f4, f5, f6, f7, f8])) (hone : oneCellFields P #[f0, f1, f2, f3, f4, f5, f6, f7, f8] = true) (hl : cs.length = 9) (h : DataW.trod enc P w base spare held fuel t cs = some x) :
  ∃ (c0 c1 c2 c3 c4 c5 c6 c7 c8 : Value) (y0 y1 y2 y3 y4 y5 y6 y7 y8 : DataW H × List MemPlace) (n : Nat), cs = [c0, c1, c2, c3, c4, c5, c6, c7, c8] ∧ DataW.trod enc P w base spare held n f0.type [c0] = some y0 ∧ DataW.trod enc P w base spare held n f1.type [c1] = some y1 ∧ DataW.trod enc P w base spare held n f2.type [c2] = some y2 ∧ DataW.trod enc P w base spare held n f3.type [c3] = some y3 ∧ DataW.trod enc P w base spare held n f4.type [c4] = some y4 ∧ DataW.trod enc P w base spare held n f5.type [c5] = some y5 ∧ DataW.trod enc P w base spare held n f6.type [c6] = some y6 ∧ DataW.trod enc P w base spare held n f7.type [c7] = some y7 ∧ DataW.trod enc P w base spare held n f8.type [c8] = some y8 := by
 match cs, hl with
 | [c0, c1, c2, c3, c4, c5, c6, c7, c8], _ =>
 obtain ⟨y0, y1, y2, y3, y4, y5, y6, y7, y8, n, h0, h1, h2, h3, h4, h5, h6, h7, h8⟩ := trod_struct9 hs h
 obtain ⟨o0, k0⟩ := hone_of hone 0 f0 rfl
 obtain ⟨o1, k1⟩ := hone_of hone 1 f1 rfl
 obtain ⟨o2, k2⟩ := hone_of hone 2 f2 rfl
 obtain ⟨o3, k3⟩ := hone_of hone 3 f3 rfl
 obtain ⟨o4, k4⟩ := hone_of hone 4 f4 rfl
 obtain ⟨o5, k5⟩ := hone_of hone 5 f5 rfl
 obtain ⟨o6, k6⟩ := hone_of hone 6 f6 rfl
 obtain ⟨o7, k7⟩ := hone_of hone 7 f7 rfl
 obtain ⟨o8, k8⟩ := hone_of hone 8 f8 rfl
 exact ⟨c0, c1, c2, c3, c4, c5, c6, c7, c8, y0, y1, y2, y3, y4, y5, y6, y7, y8, n, rfl, by simpa [o0, k0] using h0, by simpa [o1, k1] using h1, by simpa [o2, k2] using h2, by simpa [o3, k3] using h3, by simpa [o4, k4] using h4, by simpa [o5, k5] using h5, by simpa [o6, k6] using h6, by simpa [o7, k7] using h7, by simpa [o8, k8] using h8⟩
theorem open_el13 {t : TypeId} {f0 f1 f2 f3 f4 f5 f6 f7 f8 f9 f10 f11 f12 : Field} {fuel : Nat} {cs : List Value} {x : DataW H × List MemPlace} (hs : P.underlying t = some (.struct #[f0, f1, f2, f3, f4, f5, f6, f7, f8, f9, f10, f11, f12])) (hone : oneCellFields P #[f0, f1, f2, f3, f4, f5, f6, f7, f8, f9, f10, f11, f12] = true) (hl : cs.length = 13) (h : DataW.trod enc P w base spare held fuel t cs = some x) :
  ∃ (c0 c1 c2 c3 c4 c5 c6 c7 c8 c9 c10 c11 c12 : Value) (y0 y1 y2 y3 y4 y5 y6 y7 y8 y9 y10 y11 y12 : DataW H × List MemPlace) (n : Nat), cs = [c0, c1, c2, c3, c4, c5, c6, c7, c8, c9, c10, c11, c12] ∧ DataW.trod enc P w base spare held n f0.type [c0] = some y0 ∧ DataW.trod enc P w base spare held n f1.type [c1] = some y1 ∧ DataW.trod enc P w base spare held n f2.type [c2] = some y2 ∧ DataW.trod enc P w base spare held n f3.type [c3] = some y3 ∧ DataW.trod enc P w base spare held n f4.type [c4] = some y4 ∧ DataW.trod enc P w base spare held n f5.type [c5] = some y5 ∧ DataW.trod enc P w base spare held n f6.type [c6] = some y6 ∧ DataW.trod enc P w base spare held n f7.type [c7] = some y7 ∧ DataW.trod enc P w base spare held n f8.type [c8] = some y8 ∧ DataW.trod enc P w base spare held n f9.type [c9] = some y9 ∧ DataW.trod enc P w base spare held n f10.type [c10] = some y10 ∧ DataW.trod enc P w base spare held n f11.type [c11] = some y11 ∧ DataW.trod enc P w base spare held n f12.type [c12] = some y12 := by
 match cs, hl with
 | [c0, c1, c2, c3, c4, c5, c6, c7, c8, c9, c10, c11, c12], _ =>
 obtain ⟨y0, y1, y2, y3, y4, y5, y6, y7, y8, y9, y10, y11, y12, n, h0, h1, h2, h3, h4, h5, h6, h7, h8, h9, h10, h11, h12⟩ := trod_struct13 hs h
 obtain ⟨o0, k0⟩ := hone_of hone 0 f0 rfl
 obtain ⟨o1, k1⟩ := hone_of hone 1 f1 rfl
 obtain ⟨o2, k2⟩ := hone_of hone 2 f2 rfl
 obtain ⟨o3, k3⟩ := hone_of hone 3 f3 rfl
 obtain ⟨o4, k4⟩ := hone_of hone 4 f4 rfl
 obtain ⟨o5, k5⟩ := hone_of hone 5 f5 rfl
 obtain ⟨o6, k6⟩ := hone_of hone 6 f6 rfl
 obtain ⟨o7, k7⟩ := hone_of hone 7 f7 rfl
 obtain ⟨o8, k8⟩ := hone_of hone 8 f8 rfl
 obtain ⟨o9, k9⟩ := hone_of hone 9 f9 rfl
 obtain ⟨o10, k10⟩ := hone_of hone 10 f10 rfl
 obtain ⟨o11, k11⟩ := hone_of hone 11 f11 rfl
 obtain ⟨o12, k12⟩ := hone_of hone 12 f12 rfl
 exact ⟨c0, c1, c2, c3, c4, c5, c6, c7, c8, c9, c10, c11, c12, y0, y1, y2, y3, y4, y5, y6, y7, y8, y9, y10, y11, y12, n, rfl, by simpa [o0, k0] using h0, by simpa [o1, k1] using h1, by simpa [o2, k2] using h2, by simpa [o3, k3] using h3, by simpa [o4, k4] using h4, by simpa [o5, k5] using h5, by simpa [o6, k6] using h6, by simpa [o7, k7] using h7, by simpa [o8, k8] using h8, by simpa [o9, k9] using h9, by simpa [o10, k10] using h10, by simpa [o11, k11] using h11, by simpa [o12, k12] using h12⟩
theorem node_el {n : Nat} {cs : List Value} {x : DataW H × List MemPlace} (hl : cs.length = 13) (h : DataW.trod enc Tryz.prog w base spare held n 61 cs = some x) : ∃ p : NdA, cs = cN p ∧ (NdA.fits maxLen p ∧ ∀ r ∈ nrows p, r.read w) := by
 obtain ⟨c0, c1, c2, c3, c4, c5, c6, c7, c8, c9, c10, c11, c12, y0, y1, y2, y3, y4, y5, y6, y7, y8, y9, y10, y11, y12, m, rfl, z0, z1, z2, z3, z4, z5, z6, z7, z8, z9, z10, z11, z12⟩ := open_el13 Tryz.underlying61 (by kernel_rfl) hl h
 obtain ⟨id, e0, -, -⟩ := DataW.trod_int Tryz.underlying3 z0
 obtain rfl : c0 = .int .i64 id := by simpa using e0
 obtain ⟨nd, e1, -, -⟩ := DataW.trod_int Tryz.underlying3 z1
 obtain rfl : c1 = .int .i64 nd := by simpa using e1
 obtain ⟨tm, e2, -, -⟩ := DataW.trod_int Tryz.underlying3 z2
 obtain rfl : c2 = .int .i64 tm := by simpa using e2
 obtain ⟨vt, e3, -, -⟩ := DataW.trod_int Tryz.underlying3 z3
 obtain rfl : c3 = .int .i64 vt := by simpa using e3
 obtain ⟨ro, e4, -, -⟩ := DataW.trod_int Tryz.underlying3 z4
 obtain rfl : c4 = .int .i64 ro := by simpa using e4
 obtain ⟨up, e5, -⟩ := DataW.trod_bool Tryz.underlying4 z5
 obtain rfl : c5 = .bool up := by simpa using e5
 obtain ⟨al, nl, kl, l, rfl, rfl, ml, sl, rl⟩ := entries_field Tryz.underlying58 Tryz.underlying113 (by kernel_rfl) rfl rfl (by kernel_rfl) (by kernel_rfl) Tryz.underlying3 Tryz.underlying9 z6
 obtain ⟨cm, e7, -, -⟩ := DataW.trod_int Tryz.underlying3 z7
 obtain rfl : c7 = .int .i64 cm := by simpa using e7
 obtain ⟨el, e8, -, -⟩ := DataW.trod_int Tryz.underlying3 z8
 obtain rfl : c8 = .int .i64 el := by simpa using e8
 obtain ⟨wt, e9, -, -⟩ := DataW.trod_int Tryz.underlying3 z9
 obtain rfl : c9 = .int .i64 wt := by simpa using e9
 obtain ⟨alv, nlv, klv, lv, rfl, rfl, mlv, rlv⟩ := ints_field Tryz.underlying59 Tryz.underlying3 (by kernel_rfl) z10
 obtain ⟨alx, nlx, klx, lx, rfl, rfl, mlx, rlx⟩ := ints_field Tryz.underlying59 Tryz.underlying3 (by kernel_rfl) z11
 obtain ⟨alg, nlg, klg, lg, rfl, rfl, mlg, rlg⟩ := ints_field Tryz.underlying59 Tryz.underlying3 (by kernel_rfl) z12
 refine ⟨⟨⟨id, nd, tm, vt, ro, up, l, cm, el, wt, lv, lx, lg⟩, al, kl, alv, klv, alx, klx, alg, klg⟩, rfl, ⟨ml, mlv, mlx, mlg, sl⟩, fun r hr => ?_⟩
 unfold nrows at hr
 simp only [List.mem_cons, List.not_mem_nil, or_false] at hr
 rcases hr with rfl | rfl | rfl | rfl
 ·exact ⟨al, kl, rfl, rl⟩
 ·exact ⟨alv, klv, rfl, rlv⟩
 ·exact ⟨alx, klx, rfl, rlx⟩
 ·exact ⟨alg, klg, rfl, rlg⟩
theorem msg_el {n : Nat} {cs : List Value} {x : DataW H × List MemPlace} (hl : cs.length = 9) (h : DataW.trod enc Tryz.prog w base spare held n 67 cs = some x) : ∃ p : MgA, cs = cM p ∧ (Mg.fits maxLen p.1 ∧ RowV w p.2.1 (cE p.1.es)) := by
 obtain ⟨c0, c1, c2, c3, c4, c5, c6, c7, c8, y0, y1, y2, y3, y4, y5, y6, y7, y8, m, rfl, z0, z1, z2, z3, z4, z5, z6, z7, z8⟩ := open_el9 Tryz.underlying67 (by kernel_rfl) hl h
 obtain ⟨kd, e0, -, -⟩ := DataW.trod_int Tryz.underlying3 z0
 obtain rfl : c0 = .int .i64 kd := by simpa using e0
 obtain ⟨fr, e1, -, -⟩ := DataW.trod_int Tryz.underlying3 z1
 obtain rfl : c1 = .int .i64 fr := by simpa using e1
 obtain ⟨dst, e2, -, -⟩ := DataW.trod_int Tryz.underlying3 z2
 obtain rfl : c2 = .int .i64 dst := by simpa using e2
 obtain ⟨tm, e3, -, -⟩ := DataW.trod_int Tryz.underlying3 z3
 obtain rfl : c3 = .int .i64 tm := by simpa using e3
 obtain ⟨ix, e4, -, -⟩ := DataW.trod_int Tryz.underlying3 z4
 obtain rfl : c4 = .int .i64 ix := by simpa using e4
 obtain ⟨lt, e5, -, -⟩ := DataW.trod_int Tryz.underlying3 z5
 obtain rfl : c5 = .int .i64 lt := by simpa using e5
 obtain ⟨cm, e6, -, -⟩ := DataW.trod_int Tryz.underlying3 z6
 obtain rfl : c6 = .int .i64 cm := by simpa using e6
 obtain ⟨ok, e7, -⟩ := DataW.trod_bool Tryz.underlying4 z7
 obtain rfl : c7 = .bool ok := by simpa using e7
 obtain ⟨al, nl, kl, l, rfl, rfl, ml, sl, rl⟩ := entries_field Tryz.underlying58 Tryz.underlying113 (by kernel_rfl) rfl rfl (by kernel_rfl) (by kernel_rfl) Tryz.underlying3 Tryz.underlying9 z8
 exact ⟨(⟨kd, fr, dst, tm, ix, lt, cm, ok, l⟩, al, kl), rfl, ⟨ml, sl⟩, rl⟩
theorem store_el {n : Nat} {cs : List Value} {x : DataW H × List MemPlace} (hl : cs.length = 2) (h : DataW.trod enc Tryz.prog w base spare held n 64 cs = some x) : ∃ p : StA, cs = cSt p ∧ (p.1.size ≤ maxLen) := by
 obtain ⟨c0, c1, y0, y1, m, rfl, z0, z1⟩ := open_el2 Tryz.underlying64 (by kernel_rfl) hl h
 obtain ⟨d, e0, -, w_d⟩ := DataW.trod_string Tryz.underlying9 z0
 obtain rfl : c0 = .string d := by simpa using e0
 obtain ⟨s, e1, -, -⟩ := DataW.trod_int Tryz.underlying3 z1
 obtain rfl : c1 = .int .i64 s := by simpa using e1
 exact ⟨(d, s), rfl, w_d⟩
set_option maxRecDepth 100000 in
theorem open_clu {r : Reach} {b0 : Nat} {v : Value} {d : DataW H} {p : List MemPlace} (hv : Value.okWide Tryz.prog w r b0 27 v) (h : DataW.Trod enc Tryz.prog w base spare held 27 v d p) :
  ∃ (nv sv wv dv : Value) (c : Clu), v = .agg #[nv, sv, wv, dv] ∧ c.fits maxLen ∧ CluR w nv sv wv dv c := by
 obtain ⟨nv, sv, wv, dv, y0, y1, y2, y3, n, rfl, z0, z1, z2, z3⟩ := open_agg4 Tryz.underlying27 (by kernel_rfl) (by kernel_rfl) hv h
 obtain ⟨a0, k0, L0, rfl, m0, r0, q0⟩ := recs_field (c := cN) (z := 13) (fun p => rfl) (by decide) zNd (fun p => NdA.fits maxLen p ∧ ∀ r ∈ nrows p, r.read w) Tryz.underlying22 (by kernel_rfl) (fun n cs x hl hx => node_el hl hx) z0
 obtain ⟨a1, k1, L1, rfl, m1, r1, q1⟩ := recs_field (c := cSt) (z := 2) (fun p => rfl) (by decide) zSt (fun p => p.1.size ≤ maxLen) Tryz.underlying23 (by kernel_rfl) (fun n cs x hl hx => store_el hl hx) z1
 obtain ⟨a2, k2, L2, rfl, m2, r2, q2⟩ := recs_field (c := cM) (z := 9) (fun p => rfl) (by decide) zMg (fun p => Mg.fits maxLen p.1 ∧ RowV w p.2.1 (cE p.1.es)) Tryz.underlying24 (by kernel_rfl) (fun n cs x hl hx => msg_el hl hx) z2
 obtain ⟨a3, n3, k3, L3, rfl, rfl, m3, s3, r3⟩ := strs_fieldO Tryz.underlying25 Tryz.underlying9 (by kernel_rfl) z3
 refine ⟨_, _, _, _, ⟨L0, L1, L2, L3⟩, rfl, ⟨⟨m0, m1, m2, m3⟩, fun p hp => (q0 p hp).1, q1, fun p hp => (q2 p hp).1, s3⟩, ⟨⟨a0, k0, rfl, r0⟩, fun p hp => (q0 p hp).2⟩, ⟨⟨a1, k1, rfl, r1⟩, fun p hp r hr => by cases hr⟩, ⟨⟨a2, k2, rfl, r2⟩, fun p hp => (q2 p hp).2⟩, ⟨a3, k3, rfl, r3⟩⟩
end
end Go.Proofs.YtfogppnijdjakaaGreatDoor

/- A copied cluster: its nodes, stores, messages and data lie apart from each other, in this order. -/
namespace Go.Proofs.YtfogppnijdjakaaGreatDoor
open Go.ChangeShapes Go.WideShapes Go.ChangeAt Go.RowKit
set_option linter.unusedVariables false
def Clu.sep (nv sv wv dv : Value) (c : Clu) (m1 m2 m3 : Nat) : Prop :=
 (∀ r ∈ ([⟨71, 13, nv, c.nds.length, c.nds.flatMap cN⟩] ++ c.nds.flatMap nrows : List RD), ∀ j, r.v.ownBlock = some j → j < m1) ∧ (∀ r ∈ ([⟨74, 2, sv, c.sts.length, c.sts.flatMap cSt⟩] : List RD), ∀ j, r.v.ownBlock = some j → m1 ≤ j ∧ j < m2) ∧ (∀ r ∈ ([⟨82, 9, wv, c.wire.length, c.wire.flatMap cM⟩] ++ c.wire.flatMap mrows : List RD), ∀ j, r.v.ownBlock = some j → m2 ≤ j ∧ j < m3) ∧ (∀ r ∈ ([⟨9, 1, dv, c.done.length, cS c.done⟩] : List RD), ∀ j, r.v.ownBlock = some j → m3 ≤ j)
set_option maxHeartbeats 4000000 in
set_option maxRecDepth 100000 in
theorem toCluX (nv sv wv dv : Value) (c : Clu) (HF : Hid (c.fits 1048576)) (w : World) (h : CluR w nv sv wv dv c) :
  Calls Tryz.prog 6 #[.agg #[nv, sv, wv, dv]] w fun e w' => ∃ nv' sv' wv' dv' c', e = .returned (.agg #[nv', sv', wv', dv']) ∧ c.same c' ∧ FOwn w' w.heap.size (c'.rows nv' sv' wv' dv') ∧ (∃ m1 m2 m3, c'.sep nv' sv' wv' dv' m1 m2 m3 ∧ m1 ≤ m2 ∧ m2 ≤ m3 ∧ m3 ≤ w'.heap.size ∧ w.heap.size ≤ m1) ∧ Below w.heap.size w w' := by
 have HR := hide h
 obtain ⟨⟨f1, f2, f3, f4⟩, g1, g2, g3, g4⟩ := unhide HF
 have F1 := hide f1
 have F2 := hide f2
 have F3 := hide f3
 have F4 := hide f4
 have G1 := hide g1
 have G3 := hide g3
 obtain ⟨ad, cd, rfl, hd⟩ := h.d
 have HD := hide hd
 clear h hd f1 f2 f3 f4 g1 g2 g3 g4
 obtain ⟨nd, hnd⟩ : ∃ nd, c.done.length = nd := ⟨_, rfl⟩
 have HND : Hid (c.done.length = nd) := hnd
 have F4' : Hid (nd ≤ 1048576) := by show _ ≤ _; rw [← hnd]; exact unhide F4
 rw [hnd]
 clear hnd
 have B0 := hide (Go.Joins.below_alloc3 w (Obj.cells #[nv, sv, wv, .slice ad nd cd] 27) (Obj.cells #[.slice none 0 0, .slice none 0 0, .slice none 0 0, .slice none 0 0] 35) (Obj.cells #[.slice none 0 0, .slice none 0 0, .slice none 0 0, .slice none 0 0] 35))
 have A0 := hide (((BF.new w #[nv, sv, wv, .slice ad nd cd] 27).alloc (Obj.cells #[.slice none 0 0, .slice none 0 0, .slice none 0 0, .slice none 0 0] 35)).alloc (Obj.cells #[.slice none 0 0, .slice none 0 0, .slice none 0 0, .slice none 0 0] 35))
 have X0 := hide ((BF.new (w.alloc (Obj.cells #[nv, sv, wv, .slice ad nd cd] 27)) #[.slice none 0 0, .slice none 0 0, .slice none 0 0, .slice none 0 0] 35).alloc (Obj.cells #[.slice none 0 0, .slice none 0 0, .slice none 0 0, .slice none 0 0] 35))
 have O0 := hide (BF.new ((w.alloc (Obj.cells #[nv, sv, wv, .slice ad nd cd] 27)).alloc (Obj.cells #[.slice none 0 0, .slice none 0 0, .slice none 0 0, .slice none 0 0] 35)) #[.slice none 0 0, .slice none 0 0, .slice none 0 0, .slice none 0 0] 35)
 simp only [World.size_alloc] at X0 O0
 have lo1 : w.heap.size ≤ w.heap.size + 1 + 1 := by omega
 have lo2 : w.heap.size ≤ w.heap.size + 1 := by omega
 have ne1 : w.heap.size + 1 + 1 ≠ w.heap.size := by omega
 have ne2 : w.heap.size + 1 + 1 ≠ w.heap.size + 1 := by omega
 have FF0 : Hid (FOwn (((w.alloc (Obj.cells #[nv, sv, wv, .slice ad nd cd] 27)).alloc (Obj.cells #[.slice none 0 0, .slice none 0 0, .slice none 0 0, .slice none 0 0] 35)).alloc (Obj.cells #[.slice none 0 0, .slice none 0 0, .slice none 0 0, .slice none 0 0] 35)) (w.heap.size + 1 + 1 + 1) []) := FOwn.nil _ _
 go_enter Tryz.func6, Tryz.ntmps6
 go_wp2_with fail
 refine (toNodes nv _ (unhide F1) c.nds (hide rfl) G1 _ ((unhide HR).below (unhide B0)).n).mono ?_
 rintro e w1 ⟨rfl, K1, hm1, ho1, fo1, hs1, hb1⟩
 simp only [World.size_alloc] at ho1 fo1 hs1 ⊢
 have B1 := hide ((unhide B0).trans (hb1.mono (unhide B0).size))
 have A1 := hide ((unhide A0).below hb1)
 have X1 := hide ((unhide X0).below hb1)
 have O1 := hide ((unhide O0).below hb1)
 have e1 : c.nds.length = K1.length := by have := congrArg List.length hm1; simpa using this.symm
 rw [e1] at ho1 ⊢
 obtain ⟨p1, hp1⟩ : ∃ p, p = w.heap.size + 1 + 1 + 1 := ⟨_, rfl⟩
 rw [← hp1] at ho1 fo1 hs1 ⊢
 have HP1 := hide hp1
 clear hp1
 have l1 : Hid (w.heap.size + 1 + 1 + 1 ≤ p1) := by show _ ≤ _; rw [unhide HP1]; exact Nat.le_refl _
 have N1 : Hid (FOwn w1 p1 ([⟨71, 13, (.slice (some ⟨p1, 0, none⟩) K1.length K1.length), K1.length, K1.flatMap cN⟩] ++ K1.flatMap nrows)) := (FOwn.one (r := ⟨_, _, (.slice (some ⟨p1, 0, none⟩) K1.length K1.length), _, _⟩) ho1).app fo1 (Nat.le_succ _) (fun r hr i hi => by obtain rfl := List.mem_singleton.1 hr; simp only [Value.ownBlock, Option.some.injEq] at hi; omega)
 have FF1 : Hid (FOwn w1 (w.heap.size + 1 + 1 + 1) ([⟨71, 13, (.slice (some ⟨p1, 0, none⟩) K1.length K1.length), K1.length, K1.flatMap cN⟩] ++ K1.flatMap nrows)) := (unhide N1).low (unhide l1)
 have W1 : Hid (∀ r ∈ (([⟨71, 13, (.slice (some ⟨p1, 0, none⟩) K1.length K1.length), K1.length, K1.flatMap cN⟩] ++ K1.flatMap nrows) : List RD), ∀ i, r.v.ownBlock = some i → p1 ≤ i) := fun r hr i hi => ((unhide N1).lt r hr i hi).1
 clear ho1 fo1 hs1 hb1 B0 A0 X0 O0 FF0
 have o1 := (unhide O1).S
 have of1 := (unhide O1).F
 have a1 := (unhide A1).S
 have O1 : Hid (BF (w.heap.size + 1 + 1) #[.slice (some ⟨p1, 0, none⟩) K1.length K1.length, .slice none 0 0, .slice none 0 0, .slice none 0 0] _) := (unhide O1).set 0 (by simp) (.slice (some ⟨p1, 0, none⟩) K1.length K1.length)
 replace A1 := hide ((unhide A1).far ⟨w.heap.size + 1 + 1, 0, none⟩ (.slice (some ⟨p1, 0, none⟩) K1.length K1.length) ne1)
 replace X1 := hide ((unhide X1).far ⟨w.heap.size + 1 + 1, 0, none⟩ (.slice (some ⟨p1, 0, none⟩) K1.length K1.length) ne2)
 replace B1 := hide ((unhide B1).setCell (p := ⟨w.heap.size + 1 + 1, 0, none⟩) lo1 (.slice (some ⟨p1, 0, none⟩) K1.length K1.length))
 replace FF1 := hide ((unhide FF1).setC (a := ⟨w.heap.size + 1 + 1, 0, none⟩) (Nat.lt_succ_self _) (.slice (some ⟨p1, 0, none⟩) K1.length K1.length))
 go_wp2_with fail
 refine (toStores sv _ (unhide F2) c.sts (hide rfl) _ ((unhide HR).below (unhide B1)).s).mono ?_
 rintro e w2 ⟨rfl, K2, hm2, ho2, fo2, hs2, hb2⟩
 simp only [World.size_setCell] at ho2 fo2 hs2 ⊢
 have B2 := hide ((unhide B1).trans (hb2.mono (unhide B1).size))
 have A2 := hide ((unhide A1).below hb2)
 have X2 := hide ((unhide X1).below hb2)
 have O2 := hide ((unhide O1).below hb2)
 have e2 : c.sts.length = K2.length := by rw [hm2]
 rw [e2] at ho2 ⊢
 obtain ⟨p2, hp2⟩ : ∃ p, p = w1.heap.size := ⟨_, rfl⟩
 rw [← hp2] at ho2 fo2 hs2 ⊢
 have HP2 := hide hp2
 clear hp2
 have l2 : Hid (w.heap.size + 1 + 1 + 1 ≤ p2) := by show _ ≤ _; rw [unhide HP2]; have := (unhide O1).lt; simp only [World.size_setCell] at this; exact this
 have Z2 : Hid (p2 ≤ w2.heap.size) := by show _ ≤ _; have h := hb2.size; simp only [World.size_setCell] at h; rw [unhide HP2]; exact h
 have N2 : Hid (FOwn w2 p2 [⟨74, 2, (.slice (some ⟨p2, 0, none⟩) K2.length K2.length), K2.length, K2.flatMap cSt⟩]) := FOwn.one (r := ⟨_, _, (.slice (some ⟨p2, 0, none⟩) K2.length K2.length), _, _⟩) ho2
 have FF2 : Hid (FOwn w2 (w.heap.size + 1 + 1 + 1) (([⟨71, 13, (.slice (some ⟨p1, 0, none⟩) K1.length K1.length), K1.length, K1.flatMap cN⟩] ++ K1.flatMap nrows) ++ [⟨74, 2, (.slice (some ⟨p2, 0, none⟩) K2.length K2.length), K2.length, K2.flatMap cSt⟩])) := ((unhide FF1).below hb2).app (unhide N2) (unhide l2) (fun r hr i hi => by have h := ((unhide FF1).lt r hr i hi).2; simp only [World.size_setCell] at h; rw [unhide HP2]; exact h)
 have W2 : Hid (∀ r ∈ ([⟨74, 2, (.slice (some ⟨p2, 0, none⟩) K2.length K2.length), K2.length, K2.flatMap cSt⟩] : List RD), ∀ i, r.v.ownBlock = some i → p2 ≤ i) := fun r hr i hi => ((unhide N2).lt r hr i hi).1
 have U2 : Hid (∀ r ∈ (([⟨71, 13, (.slice (some ⟨p1, 0, none⟩) K1.length K1.length), K1.length, K1.flatMap cN⟩] ++ K1.flatMap nrows) : List RD), ∀ i, r.v.ownBlock = some i → i < p2) := fun r hr i hi => by have h := ((unhide FF1).lt r hr i hi).2; simp only [World.size_setCell] at h; rw [unhide HP2]; exact h
 clear ho2 fo2 hs2 hb2 B1 A1 X1 O1 FF1 o1 of1 a1
 have o2 := (unhide O2).S
 have of2 := (unhide O2).F
 have a2 := (unhide A2).S
 have O2 : Hid (BF (w.heap.size + 1 + 1) #[.slice (some ⟨p1, 0, none⟩) K1.length K1.length, .slice (some ⟨p2, 0, none⟩) K2.length K2.length, .slice none 0 0, .slice none 0 0] _) := (unhide O2).set 1 (by simp) (.slice (some ⟨p2, 0, none⟩) K2.length K2.length)
 replace A2 := hide ((unhide A2).far ⟨w.heap.size + 1 + 1, 1, none⟩ (.slice (some ⟨p2, 0, none⟩) K2.length K2.length) ne1)
 replace X2 := hide ((unhide X2).far ⟨w.heap.size + 1 + 1, 1, none⟩ (.slice (some ⟨p2, 0, none⟩) K2.length K2.length) ne2)
 replace B2 := hide ((unhide B2).setCell (p := ⟨w.heap.size + 1 + 1, 1, none⟩) lo1 (.slice (some ⟨p2, 0, none⟩) K2.length K2.length))
 replace FF2 := hide ((unhide FF2).setC (a := ⟨w.heap.size + 1 + 1, 1, none⟩) (Nat.lt_succ_self _) (.slice (some ⟨p2, 0, none⟩) K2.length K2.length))
 go_wp2_with fail
 refine (toMessages wv _ (unhide F3) c.wire (hide rfl) G3 _ ((unhide HR).below (unhide B2)).t).mono ?_
 rintro e w3 ⟨rfl, K3, hm3, ho3, fo3, hs3, hb3⟩
 simp only [World.size_setCell] at ho3 fo3 hs3 ⊢
 have B3 := hide ((unhide B2).trans (hb3.mono (unhide B2).size))
 have A3 := hide ((unhide A2).below hb3)
 have X3 := hide ((unhide X2).below hb3)
 have O3 := hide ((unhide O2).below hb3)
 have e3 : c.wire.length = K3.length := by have := congrArg List.length hm3; simpa using this.symm
 rw [e3] at ho3 ⊢
 obtain ⟨p3, hp3⟩ : ∃ p, p = w2.heap.size := ⟨_, rfl⟩
 rw [← hp3] at ho3 fo3 hs3 ⊢
 have HP3 := hide hp3
 clear hp3
 have l3 : Hid (w.heap.size + 1 + 1 + 1 ≤ p3) := by show _ ≤ _; rw [unhide HP3]; have := (unhide O2).lt; simp only [World.size_setCell] at this; exact this
 have Z3 : Hid (p3 ≤ w3.heap.size) := by show _ ≤ _; have h := hb3.size; simp only [World.size_setCell] at h; rw [unhide HP3]; exact h
 have N3 : Hid (FOwn w3 p3 ([⟨82, 9, (.slice (some ⟨p3, 0, none⟩) K3.length K3.length), K3.length, K3.flatMap cM⟩] ++ K3.flatMap mrows)) := (FOwn.one (r := ⟨_, _, (.slice (some ⟨p3, 0, none⟩) K3.length K3.length), _, _⟩) ho3).app fo3 (Nat.le_succ _) (fun r hr i hi => by obtain rfl := List.mem_singleton.1 hr; simp only [Value.ownBlock, Option.some.injEq] at hi; omega)
 have FF3 : Hid (FOwn w3 (w.heap.size + 1 + 1 + 1) ((([⟨71, 13, (.slice (some ⟨p1, 0, none⟩) K1.length K1.length), K1.length, K1.flatMap cN⟩] ++ K1.flatMap nrows) ++ [⟨74, 2, (.slice (some ⟨p2, 0, none⟩) K2.length K2.length), K2.length, K2.flatMap cSt⟩]) ++ ([⟨82, 9, (.slice (some ⟨p3, 0, none⟩) K3.length K3.length), K3.length, K3.flatMap cM⟩] ++ K3.flatMap mrows))) := ((unhide FF2).below hb3).app (unhide N3) (unhide l3) (fun r hr i hi => by have h := ((unhide FF2).lt r hr i hi).2; simp only [World.size_setCell] at h; rw [unhide HP3]; exact h)
 have W3 : Hid (∀ r ∈ (([⟨82, 9, (.slice (some ⟨p3, 0, none⟩) K3.length K3.length), K3.length, K3.flatMap cM⟩] ++ K3.flatMap mrows) : List RD), ∀ i, r.v.ownBlock = some i → p3 ≤ i) := fun r hr i hi => ((unhide N3).lt r hr i hi).1
 have U3 : Hid (∀ r ∈ ((([⟨71, 13, (.slice (some ⟨p1, 0, none⟩) K1.length K1.length), K1.length, K1.flatMap cN⟩] ++ K1.flatMap nrows) ++ [⟨74, 2, (.slice (some ⟨p2, 0, none⟩) K2.length K2.length), K2.length, K2.flatMap cSt⟩]) : List RD), ∀ i, r.v.ownBlock = some i → i < p3) := fun r hr i hi => by have h := ((unhide FF2).lt r hr i hi).2; simp only [World.size_setCell] at h; rw [unhide HP3]; exact h
 clear ho3 fo3 hs3 hb3 B2 A2 X2 O2 FF2 o2 of2 a2
 have o3 := (unhide O3).S
 have of3 := (unhide O3).F
 have a3 := (unhide A3).S
 have O3 : Hid (BF (w.heap.size + 1 + 1) #[.slice (some ⟨p1, 0, none⟩) K1.length K1.length, .slice (some ⟨p2, 0, none⟩) K2.length K2.length, .slice (some ⟨p3, 0, none⟩) K3.length K3.length, .slice none 0 0] _) := (unhide O3).set 2 (by simp) (.slice (some ⟨p3, 0, none⟩) K3.length K3.length)
 replace A3 := hide ((unhide A3).far ⟨w.heap.size + 1 + 1, 2, none⟩ (.slice (some ⟨p3, 0, none⟩) K3.length K3.length) ne1)
 replace X3 := hide ((unhide X3).far ⟨w.heap.size + 1 + 1, 2, none⟩ (.slice (some ⟨p3, 0, none⟩) K3.length K3.length) ne2)
 replace B3 := hide ((unhide B3).setCell (p := ⟨w.heap.size + 1 + 1, 2, none⟩) lo1 (.slice (some ⟨p3, 0, none⟩) K3.length K3.length))
 replace FF3 := hide ((unhide FF3).setC (a := ⟨w.heap.size + 1 + 1, 2, none⟩) (Nat.lt_succ_self _) (.slice (some ⟨p3, 0, none⟩) K3.length K3.length))
 go_wp2_with fail
 refine (copyStrN ad cd nd c.done HND (unhide F4') _ ((unhide HD).below (unhide B3))).mono ?_
 rintro e w4 ⟨g4, rfl, ho4, hb4⟩
 simp only [World.size_setCell] at ho4
 have B4 := hide ((unhide B3).trans (hb4.mono (unhide B3).size))
 have A4 := hide ((unhide A3).below hb4)
 have X4 := hide ((unhide X3).below hb4)
 have O4 := hide ((unhide O3).below hb4)
 have l4 : Hid (w.heap.size + 1 + 1 + 1 ≤ w3.heap.size) := by show _ ≤ _; have := (unhide O3).lt; simp only [World.size_setCell] at this; exact this
 have Z4 : Hid (w3.heap.size ≤ w4.heap.size) := by show _ ≤ _; have h := hb4.size; simp only [World.size_setCell] at h; exact h
 have N4 : Hid (FOwn w4 w3.heap.size [⟨9, 1, (.slice (some ⟨g4, 0, none⟩) nd nd), nd, cS c.done⟩]) := FOwn.one (r := ⟨_, _, (.slice (some ⟨g4, 0, none⟩) nd nd), _, _⟩) ho4
 have FF4 : Hid (FOwn w4 (w.heap.size + 1 + 1 + 1) (((([⟨71, 13, (.slice (some ⟨p1, 0, none⟩) K1.length K1.length), K1.length, K1.flatMap cN⟩] ++ K1.flatMap nrows) ++ [⟨74, 2, (.slice (some ⟨p2, 0, none⟩) K2.length K2.length), K2.length, K2.flatMap cSt⟩]) ++ ([⟨82, 9, (.slice (some ⟨p3, 0, none⟩) K3.length K3.length), K3.length, K3.flatMap cM⟩] ++ K3.flatMap mrows)) ++ [⟨9, 1, (.slice (some ⟨g4, 0, none⟩) nd nd), nd, cS c.done⟩])) := ((unhide FF3).below hb4).app (unhide N4) (unhide l4) (fun r hr i hi => by have h := ((unhide FF3).lt r hr i hi).2; simp only [World.size_setCell] at h; exact h)
 have W4 : Hid (∀ r ∈ ([⟨9, 1, (.slice (some ⟨g4, 0, none⟩) nd nd), nd, cS c.done⟩] : List RD), ∀ i, r.v.ownBlock = some i → w3.heap.size ≤ i) := fun r hr i hi => ((unhide N4).lt r hr i hi).1
 have U4 : Hid (∀ r ∈ (((([⟨71, 13, (.slice (some ⟨p1, 0, none⟩) K1.length K1.length), K1.length, K1.flatMap cN⟩] ++ K1.flatMap nrows) ++ [⟨74, 2, (.slice (some ⟨p2, 0, none⟩) K2.length K2.length), K2.length, K2.flatMap cSt⟩]) ++ ([⟨82, 9, (.slice (some ⟨p3, 0, none⟩) K3.length K3.length), K3.length, K3.flatMap cM⟩] ++ K3.flatMap mrows)) : List RD), ∀ i, r.v.ownBlock = some i → i < w3.heap.size) := fun r hr i hi => by have h := ((unhide FF3).lt r hr i hi).2; simp only [World.size_setCell] at h; exact h
 clear ho4 hb4 B3 A3 X3 O3 FF3 o3 of3 a3
 have o4 := (unhide O4).S
 have of4 := (unhide O4).F
 have a4 := (unhide A4).S
 have x4 := (unhide X4).S
 have xf4 := (unhide X4).F
 go_wp2_with fail
 refine bodyPost_ret (v := .agg #[.slice (some ⟨p1, 0, none⟩) K1.length K1.length, .slice (some ⟨p2, 0, none⟩) K2.length K2.length, .slice (some ⟨p3, 0, none⟩) K3.length K3.length, .slice (some ⟨g4, 0, none⟩) nd nd]) (by simp [results, Tryz.results6, go_sem, *]) rfl ⟨_, _, _, _, ⟨K1, K2, K3, c.done⟩, rfl, ⟨hm1.symm, hm2.symm, hm3.symm, rfl⟩, ?_, ⟨p2, p3, w3.heap.size, ?_, ?_⟩, ?_⟩
 ·refine FOwn.low (lo := w.heap.size + 1 + 1 + 1) ?_ (by omega)
  have q1 : w.heap.size + 1 + 1 < w.heap.size + 1 + 1 + 1 := by omega
  have q2 : w.heap.size + 1 < w.heap.size + 1 + 1 + 1 := by omega
  unfold Clu.rows
  rw [show (Clu.mk K1 K2 K3 c.done).done.length = nd from unhide HND]
  repeat refine FOwn.setC ?_ (by first | exact q1 | exact q2) _
  exact unhide FF4
 ·unfold Clu.sep
  rw [show (Clu.mk K1 K2 K3 c.done).done.length = nd from unhide HND]
  exact ⟨unhide U2, fun r hr i hi => ⟨unhide W2 r hr i hi, unhide U3 r (List.mem_append_right _ hr) i hi⟩, fun r hr i hi => ⟨unhide W3 r hr i hi, unhide U4 r (List.mem_append_right _ hr) i hi⟩, unhide W4⟩
 ·have z2 := unhide Z2
  have z5 : p3 = w2.heap.size := unhide HP3
  have z3 := unhide Z3
  have z4 := unhide Z4
  have z1 := unhide l2
  refine ⟨by omega, by omega, ?_, by omega⟩
  simp only [World.size_setCell]
  omega
 ·repeat refine Below.setCell ?_ (by first | exact lo1 | exact lo2) _
  exact unhide B4
end Go.Proofs.YtfogppnijdjakaaGreatDoor
