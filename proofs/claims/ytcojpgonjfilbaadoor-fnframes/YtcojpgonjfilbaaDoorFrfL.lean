/- What the law FnFrames wants besides: laws.begins, rows that lie apart, a source's bytes of a length. -/
import Derived.Test.YtcojpgonjfilbaaDoorFrbI
import Derived.Test.YtcojpgonjfilbaaDoorFrbS
import Derived.Test.YtcojpgonjfilbaaDoorFrmT
import Derived.Test.YtcojpgonjfilbaaDoorSrcB
import Derived.Test.YtcojpgonjfilbaaDoorLawL
namespace Go.Proofs.YtcojpgonjfilbaaDoor
open Go.ChangeShapes Go.WideShapes Go.ChangeAt Go.RowKit
set_option linter.unusedVariables false
theorem own_apartT {w : World} {b b2 : Nat} {e e2 : TypeId} {z z2 : Nat} {v v2 : Value} {n n2 : Nat} {xs xs2 : List Value} (h : w.ownsRow b e z v n xs) (h2 : w.ownsRow b2 e2 z2 v2 n2 xs2) (he : e ≠ e2) : v.ownBlock = none ∨ v.ownBlock ≠ v2.ownBlock := by
  rcases h.2 with ⟨rfl, _⟩ | ⟨g, cap, cur, rfl, _, hg, _⟩
  · exact .inl rfl
  · refine .inr fun e3 => ?_
    rcases h2.2 with ⟨rfl, _⟩ | ⟨g2, cap2, cur2, rfl, _, hg2, _⟩
    · cases e3
    · have e4 : g = g2 := by injection e3
      subst e4
      rw [hg] at hg2
      injection hg2 with hg2
      injection hg2 with _ h4 _
      exact he h4
theorem own_capT {w : World} {base : Nat} {e : TypeId} {a : Option Addr} {n cap : Nat} {xs : List Value} (h : w.ownsRow base e 1 (.slice a n cap) n xs) : n ≤ cap := by
  rcases h.2 with ⟨h1, h2⟩ | ⟨g, cap', cur, h1, _, _, h2, _⟩
  · omega
  · injection h1 with _ _ h3; omega
theorem sbytesOfN (n N : Nat) (a : Option Addr) (cap : Nat) (l : List UInt8) (hN : l.length = N) (hn : 1 ≤ n) (hn2 : n ≤ 255) (hl : l.length ≤ 1048600) (w : World) (hr : Row8 w a l) :
    Calls Tryd.prog 4 #[.slice a N cap, .int .i64 (n : Int)] w fun e w' => ∃ v : Value, e = .returned v ∧ ∃ m : List UInt8, m.length ≤ n ∧ w'.ownsRow w.heap.size 5 1 v m.length (B8 m) ∧ Below w.heap.size w w' := by
  subst hN; exact sbytesOf n a cap l hn hn2 hl w hr
theorem sameTextsN (a c : Option Addr) (cap cap2 n : Nat) (l : List ByteArray) (hn : l.length = n) (hl : n ≤ 1048576) (w : World) (hr : RowV w a (cS l)) (hr2 : RowV w c (cS l)) :
    Calls Tryd.prog 10 #[.slice a n cap, .slice c n cap2] w fun e w' => e = .returned (.bool true) ∧ Below w.heap.size w w' := by
  subst hn; exact sameTexts a c cap cap2 l hl w hr hr2
theorem sreadfrN (a : Option Addr) (cap n rn : Nat) (l : List UInt8) (hn : l.length = n) (r : List ByteArray) (hrn : r.length = rn) (p c : Int) (hr : r = rdL l) (hp : p = rdP l) (hc : c = rdC l) (hl : n ≤ 1048576) (w : World) (hrow : RowV w a (B8 l)) :
    Calls Tryd.prog 9 #[.slice a n cap] w fun e w' => ∃ v', e = .returned (.tuple #[v', .int .i64 p, .int .i64 c]) ∧ w'.ownsRow w.heap.size 9 1 v' rn (cS r) ∧ Below w.heap.size w w' := by
  subst hn hrn; exact sreadfrH a cap l r p c hr hp hc hl w hrow
theorem ireadfrN (a : Option Addr) (cap n rn : Nat) (l : List UInt8) (hn : l.length = n) (r : List ByteArray) (hrn : r.length = rn) (p c : Int) (hr : r = rdL l) (hp : p = rdP l) (hc : c = rdC l) (hl : n ≤ 1048576) (hcap : n ≤ cap) (w : World) (hrow : RowV w a (B8 l)) (hE : ErrsR w) :
    Calls Tryd.prog 7 #[.slice a n cap] w fun e w' => ∃ v', e = .returned (.tuple #[v', .int .i64 p, .int .i64 c]) ∧ w'.ownsRow w.heap.size 9 1 v' rn (cS r) ∧ Below w.heap.size w w' := by
  subst hn hrn; exact ireadfrH a cap l r p c hr hp hc hl hcap w hrow hE
theorem rowV_take8 {w : World} {a : Option Addr} {l : List UInt8} (h : RowV w a (B8 l)) (k : Nat) : RowV w a (B8 (l.take k)) := row8_V (row8_take (rowV_8 h) k)
set_option maxHeartbeats 1000000 in
set_option maxRecDepth 100000 in
theorem lbegins (a b : Option Addr) (ca cb : Nat) (l m : List ByteArray) (nl nm : Nat) (e1 : l.length = nl) (e2 : m.length = nm) (hp : l <+: m) (hm : nm ≤ 1048576) (hcb : nm ≤ cb) (w : World) (hr : RowV w a (cS l)) (hr2 : RowV w b (cS m)) :
    Calls Tryd.prog 11 #[.slice a nl ca, .slice b nm cb] w fun e w' => e = .returned (.bool true) ∧ Below w.heap.size w w' := by
  have hle : nl ≤ nm := by rw [← e1, ← e2]; exact hp.length_le
  obtain ⟨t, ht⟩ := hp
  have hr3 : RowV w b (cS l) := by
    rcases hr2 with h | ⟨b2, off, e, hlt, hc⟩
    · left
      rw [← ht, cS_app] at h
      exact (List.append_eq_nil_iff.1 h).1
    · exact .inr ⟨b2, off, e, hlt, fun i u hu => hc i u (by rw [← ht, cS_app, List.getElem?_append_left (List.getElem?_eq_some_iff.1 hu).1]; exact hu)⟩
  have T := sameTexts a b ca cb l (by omega) w hr hr3
  rw [e1] at T
  have HT := hide T
  have i1 : (nl : Int) ≤ (nm : Int) := by omega
  have i2 : (nl : Int) ≤ (cb : Int) := by omega
  have i3 : (0 : Int) ≤ (nl : Int) := by omega
  have i4 : nl ≤ cb := by omega
  clear T hr hr2 hr3 ht e1 e2
  by_cases h0 : nl = 0
  · subst h0
    go_enter Tryd.func11, Tryd.ntmps11
    go_wp2_with fail
    refine (unhide HT).mono ?_
    rintro e w2 ⟨rfl, hb⟩
    have HB := hide hb
    clear hb
    go_wp2_with fail
    go_ret
    exact ⟨rfl, unhide HB⟩
  · go_enter Tryd.func11, Tryd.ntmps11
    go_wp2_with fail
    refine (unhide HT).mono ?_
    rintro e w2 ⟨rfl, hb⟩
    have HB := hide hb
    clear hb
    go_wp2_with fail
    go_ret
    exact ⟨rfl, unhide HB⟩
end Go.Proofs.YtcojpgonjfilbaaDoor
