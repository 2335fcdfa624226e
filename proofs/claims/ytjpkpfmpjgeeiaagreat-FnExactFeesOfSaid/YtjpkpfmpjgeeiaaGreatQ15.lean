
/- Append onto a row that the call owns, from a source that can be read, be it nil, empty or not: in a plain region and at a step of one that draws. -/
import Derived.Test.YtjpkpfmpjgeeiaaGreatQ01
import Derived.Maps.AppendAt
import Derived.Laws.Rows
import Derived.RegionTactic
import Derived.OwnWalk
import Derived.Deep.AppendLies
import Derived.Test.YtjpkpfmpjgeeiaaGreatQ03
import Derived.Test.YtjpkpfmpjgeeiaaGreatQ10
import Derived.Test.YtjpkpfmpjgeeiaaGreatQ12
import Derived.Test.YtjpkpfmpjgeeiaaGreatQ14
namespace Go.Proofs.YtjpkpfmpjgeeiaaGreat
open Go.RowKit
set_option linter.unusedVariables false

/-- the m elements behind A read as these cells -/
structure Src (w : World) (A : Option Addr) (m size : Nat) (news : List Value) : Prop where
  len : news.length = m * size
  one : ∀ u ∈ news, u.oneCell' = true
  nil : A = none → m = 0
  at_ : ∀ ad, A = some ad → ∀ j u, news[j]? = some u → w.cell? (ad.add j) = some u
section
variable {P : Program} {w : World}
end
end Go.Proofs.YtjpkpfmpjgeeiaaGreat
namespace Go.Proofs.YtjpkpfmpjgeeiaaGreat
open Go.RowKit
set_option linter.unusedVariables false
section
variable {P : Program} {w : World}
end
end Go.Proofs.YtjpkpfmpjgeeiaaGreat
namespace Go.Proofs.YtjpkpfmpjgeeiaaGreat
open Go.RowKit
set_option linter.unusedVariables false
set_option maxRecDepth 100000

structure Sit where
  A1 : Option Addr
  o : List (Int × Int)
  c1 : Nat
  A2 : Option Addr
  q : List (Int × Int)
  c2 : Nat
  AB : Option Addr
  bk : List Cl
  cB : Nat
  dk : Int
  ds : Int
  dl : Bool
  dp : Bool
  df : Bool
  par : Int
  who : Int
  AJ : Option Addr
  jr : List Ev
  cJ : Nat
/-- what a site holds, wherever its rows lie -/
abbrev SCont := List (Int × Int) × List (Int × Int) × List (Int × List Int × List Bx) × (Int × Int × Bool × Bool × Bool) × Int × Int × List Ev
def contS (x : Sit) : SCont := (x.o, x.q, x.bk.map cont, (x.dk, x.ds, x.dl, x.dp, x.df), x.par, x.who, x.jr)
def sitC (x : Sit) : List Value := [.slice x.A1 x.o.length x.c1, .slice x.A2 x.q.length x.c2, .slice x.AB x.bk.length x.cB, .int .i64 x.dk, .int .i64 x.ds, .bool x.dl, .bool x.dp, .bool x.df, .int .i64 x.par, .int .i64 x.who, .slice x.AJ x.jr.length x.cJ]
/-- its slices read as its lists, below block B -/
structure SitV (w : World) (B : Nat) (x : Sit) : Prop where
  so : SL w B x.A1 x.o
  sq : SL w B x.A2 x.q
  kb : KL w B x.AB x.bk
  cv : ∀ y ∈ x.bk, CV w B y
  ej : evL w B x.AJ x.jr
  l1 : x.o.length ≤ maxLen
  l2 : x.q.length ≤ maxLen
  l3 : x.bk.length ≤ maxLen
  l4 : x.jr.length ≤ maxLen
theorem SitV.later {w w' : World} {B : Nat} {x : Sit} (h : SitV w B x) (hB : B ≤ w.heap.size) (hb : Below w.heap.size w w') : SitV w' B x :=
  ⟨h.so.later hB hb, h.sq.later hB hb, h.kb.later hB hb, fun y hy => (h.cv y hy).later hB hb, h.ej.later hB hb, h.l1, h.l2, h.l3, h.l4⟩
theorem SitV.more {w : World} {B B' : Nat} {x : Sit} (h : SitV w B x) (hB : B ≤ B') : SitV w B' x :=
  ⟨h.so.more hB, h.sq.more hB, h.kb.more hB, fun y hy => (h.cv y hy).more hB, h.ej.more hB, h.l1, h.l2, h.l3, h.l4⟩
/-- how many elements its lists have -/
def szSit (x : Sit) : Nat := x.o.length + x.q.length + (x.bk.length + totK x.bk) + x.jr.length
/-- its rows lie in a range of blocks, apart from one another -/
def SitAt (w : World) (lo hi : Nat) (x : Sit) : Prop := ∃ m1 m2 m3, lo ≤ m1 ∧ m1 ≤ m2 ∧ m2 ≤ m3 ∧ m3 ≤ hi ∧ OI w lo m1 169 x.A1 (spnV x.o) ∧ OI w m1 m2 169 x.A2 (spnV x.q) ∧ BankAt w m2 m3 x.AB x.bk ∧ OI w m3 hi 99 x.AJ (evV x.jr)
theorem SitAt.call {w w' : World} {lo hi : Nat} {x : Sit} (h : SitAt w lo hi x) (hb : Below w.heap.size w w') : SitAt w' lo hi x := by
  obtain ⟨m1, m2, m3, h1, h2, h3, h4, a, b, c, d⟩ := h
  exact ⟨m1, m2, m3, h1, h2, h3, h4, a.call hb, b.call hb, c.call hb, d.call hb⟩
theorem SitAt.setlow {w : World} {lo hi : Nat} {x : Sit} (h : SitAt w lo hi x) {p : Addr} (hp : p.block < lo) (v : Value) : SitAt (w.setCell p v) lo hi x := by
  obtain ⟨m1, m2, m3, h1, h2, h3, h4, a, b, c, d⟩ := h
  refine ⟨m1, m2, m3, h1, h2, h3, h4, a.setlow hp v, b.setlow (by omega) v, ⟨c.1.setlow (by omega) v, ?_⟩, d.setlow (by omega) v⟩
  obtain ⟨f, hf⟩ := c.2
  exact ⟨f, hf.setlow (by omega) v⟩
theorem SitAt.wider {w : World} {lo hi hi' : Nat} {x : Sit} (h : SitAt w lo hi x) (h2 : hi ≤ hi') : SitAt w lo hi' x := by
  obtain ⟨m1, m2, m3, h1, h2', h3, h4, a, b, c, d⟩ := h
  exact ⟨m1, m2, m3, h1, h2', h3, by omega, a, b, c, d.wider (Nat.le_refl _) (by omega)⟩
theorem sl_of {w : World} {B : Nat} {A : Option Addr} {l : List (Int × Int)} (h : spnL w B A l) : SL w B A l := h
theorem SitAt.v {w : World} {lo hi : Nat} {x : Sit} (h : SitAt w lo hi x) (hs : szSit x ≤ 1048576) : SitV w w.heap.size x := by
  obtain ⟨m1, m2, m3, h1, h2', h3, h4, a, b, c, d⟩ := h
  unfold szSit at hs
  exact ⟨sl_of a.spn, sl_of b.spn, c.kl, c.cv (small_tot (by omega)), d.ev, by unfold maxLen; omega, by unfold maxLen; omega, by unfold maxLen; omega, by unfold maxLen; omega⟩

set_option maxHeartbeats 1000000 in
theorem toWeekR_any (w : World) (B : Nat) (A A' : Option Addr) (n n' : Nat) (o c : List (Int × Int)) (ho : o.length ≤ 1048576) (hc : c.length ≤ 1048576) (hB : B ≤ w.heap.size) (hS : SL w B A o) (hS' : SL w B A' c) :
    Calls Tryz.prog 69 #[.agg #[.slice A o.length n, .slice A' c.length n']] w fun e w' => ∃ A2 A2' c2 c2' m, e = .returned (.agg #[.slice A2 o.length c2, .slice A2' c.length c2']) ∧ w.heap.size ≤ m ∧ m ≤ w'.heap.size ∧ OI w' w.heap.size m 169 A2 (spnV o) ∧ OI w' m w'.heap.size 169 A2' (spnV c) ∧ Below w.heap.size w w' := by
  have HS := Lib.hid hS; clear hS
  have HS' := Lib.hid hS'; clear hS'
  have hb3 : ∀ o1 o2 o3, Below w.heap.size w (((w.alloc o1).alloc o2).alloc o3) := fun o1 o2 o3 => bthen (bthen (balloc w o1) (balloc _ o2)) (balloc _ o3)
  have H3 := Lib.hid hb3; clear hb3
  go_enter Tryz.func69, Tryz.ntmps69
  go_wp2_with fail
  generalize hW0 : (((w.alloc (.cells #[.slice A o.length n, .slice A' c.length n'] 70)).alloc (.cells #[.slice none 0 0, .slice none 0 0] 84)).alloc (.cells #[.slice none 0 0, .slice none 0 0] 84)) = w0
  have b0 : Below w.heap.size w w0 := by rw [← hW0]; exact H3.out _ _ _
  have k1 : Has w0 (w.heap.size + 1) 84 #[.slice none 0 0, .slice none 0 0] := by rw [← hW0]; have := has_alloc (has_new (w.alloc (.cells #[.slice A o.length n, .slice A' c.length n'] 70)) 84 #[.slice none 0 0, .slice none 0 0]) (.cells #[.slice none 0 0, .slice none 0 0] 84); simpa using this
  have k2 : Has w0 (w.heap.size + 1 + 1) 84 #[.slice none 0 0, .slice none 0 0] := by rw [← hW0]; have := has_new ((w.alloc (.cells #[.slice A o.length n, .slice A' c.length n'] 70)).alloc (.cells #[.slice none 0 0, .slice none 0 0] 84)) 84 #[.slice none 0 0, .slice none 0 0]; simpa using this
  have k0 : Has w0 w.heap.size 70 #[.slice A o.length n, .slice A' c.length n'] := by rw [← hW0]; exact has_alloc (has_alloc (has_new _ _ _) _) _
  clear hW0
  have hz0 := has_lt k2
  refine (spnTo_any w0 B A n o ho (by omega) (HS.out.later hB b0)).mono ?_
  rintro e w1 ⟨A2, c2, rfl, ho1, hb1⟩
  have HO1 := Lib.hid (OI.of_or ho1); clear ho1
  have m0 := has_call k0 hb1; have m1 := has_call k1 hb1; have m2 := has_call k2 hb1
  have hbx := bthen b0 hb1
  have hsz1 := hb1.size
  have e1 := has_cell m0 1 rfl
  have e2 := has_cell m2 0 rfl
  have f2 := has_free m2 0
  have l0 := has_lt m0
  have M1 := Lib.hid m1; have M2 := Lib.hid m2; clear m0 m1 m2 k0 k1 k2 hb1
  go_wp2_with fail
  clear e1 e2 f2
  generalize hW1 : (w1.setCell ⟨w.heap.size + 1 + 1, 0, none⟩ (.slice A2 o.length c2)) = w1'
  have bw : Below w.heap.size w w1' := by rw [← hW1]; exact hbx.setCell (by simp; omega) _
  have n1 : Has w1' (w.heap.size + 1) 84 #[.slice none 0 0, .slice none 0 0] := by rw [← hW1]; exact has_far M1.out (by simp) _
  have n2 : Has w1' (w.heap.size + 1 + 1) 84 #[.slice A2 o.length c2, .slice none 0 0] := by rw [← hW1]; have := has_set M2.out 0 (.slice A2 o.length c2); simpa using this
  have hsz1' : w1'.heap.size = w1.heap.size := by rw [← hW1, size_set]
  have o1 : OI w1' w0.heap.size w1.heap.size 169 A2 (spnV o) := by rw [← hW1]; exact OI.setlow HO1.out (by simp; omega) _
  clear hW1 M1 M2 HO1
  have O1 := Lib.hid o1; clear o1
  refine (spnTo_any w1' B A' n' c hc (by omega) (HS'.out.later hB bw)).mono ?_
  rintro e w2 ⟨A3, c3, rfl, ho2, hb2⟩
  have HO2 := Lib.hid (OI.of_or ho2); clear ho2
  have O2 := Lib.hid (O1.out.call hb2); clear O1
  have p1 := has_call n1 hb2
  have p2 := has_call n2 hb2
  have hsz2 := hb2.size
  have e1 := has_cell p2 0 rfl
  have e2 := has_cell p2 1 rfl
  have e3 := has_cell p1 0 rfl
  have e4 := has_cell p1 1 rfl
  have f1 := has_free p2 1
  have f3 := has_free p1 0
  have f4 := has_free p1 1
  have P1 := Lib.hid p1; have P2 := Lib.hid p2; clear p1 p2 n1 n2
  have HB2 := Lib.hid (bw.trans (hb2.mono bw.size)); clear hb2 bw
  have SZ := Lib.hid hsz1'; clear hsz1'
  go_wp2_with fail
  clear e1 e2 e3 e4 f1 f3 f4
  have q1 : Has (((w2.setCell ⟨w.heap.size + 1 + 1, 1, none⟩ (.slice A3 c.length c3)).setCell ⟨w.heap.size + 1, 0, none⟩ (.slice A2 o.length c2)).setCell ⟨w.heap.size + 1, 1, none⟩ (.slice A3 c.length c3)) (w.heap.size + 1) 84 #[.slice A2 o.length c2, .slice A3 c.length c3] := by
    have := has_set (has_set (has_far P1.out (p := ⟨w.heap.size + 1 + 1, 1, none⟩) (by simp) (.slice A3 c.length c3)) 0 (.slice A2 o.length c2)) 1 (.slice A3 c.length c3)
    simpa using this
  have g0 := has_cell q1 0 rfl
  have g1 := has_cell q1 1 rfl
  have hz1 := SZ.out
  refine bodyPost_ret (v := .agg #[.slice A2 o.length c2, .slice A3 c.length c3]) (by simp [results, Tryz.results69, go_sem, g0, g1]) rfl ⟨A2, A3, c2, c3, w1.heap.size, rfl, by omega, by simp only [size_set]; omega, ?_, ?_, ?_⟩
  · exact (((O2.out.wider (show w.heap.size + 1 + 1 + 1 ≤ _ by omega) (Nat.le_refl _)).setlow (p := ⟨w.heap.size + 1 + 1, 1, none⟩) (by simp) _).setlow (p := ⟨w.heap.size + 1, 0, none⟩) (by simp) _).setlow (p := ⟨w.heap.size + 1, 1, none⟩) (by simp) _ |>.wider (by omega) (Nat.le_refl _)
  · simp only [size_set]
    exact (((HO2.out.wider (show w1.heap.size ≤ _ by omega) (Nat.le_refl _)).setlow (p := ⟨w.heap.size + 1 + 1, 1, none⟩) (by simp; omega) _).setlow (p := ⟨w.heap.size + 1, 0, none⟩) (by simp; omega) _).setlow (p := ⟨w.heap.size + 1, 1, none⟩) (by simp; omega) _
  · exact ((HB2.out.setCell (by simp; omega) _).setCell (by simp) _).setCell (by simp) _

set_option maxRecDepth 100000 in
set_option maxHeartbeats 1000000 in
theorem szBkL_any (w : World) (B : Nat) (A : Option Addr) (c : Nat) (l : List Cl) (hl : l.length ≤ maxLen) (hB : B ≤ w.heap.size) (hS : KL w B A l) (hV : ∀ x ∈ l, CV w B x) (left : Int) (hl0 : 0 ≤ left) (hl1 : left ≤ 1048576) :
    Calls Tryz.prog 59 #[.slice A l.length c, .int .i64 left] w fun e w' => ∃ r, e = .returned (.int .i64 r) ∧ (r = -1 ∨ (0 ≤ r ∧ r = left - ((l.length + totK l : Nat) : Int))) ∧ Below w.heap.size w w' := by
  unfold maxLen at hl
  have HS := Lib.hid hS; have HV := Lib.hid hV; clear hS hV
  by_cases hbig : left < l.length
  · go_enter Tryz.func59, Tryz.ntmps59
    go_wp2
    go_ret
    exact ⟨-1, rfl, .inl rfl, Below.refl _ _⟩
  · have hl2 : l.length ≤ 1048576 := by omega
    go_enter Tryz.func59, Tryz.ntmps59
    go_wp2
    go_loopw [1, 5] (fun lv i wr => ∃ (k : Nat) (r : Int), k ≤ l.length ∧ i = .int .i64 k ∧ lv = .int .i64 r ∧ 0 ≤ r ∧ r + l.length + totK (l.take k) = left ∧ Below w.heap.size w wr) (fun _ i _ => l.length - (intOf i).toNat)
    case atStart => exact ⟨0, _, Nat.zero_le _, rfl, rfl, by omega, by simp [totK], Below.refl _ _⟩
    case round =>
      obtain ⟨k, r, hk, rfl, rfl, hr0, hsm, hb⟩ := hrel
      have hr1 : r ≤ 1048576 := by omega
      have HSM := Lib.hid hsm; clear hsm
      have hsz := hb.size
      by_cases hlt : k < l.length
      · obtain ⟨b, off, x, rfl, hbB, hx, hc0, hc1, hc2⟩ := (HS.out.later hB hb).at_ hlt
        have hv := HV.out x (List.mem_of_getElem? hx)
        by_cases hbd : r < x.F.length + x.L.length
        · have hs : szC r x.F.length x.L.length = -1 := if_pos (by omega)
          have Hs := Lib.hid hs; clear hs hx
          go_wp2_with fail
          refine (szColumn_any wr x.AF x.AB x.F.length x.cF x.L.length x.cB x.z r hv.lf hv.lb hr0 hr1).mono ?_
          rintro e w1 ⟨rfl, hb1⟩
          rw [Hs.out]
          go_wp2
          go_ret
          exact ⟨-1, rfl, .inl rfl, bthen hb hb1⟩
        · have hs : szC r x.F.length x.L.length = r - x.F.length - x.L.length := if_neg (by omega)
          have Hs := Lib.hid hs; clear hs
          have hsx := totK_succ hx
          have HSX := Lib.hid hsx; clear hsx hx
          go_wp2_with fail
          refine (szColumn_any wr x.AF x.AB x.F.length x.cF x.L.length x.cB x.z r hv.lf hv.lb hr0 hr1).mono ?_
          rintro e w1 ⟨rfl, hb1⟩
          rw [Hs.out]
          go_wp2
          go_roundw
          case rel => exact ⟨k + 1, _, by omega, by go_num, rfl, by omega, by have h1 := HSX.out; have h2 := HSM.out; omega, bthen hb hb1⟩
          case measure => simp [intOf]; omega
      · go_wp2
        go_ret
        have hkl : k = l.length := by omega
        subst hkl
        have := HSM.out
        rw [List.take_length] at this
        exact ⟨r, rfl, .inr ⟨hr0, by omega⟩, hb⟩

end Go.Proofs.YtjpkpfmpjgeeiaaGreat
