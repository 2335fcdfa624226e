/- Chapter 2: contract of the program's parcelsDiffer. -/
import Derived.Test.YthfpjfekemelaaaQ02
import Derived.Deep.RegionHeld3
import Derived.StillTailTactics
namespace Go.Proofs.Ythfpjfekemelaaa
open Go.RowKit
set_option linter.unusedVariables false

/-- a column as a value: its height, its slices and what they read as -/
structure Cl where
  z : Int
  AF : Option Addr
  F : List Int
  cF : Nat
  AB : Option Addr
  L : List Bx
  cB : Nat
def Cl.val (x : Cl) : Value := .agg #[.int .i64 x.z, .slice x.AF x.F.length x.cF, .slice x.AB x.L.length x.cB]
/-- what its slices read as, below block B -/
structure CV (w : World) (B : Nat) (x : Cl) : Prop where
  f : IL w B x.AF x.F
  b : XL w B x.AB x.L
  lf : x.F.length ≤ maxLen
  lb : x.L.length ≤ maxLen
theorem CV.later {w w' : World} {B : Nat} {x : Cl} (h : CV w B x) (hB : B ≤ w.heap.size) (hb : Below w.heap.size w w') : CV w' B x := ⟨h.f.later hB hb, h.b.later hB hb, h.lf, h.lb⟩
theorem CV.more {w : World} {B B' : Nat} {x : Cl} (h : CV w B x) (hB : B ≤ B') : CV w B' x := ⟨h.f.more hB, h.b.more hB, h.lf, h.lb⟩
/-- a slice of columns reads as the list, below block B -/
def KL (w : World) (B : Nat) (A : Option Addr) (l : List Cl) : Prop :=
  l = [] ∨ ∃ b off, A = some ⟨b, off, none⟩ ∧ b < B ∧ ∀ k x, l[k]? = some x → w.cell? ⟨b, off + k * 3, none⟩ = some (.int .i64 x.z) ∧ w.cell? ⟨b, off + k * 3 + 1, none⟩ = some (.slice x.AF x.F.length x.cF) ∧ w.cell? ⟨b, off + k * 3 + 2, none⟩ = some (.slice x.AB x.L.length x.cB)
theorem KL.below {w w' : World} {B : Nat} {A : Option Addr} {l : List Cl} (h : KL w B A l) (hb : Below B w w') : KL w' B A l := by
  rcases h with h | ⟨b, off, rfl, hlt, hc⟩
  · exact .inl h
  · refine .inr ⟨b, off, rfl, hlt, fun k x hx => ?_⟩
    have := hc k x hx
    exact ⟨(hb.cell (p := ⟨b, off + k * 3, none⟩) hlt).trans this.1, (hb.cell (p := ⟨b, off + k * 3 + 1, none⟩) hlt).trans this.2.1, (hb.cell (p := ⟨b, off + k * 3 + 2, none⟩) hlt).trans this.2.2⟩
theorem KL.later {w w' : World} {B : Nat} {A : Option Addr} {l : List Cl} (h : KL w B A l) (hB : B ≤ w.heap.size) (hb : Below w.heap.size w w') : KL w' B A l := h.below (hb.mono hB)
theorem KL.at_ {w : World} {B : Nat} {A : Option Addr} {l : List Cl} (h : KL w B A l) {k : Nat} (hk : k < l.length) :
    ∃ b off x, A = some ⟨b, off, none⟩ ∧ b < B ∧ l[k]? = some x ∧ w.cell? ⟨b, off + k * 3, none⟩ = some (.int .i64 x.z) ∧ w.cell? ⟨b, off + k * 3 + 1, none⟩ = some (.slice x.AF x.F.length x.cF) ∧ w.cell? ⟨b, off + k * 3 + 2, none⟩ = some (.slice x.AB x.L.length x.cB) := by
  rcases h with h | ⟨b, off, rfl, hlt, hc⟩
  · subst h; simp at hk
  · exact ⟨b, off, _, rfl, hlt, List.getElem?_eq_getElem hk, hc k _ (List.getElem?_eq_getElem hk)⟩
def parsOf (x : Cl) : List Int := x.L.map Bx.par
def allPars (l : List Cl) : List Int := l.flatMap parsOf
theorem allPars_succ {l : List Cl} {k : Nat} {x : Cl} (h : l[k]? = some x) : allPars (l.take (k + 1)) = allPars (l.take k) ++ parsOf x := by
  unfold allPars; rw [List.take_add_one, h]; simp
/-- the cells tell which parcels above 0 are in the list -/
def Seen (cs : Array Value) (P : List Int) : Prop := cs.size = 1000 ∧ ∀ n : Nat, n < 1000 → cs[n]? = some (.bool (decide (0 < n) && P.contains (n : Int)))
theorem seen_snoc {cs : Array Value} {P : List Int} (h : Seen cs P) (n : Nat) (hn : n < 1000) : Seen (cs.setIfInBounds n (.bool (decide (0 < n)))) (P ++ [(n : Int)]) := by
  refine ⟨by simp [h.1], fun m hm => ?_⟩
  rw [Array.getElem?_setIfInBounds]
  by_cases e : n = m
  · subst e
    rw [if_pos rfl, if_pos (by rw [h.1]; exact hn)]
    by_cases h0 : 0 < n
    · simp [h0]
    · have : n = 0 := by omega
      subst this; simp
  · rw [if_neg e, h.2 m hm]
    have : ((m : Int) == (n : Int)) = false := by simp; omega
    have hne : ¬ ((m : Int) = (n : Int)) := by omega
    simp [hne]

theorem dis_part {l : List Cl} {k : Nat} {x : Cl} (hx : l[k]? = some x) (h : Dis (allPars l)) (j : Nat) : Dis (allPars (l.take k) ++ (x.L.take j).map Bx.par) := by
  have e : allPars l = (allPars (l.take k) ++ (x.L.take j).map Bx.par) ++ ((x.L.drop j).map Bx.par ++ allPars (l.drop (k + 1))) := by
    have h1 : l = l.take (k + 1) ++ l.drop (k + 1) := (List.take_append_drop _ _).symm
    have h2 : parsOf x = (x.L.take j).map Bx.par ++ (x.L.drop j).map Bx.par := by unfold parsOf; rw [← List.map_append, List.take_append_drop]
    have h3 : allPars l = allPars (l.take (k + 1)) ++ allPars (l.drop (k + 1)) := by
      unfold allPars; rw [← List.flatMap_append, List.take_append_drop]
    rw [h3, allPars_succ hx, h2]; simp only [List.append_assoc]
  rw [e] at h
  exact dis_init h
theorem seen_zero : Seen Try.zeroCells91 (allPars ([] : List Cl)) := by
  have e : Try.zeroCells91 = Array.replicate 1000 (.bool false) := by kernel_rfl
  rw [e]
  refine ⟨by simp, fun n hn => ?_⟩
  rw [Array.getElem?_replicate, if_pos hn]
  simp [allPars]

set_option maxRecDepth 100000 in
set_option maxHeartbeats 1000000 in
theorem differ_any (w : World) (B : Nat) (A : Option Addr) (c : Nat) (l : List Cl) (hl : l.length ≤ maxLen) (hB : B ≤ w.heap.size) (hS : KL w B A l) (hV : ∀ x ∈ l, CV w B x) (hr : ∀ x ∈ l, ∀ b ∈ x.L, 0 ≤ b.par ∧ b.par ≤ 999) :
    Calls Try.prog 38 #[.slice A l.length c] w (Tells (Dis (allPars l)) w) := by
  have hl' := hl
  unfold maxLen at hl
  have HS := Lib.hid hS; clear hS
  have HV := Lib.hid hV; clear hV
  have HR := Lib.hid hr; clear hr
  go_enter Try.func38, Try.ntmps38
  go_wp2
  generalize hW0 : w.alloc (.cells Try.zeroCells91 91) = w0 at *
  have hb0 : Below w.heap.size w w0 := by rw [← hW0]; exact balloc _ _
  have hc : Has w0 w.heap.size 91 Try.zeroCells91 := by rw [← hW0]; exact has_new _ _ _
  clear hW0
  have HC := Lib.hid hc; clear hc
  go_loopw [10] (fun i wr => ∃ (k : Nat) (cs : Array Value), k ≤ l.length ∧ i = .int .i64 k ∧ Has wr w.heap.size 91 cs ∧ Seen cs (allPars (l.take k)) ∧ Dis (allPars (l.take k)) ∧ Below w.heap.size w wr) (fun i _ => l.length - (intOf i).toNat)
  case atStart => exact ⟨0, _, Nat.zero_le _, rfl, HC.out, by simpa using seen_zero, by simp [Dis, allPars], hb0⟩
  case round =>
    obtain ⟨k, cs, hk, rfl, hH, hse, hd, hb⟩ := hrel
    have HSE := Lib.hid hse; clear hse
    have HD := Lib.hid hd; clear hd
    have hsz := hb.size
    by_cases hlt : k < l.length
    · obtain ⟨b, off, x, rfl, hbB, hx, hc0, hc1, hc2⟩ := (HS.out.later hB hb).at_ hlt
      have hxm := List.mem_of_getElem? hx
      have hxv := HV.out x hxm
      have hxr := HR.out x hxm
      have hps := allPars_succ hx
      have hlb := hxv.lb
      have HXV := Lib.hid hxv; have HXR := Lib.hid hxr; have HPS := Lib.hid hps
      clear hxm hxv hxr hps
      obtain ⟨z, AF, F, cF, AB, L, cB⟩ := x
      dsimp only at hc0 hc1 hc2 hlb
      unfold maxLen at hlb
      have HX := Lib.hid hx; clear hx
      have hH' := Lib.hid hH
      have hbw : b < wr.heap.size := by omega
      have hsb : w.heap.size < wr.heap.size := has_lt hH
      clear hH
      go_wp2
      generalize hW1 : wr.alloc (.cells #[.int .i64 z, .slice AF F.length cF, .slice AB L.length cB] 57) = w1 at *
      have bx : Below wr.heap.size wr w1 := by rw [← hW1]; exact balloc _ _
      clear hW1
      have hH1 := has_call hH'.out bx
      have hb1 := bthen hb (bx.mono (Nat.le_refl _))
      have HH1 := Lib.hid hH1; clear hH1
      go_loopw [17] (fun i wi => ∃ (j : Nat) (cs : Array Value), j ≤ L.length ∧ i = .int .i64 j ∧ Has wi w.heap.size 91 cs ∧ Seen cs (allPars (l.take k) ++ (L.take j).map Bx.par) ∧ Dis (allPars (l.take k) ++ (L.take j).map Bx.par) ∧ Below w.heap.size w wi) (fun i _ => L.length - (intOf i).toNat)
      case atStart => exact ⟨0, cs, Nat.zero_le _, rfl, HH1.out, by simpa using HSE.out, by simpa using HD.out, hb1⟩
      case round =>
        obtain ⟨j, cs', hj, rfl, hHi, hsei, hdi, hbi⟩ := hrel
        have HDI := Lib.hid hdi; clear hdi
        have hszi := hbi.size
        by_cases hjl : j < L.length
        · obtain ⟨b2, off2, y, hAB, hb2B, hy, hd0, hd1, hd2, hd3⟩ := (HXV.out.b.later hB hbi).at_ hjl
          dsimp only at hAB
          subst hAB
          have hyr := HXR.out y (List.mem_of_getElem? hy)
          obtain ⟨y0, y1, y2, y3⟩ := y
          dsimp only at hd0 hd1 hd2 hd3 hyr
          obtain ⟨hy0, hy9⟩ := hyr
          obtain ⟨n, rfl⟩ := Int.eq_ofNat_of_zero_le hy0
          have hn : n < 1000 := by omega
          have hpn := pars_succ hy
          dsimp only at hpn
          have hcell := has_cell hHi n (hsei.2 n hn)
          have hfree := has_free hHi n
          have hsn := seen_snoc hsei n hn
          have hset := has_set hHi n (.bool (decide (0 < n)))
          have hdn := dis_snoc (allPars (l.take k) ++ (L.take j).map Bx.par) (n : Int)
          rw [List.append_assoc, ← hpn] at hsn hdn
          have HY := Lib.hid hy; clear hy
          have HSN := Lib.hid hsn; have HSET := Lib.hid hset; have HDN := Lib.hid hdn; have HPN := Lib.hid hpn
          clear hsn hset hdn hpn
          have hmem : (decide (0 < n) && (allPars (l.take k) ++ (L.take j).map Bx.par).contains (n : Int)) = true ↔ (0 < (n : Int) ∧ (n : Int) ∈ allPars (l.take k) ++ (L.take j).map Bx.par) := by simp
          generalize (decide (0 < n) && (allPars (l.take k) ++ (L.take j).map Bx.par).contains (n : Int)) = q at *
          have HM := Lib.hid hmem; clear hmem hsei
          have hbw2 : b2 < wr.heap.size := by omega
          have hsi : w.heap.size < wr.heap.size := has_lt hHi
          clear hHi
          cases q
          · go_wp2
            go_roundw
            case rel => exact ⟨j + 1, _, by omega, by go_num, has_alloc HSET.out _, HSN.out, HDN.out.2 ⟨HDI.out, fun h0 hm => by have := HM.out.2 ⟨h0, hm⟩; simp at this⟩, (hbi.setCell (Nat.le_refl _) _).alloc (by rw [size_set]; exact hbi.size) _⟩
            case measure => simp [intOf]; omega
          · go_wp2
            go_ret
            refine tells_no (fun g => ?_) (hbi.alloc hbi.size _)
            have := dis_part (HX.out) g (j + 1)
            dsimp only at this
            rw [HDN.out] at this
            exact this.2 (HM.out.1 (by trivial)).1 (HM.out.1 (by trivial)).2
        · have hjl' : j = L.length := by omega
          subst hjl'
          have hsf := hsei
          rw [List.take_length] at hsf
          have hps : allPars (l.take (k + 1)) = allPars (l.take k) ++ L.map Bx.par := HPS.out
          rw [← hps] at hsf
          have hdf := HDI.out
          rw [List.take_length, ← hps] at hdf
          have HSF := Lib.hid hsf; have HDF := Lib.hid hdf; clear hsf hdf hps hsei
          have HHI := Lib.hid hHi; clear hHi
          go_wp2
          go_roundw
          case rel => exact ⟨k + 1, cs', by omega, by go_num, HHI.out, HSF.out, HDF.out, hbi⟩
          case measure => simp [intOf]; omega
    · go_wp2
      go_ret
      have hkl : k = l.length := by omega
      subst hkl
      have := HD.out
      rw [List.take_length] at this
      exact tells_yes this hb
end Go.Proofs.Ythfpjfekemelaaa
namespace Go.Proofs.Ythfpjfekemelaaa
open Go.RowKit
set_option linter.unusedVariables false

theorem OR.setlow {w : World} {base : Nat} {e : TypeId} {A : Option Addr} {xs : List Value} (h : OR w base e A xs) {p : Addr} (hp : p.block < base) (v : Value) : OR (w.setCell p v) base e A xs :=
  h.kept fun g hg _ => Below.heap_setCell w p v g (by omega)

end Go.Proofs.Ythfpjfekemelaaa
namespace Go.Proofs.Ythfpjfekemelaaa
open Go.RowKit
set_option linter.unusedVariables false

/-- the row lies in a block of its own, at or behind lo and before hi -/
def OI (w : World) (lo hi : Nat) (e : TypeId) (A : Option Addr) (xs : List Value) : Prop :=
  xs = [] ∨ ∃ g cur, A = some ⟨g, 0, none⟩ ∧ lo ≤ g ∧ g < hi ∧ Has w g e cur ∧ ∀ (j : Nat) (u : Value), xs[j]? = some u → cur[j]? = some u
/-- outside of the range of blocks all is as it was -/
def Within (lo hi : Nat) (w w' : World) : Prop := Below 0 w w' ∧ ∀ k, k < w.heap.size → (k < lo ∨ hi ≤ k) → w'.heap[k]? = w.heap[k]?
section
variable {w w' w2 : World} {lo hi a b B base g : Nat} {e e' t : TypeId} {A A' : Option Addr} {xs ys : List Value} {cs : Array Value}
theorem OI.of_or (h : OR w lo e A xs) : OI w lo w.heap.size e A xs := by
  rcases h with h | ⟨g, cur, rfl, hb, hh, hc⟩
  · exact .inl h
  · exact .inr ⟨g, cur, rfl, hb, has_lt hh, hh, hc⟩
theorem OI.or_ (h : OI w lo hi e A xs) : OR w lo e A xs := by
  rcases h with h | ⟨g, cur, rfl, hb, _, hh, hc⟩
  · exact .inl h
  · exact .inr ⟨g, cur, rfl, hb, hh, hc⟩
theorem OI.il {l : List Int} (h : OI w lo hi e A (intV l)) : IL w w.heap.size A l := h.or_.il
theorem OI.xl {l : List Bx} (h : OI w lo hi e A (boxV l)) : XL w w.heap.size A l := h.or_.xl
theorem Within.of_below (h : Below w.heap.size w w') : Within lo hi w w' := ⟨⟨h.os, h.tape, h.output, h.size, fun k hk => absurd hk (by omega)⟩, fun k hk _ => h.block k hk⟩
theorem Within.size (h : Within lo hi w w') : w.heap.size ≤ w'.heap.size := h.1.size
theorem Within.below (h : Within lo hi w w') (hB : B ≤ lo) (hB' : B ≤ w.heap.size) : Below B w w' := ⟨h.1.os, h.1.tape, h.1.output, h.1.size, fun k hk => h.2 k (by omega) (.inl (by omega))⟩
theorem Within.trans (h : Within lo hi w w') (h' : Within lo hi w' w2) : Within lo hi w w2 := ⟨h.1.trans h'.1, fun k hk ho => (h'.2 k (by have := h.1.size; omega) ho).trans (h.2 k hk ho)⟩
theorem Within.has (h : Within lo hi w w') (hH : Has w g t cs) (ho : g < lo ∨ hi ≤ g) : Has w' g t cs := (h.2 g (has_lt hH) ho).trans hH
theorem Within.oi (h : Within lo hi w w') (hO : OI w a b e A xs) (ho : b ≤ lo ∨ hi ≤ a) : OI w' a b e A xs := by
  rcases hO with hO | ⟨g, cur, rfl, h1, h2, hh, hc⟩
  · exact .inl hO
  · exact .inr ⟨g, cur, rfl, h1, h2, h.has hh (by omega), hc⟩
theorem OI.call (h : OI w a b e A xs) (hb : Below w.heap.size w w') : OI w' a b e A xs := by
  rcases h with hO | ⟨g, cur, rfl, h1, h2, hh, hc⟩
  · exact .inl hO
  · exact .inr ⟨g, cur, rfl, h1, h2, has_call hh hb, hc⟩
theorem within_marks (h : OI w lo hi e A xs) (m : Marks w base e A xs w') : Within lo hi w w' := by
  rcases m with ⟨_, rfl⟩ | ⟨hne, g, cur, rfl, hb, hh, ho⟩
  · exact Within.of_below (Below.refl _ _)
  · rcases h with h | ⟨g', cur', e1, h1, h2, _, _⟩
    · exact absurd h hne
    · injection e1 with e1; injection e1 with e1; subst e1
      exact ⟨⟨ho.os, ho.tape, ho.output, ho.size, fun k hk => absurd hk (by omega)⟩, fun k hk hk' => ho.block k hk (fun e => by injection e; omega)⟩
theorem oi_marked (h : OI w lo hi e A xs) (h' : OR w' base e A ys) (hy : xs = [] → ys = []) : OI w' lo hi e A ys := by
  rcases h with h | ⟨g, cur, rfl, h1, h2, _, _⟩
  · exact .inl (hy h)
  · rcases h' with h' | ⟨g', cur', e1, _, hh, hc⟩
    · exact .inl h'
    · injection e1 with e1; injection e1 with e1; subst e1
      exact .inr ⟨g, cur', rfl, h1, h2, hh, hc⟩
theorem oi_other (h : OI w a b e A xs) (m : Marks w base e' A' ys w') (hne : e ≠ e') : OI w' a b e A xs := by
  rcases m with ⟨_, rfl⟩ | ⟨_, g', cur', rfl, hb', hh', ho⟩
  · exact h
  · rcases h with h | ⟨g, cur, rfl, h1, h2, hh, hc⟩
    · exact .inl h
    · have hgg : g ≠ g' := fun eq => by
        subst eq
        have := hh.symm.trans hh'
        injection this with this; injection this with _ this _
        exact hne this
      exact .inr ⟨g, cur, rfl, h1, h2, (ho.block g (has_lt hh) (fun eq => hgg (by injection eq))).trans hh, hc⟩
end
theorem intV_seq {l : List Int} {k : Int} (h : intV l = []) : intV (seqI k l.length) = [] := by rw [intV_nil h]; rfl
theorem boxV_seq {l : List Bx} {k : Int} (h : boxV l = []) : boxV (seqB k l.length) = [] := by rw [boxV_nil h]; rfl

end Go.Proofs.Ythfpjfekemelaaa
namespace Go.Proofs.Ythfpjfekemelaaa
open Go.RowKit
set_option linter.unusedVariables false


structure Gp where
  col : Int
  low : Int
  size : Int
/-- a slice of them reads as the list, below block B -/
def gpL (w : World) (B : Nat) (A : Option Addr) (l : List Gp) : Prop :=
  l = [] ∨ ∃ b off, A = some ⟨b, off, none⟩ ∧ b < B ∧ ∀ k x, l[k]? = some x → w.cell? ⟨b, off + k * 3, none⟩ = some (.int .i64 x.col) ∧ w.cell? ⟨b, off + k * 3 + 1, none⟩ = some (.int .i64 x.low) ∧ w.cell? ⟨b, off + k * 3 + 2, none⟩ = some (.int .i64 x.size)
theorem gpL.below {w w' : World} {B : Nat} {A : Option Addr} {l : List Gp} (h : gpL w B A l) (hb : Below B w w') : gpL w' B A l := by
  rcases h with h | ⟨b, off, rfl, hlt, hc⟩
  · exact .inl h
  · refine .inr ⟨b, off, rfl, hlt, fun k x hx => ?_⟩
    have := hc k x hx
    exact ⟨(hb.cell (p := ⟨b, off + k * 3, none⟩) hlt).trans this.1, (hb.cell (p := ⟨b, off + k * 3 + 1, none⟩) hlt).trans this.2.1, (hb.cell (p := ⟨b, off + k * 3 + 2, none⟩) hlt).trans this.2.2⟩
theorem gpL.at_ {w : World} {B : Nat} {A : Option Addr} {l : List Gp} (h : gpL w B A l) {k : Nat} (hk : k < l.length) :
    ∃ b off x, A = some ⟨b, off, none⟩ ∧ b < B ∧ l[k]? = some x ∧ w.cell? ⟨b, off + k * 3, none⟩ = some (.int .i64 x.col) ∧ w.cell? ⟨b, off + k * 3 + 1, none⟩ = some (.int .i64 x.low) ∧ w.cell? ⟨b, off + k * 3 + 2, none⟩ = some (.int .i64 x.size) := by
  rcases h with h | ⟨b, off, rfl, hlt, hc⟩
  · subst h; simp at hk
  · exact ⟨b, off, _, rfl, hlt, List.getElem?_eq_getElem hk, hc k _ (List.getElem?_eq_getElem hk)⟩
theorem gpL.later {w w' : World} {B : Nat} {A : Option Addr} {l : List Gp} (h : gpL w B A l) (hB : B ≤ w.heap.size) (hb : Below w.heap.size w w') : gpL w' B A l := h.below (hb.mono hB)
theorem gpL.more {w : World} {B B' : Nat} {A : Option Addr} {l : List Gp} (h : gpL w B A l) (hB : B ≤ B') : gpL w B' A l := by
  rcases h with h | ⟨b, off, rfl, hlt, hc⟩
  · exact .inl h
  · exact .inr ⟨b, off, rfl, by omega, hc⟩
def gpC (x : Gp) : List Value := [.int .i64 x.col, .int .i64 x.low, .int .i64 x.size]
def gpV (l : List Gp) : List Value := l.flatMap gpC
theorem gpV_len (l : List Gp) : (gpV l).length = 3 * l.length := by
  induction l with
  | nil => rfl
  | cons a r ih => simp [gpV, gpC] at ih ⊢; omega
theorem gpV_app (l r : List Gp) : gpV (l ++ r) = gpV l ++ gpV r := by simp [gpV]
theorem gpV_one (x : Gp) : gpV [x] = [.int .i64 x.col, .int .i64 x.low, .int .i64 x.size] := rfl
theorem gpV_at : ∀ {l : List Gp} {k : Nat} {x : Gp}, l[k]? = some x → (gpV l)[k * 3]? = some (.int .i64 x.col) ∧ (gpV l)[k * 3 + 1]? = some (.int .i64 x.low) ∧ (gpV l)[k * 3 + 2]? = some (.int .i64 x.size)
  | [], k, u, h => by simp at h
  | a :: r, 0, u, h => by
    simp at h; subst h
    exact ⟨rfl, rfl, rfl⟩
  | a :: r, k + 1, u, h => by
    have ih := gpV_at (l := r) (k := k) (x := u) (by simpa using h)
    have e : gpV (a :: r) = .int .i64 a.col :: .int .i64 a.low :: .int .i64 a.size :: gpV r := rfl
    rw [e, show (k + 1) * 3 = k * 3 + 1 + 1 + 1 by omega]
    exact ⟨by simpa using ih.1, by simpa using ih.2.1, by simpa using ih.2.2⟩
theorem gpV_nil {l : List Gp} (h : gpV l = []) : l = [] := by
  have := congrArg List.length h
  rw [gpV_len] at this
  exact List.eq_nil_of_length_eq_zero (by simp only [List.length_nil] at this; omega)
theorem OR.gp {w : World} {base : Nat} {e : TypeId} {A : Option Addr} {l : List Gp} (h : OR w base e A (gpV l)) : gpL w w.heap.size A l := by
  rcases h with h | ⟨g, cur, rfl, hb, hh, hc⟩
  · exact .inl (gpV_nil h)
  · refine .inr ⟨g, 0, rfl, has_lt hh, fun k x hx => ?_⟩
    have := gpV_at hx
    rw [Nat.zero_add]
    exact ⟨has_cell hh _ (hc _ _ this.1), has_cell hh _ (hc _ _ this.2.1), has_cell hh _ (hc _ _ this.2.2)⟩
theorem OI.gp {w : World} {lo hi : Nat} {e : TypeId} {A : Option Addr} {l : List Gp} (h : OI w lo hi e A (gpV l)) : gpL w w.heap.size A l := h.or_.gp
theorem gpV_of {l : List Gp} {cs : Array Value} (h : ∀ j x, j < l.length → l[j]? = some x → cs[j * 3]? = some (.int .i64 x.col) ∧ cs[j * 3 + 1]? = some (.int .i64 x.low) ∧ cs[j * 3 + 2]? = some (.int .i64 x.size)) : ∀ (j : Nat) (u : Value), (gpV l)[j]? = some u → cs[j]? = some u := by
  intro j u hu
  have hj : j < 3 * l.length := by have := (List.getElem?_eq_some_iff.1 hu).1; rwa [gpV_len] at this
  obtain ⟨q, r, rfl, hr⟩ : ∃ q r, j = q * 3 + r ∧ r < 3 := ⟨j / 3, j % 3, by omega, by omega⟩
  have hq : q < l.length := by omega
  have hx := List.getElem?_eq_getElem hq
  have h1 := gpV_at hx
  have h2 := h q _ hq hx
  rcases r with _ | _ | _ | r
  · rw [Nat.add_zero] at hu ⊢; rw [h1.1] at hu; rw [h2.1]; exact hu
  · rw [h1.2.1] at hu; rw [h2.2.1]; exact hu
  · rw [h1.2.2] at hu; rw [h2.2.2]; exact hu
  · omega
def seqgp (k : Int) (m : Nat) : List Gp := (List.range m).map fun (j : Nat) => ⟨k + 3 * (j : Int), k + 3 * (j : Int) + 1, k + 3 * (j : Int) + 1 + 1⟩
theorem seqgp_len (k : Int) (m : Nat) : (seqgp k m).length = m := by simp [seqgp]
theorem seqgp_at {k : Int} {m j : Nat} (h : j < m) : (seqgp k m)[j]? = some ⟨k + 3 * (j : Int), k + 3 * (j : Int) + 1, k + 3 * (j : Int) + 1 + 1⟩ := by simp [seqgp, h]
theorem gpV_seq {l : List Gp} {k : Int} (h : gpV l = []) : gpV (seqgp k l.length) = [] := by rw [gpV_nil h]; rfl

theorem gpInfo : (Try.prog.info? 28).map (fun i => (i.zero, i.size, i.bytes)) = some (some (.agg #[.int .i64 0, .int .i64 0, .int .i64 0]), 3, 24) := by kernel_rfl

/-- block g holds the first k of the list, and has room for all of them -/
structure Copiedgp (w : World) (g : Nat) (cs : Array Value) (l : List Gp) (k : Nat) : Prop where
  heap : Has w g 28 cs
  size : l.length * 3 ≤ cs.size
  got : ∀ j x, j < k → l[j]? = some x → cs[j * 3]? = some (.int .i64 x.col) ∧ cs[j * 3 + 1]? = some (.int .i64 x.low) ∧ cs[j * 3 + 2]? = some (.int .i64 x.size)
theorem Copiedgp.below {w w' : World} {g : Nat} {cs : Array Value} {l : List Gp} {k : Nat} (h : Copiedgp w g cs l k) (hb : Below w.heap.size w w') : Copiedgp w' g cs l k := ⟨has_call h.heap hb, h.size, h.got⟩
theorem Copiedgp.cellAt {w : World} {g : Nat} {cs : Array Value} {l : List Gp} {k j : Nat} (h : Copiedgp w g cs l k) (hj : j < l.length * 3) : ∃ u, w.cell? ⟨g, j, none⟩ = some u :=
  ⟨cs[j]'(Nat.lt_of_lt_of_le hj h.size), has_cell h.heap j (Array.getElem?_eq_getElem _)⟩
theorem Copiedgp.step {w : World} {g : Nat} {cs : Array Value} {l : List Gp} {k : Nat} (h : Copiedgp w g cs l k) {x : Gp} (hx : l[k]? = some x) :
    Copiedgp (((w.setCell ⟨g, k * 3, none⟩ (.int .i64 x.col)).setCell ⟨g, k * 3 + 1, none⟩ (.int .i64 x.low)).setCell ⟨g, k * 3 + 2, none⟩ (.int .i64 x.size)) g (((cs.setIfInBounds (k * 3) (.int .i64 x.col)).setIfInBounds (k * 3 + 1) (.int .i64 x.low)).setIfInBounds (k * 3 + 2) (.int .i64 x.size)) l (k + 1) := by
  have hlt : k < l.length := (List.getElem?_eq_some_iff.1 hx).1
  have hsz := h.size
  refine ⟨(has_set (has_set (has_set h.heap _ _) _ _) _ _), by simpa using h.size, fun j y hj hy => ?_⟩
  by_cases hjk : j = k
  · subst hjk
    obtain rfl : x = y := by rw [hx] at hy; injection hy
    simp only [Array.getElem?_setIfInBounds, Array.size_setIfInBounds]
    refine ⟨?_, ?_, ?_⟩
    · rw [if_neg (by omega), if_neg (by omega), if_pos trivial, if_pos (by omega)]
    · rw [if_neg (by omega), if_pos trivial, if_pos (by omega)]
    · rw [if_pos trivial, if_pos (by omega)]
  · have := h.got j y (by omega) hy
    simp only [Array.getElem?_setIfInBounds]
    refine ⟨?_, ?_, ?_⟩
    all_goals rw [if_neg (by omega), if_neg (by omega), if_neg (by omega)]
    · exact this.1
    · exact this.2.1
    · exact this.2.2
theorem Copiedgp.put {w : World} {g : Nat} {cs : Array Value} {l : List Gp} {k : Nat} (h : Copiedgp w g cs l l.length) (hk : k < l.length) (x : Gp) :
    Copiedgp (((w.setCell ⟨g, k * 3, none⟩ (.int .i64 x.col)).setCell ⟨g, k * 3 + 1, none⟩ (.int .i64 x.low)).setCell ⟨g, k * 3 + 2, none⟩ (.int .i64 x.size)) g (((cs.setIfInBounds (k * 3) (.int .i64 x.col)).setIfInBounds (k * 3 + 1) (.int .i64 x.low)).setIfInBounds (k * 3 + 2) (.int .i64 x.size)) (l.set k x) (l.set k x).length := by
  have hsz := h.size
  refine ⟨(has_set (has_set (has_set h.heap _ _) _ _) _ _), by simpa using h.size, fun j y hj hy => ?_⟩
  rw [List.length_set] at hj
  by_cases hjk : j = k
  · subst hjk
    rw [List.getElem?_set_self hk] at hy
    obtain rfl : x = y := by injection hy
    simp only [Array.getElem?_setIfInBounds, Array.size_setIfInBounds]
    refine ⟨?_, ?_, ?_⟩
    · rw [if_neg (by omega), if_neg (by omega), if_pos trivial, if_pos (by omega)]
    · rw [if_neg (by omega), if_pos trivial, if_pos (by omega)]
    · rw [if_pos trivial, if_pos (by omega)]
  · rw [List.getElem?_set_ne (fun e => hjk e.symm)] at hy
    have := h.got j y hj hy
    simp only [Array.getElem?_setIfInBounds]
    refine ⟨?_, ?_, ?_⟩
    all_goals rw [if_neg (by omega), if_neg (by omega), if_neg (by omega)]
    · exact this.1
    · exact this.2.1
    · exact this.2.2
theorem Copiedgp.row {w : World} {g base : Nat} {cs : Array Value} {l : List Gp} (h : Copiedgp w g cs l l.length) (hb : base ≤ g) : OR w base 28 (some ⟨g, 0, none⟩) (gpV l) :=
  .inr ⟨g, cs, rfl, hb, h.heap, gpV_of h.got⟩

theorem makegp_run (m : Nat) (hm : m ≤ 1048576) : ∀ W : World, (Instr.makeSlice 35 (.int .i64 (m : Int)) (.int .i64 (m : Int))).run Try.prog W = .ok (.slice (some ⟨W.heap.size, 0, none⟩) m m) (W.alloc (.cells (madeCells #[.int .i64 0, .int .i64 0, .int .i64 0] (m * 3)) 28)) := by
  intro W
  obtain ⟨i, hi, hz0, hz1, hz2⟩ := info_parts gpInfo
  have := run_make (P := Try.prog) W 35 28 i _ Try.underlying35 hi hz0 .i64 .i64 (m : Int) (m : Int) (by omega) (by omega) (by rw [hz2]; omega) (by omega)
  simpa [hz1, Value.cells] using this

end Go.Proofs.Ythfpjfekemelaaa
namespace Go.Proofs.Ythfpjfekemelaaa
open Go.RowKit
set_option linter.unusedVariables false

/-- a box that can belong to a gap -/
def opn (x : Bx) : Bool := x.par == 0 && !x.jam
/-- the gaps of boxes, the one that is being gathered first -/
def gapsC (F : List Int) (c : Int) : Option Gp → List Bx → List Gp
  | cur, [] => cur.toList
  | cur, x :: r =>
    if opn x then
      match cur with
      | none => gapsC F c (some ⟨c, x.low, x.size⟩) r
      | some g => if F.contains x.low then g :: gapsC F c (some ⟨c, x.low, x.size⟩) r else gapsC F c (some ⟨g.col, g.low, g.size + x.size⟩) r
    else cur.toList ++ gapsC F c none r
def gapsL (F : List Int) (c : Int) (L : List Bx) : List Gp := gapsC F c none L
theorem gapsC_shut {F : List Int} {c : Int} {cur : Option Gp} {x : Bx} {r : List Bx} (h : opn x = false) : gapsC F c cur (x :: r) = cur.toList ++ gapsC F c none r := by
  cases cur <;> simp [gapsC, h]
theorem gapsC_new {F : List Int} {c : Int} {x : Bx} {r : List Bx} (h : opn x = true) : gapsC F c none (x :: r) = gapsC F c (some ⟨c, x.low, x.size⟩) r := by
  conv => lhs; unfold gapsC
  simp [h]
theorem gapsC_wall {F : List Int} {c : Int} {g : Gp} {x : Bx} {r : List Bx} (h : opn x = true) (hw : F.contains x.low = true) : gapsC F c (some g) (x :: r) = g :: gapsC F c (some ⟨c, x.low, x.size⟩) r := by
  conv => lhs; unfold gapsC
  simp only [h, hw, if_true]
theorem gapsC_more {F : List Int} {c : Int} {g : Gp} {x : Bx} {r : List Bx} (h : opn x = true) (hw : F.contains x.low = false) : gapsC F c (some g) (x :: r) = gapsC F c (some ⟨g.col, g.low, g.size + x.size⟩) r := by
  conv => lhs; unfold gapsC
  simp only [h, hw, if_true, Bool.false_eq_true, if_false]
theorem gapsC_len (F : List Int) (c : Int) : ∀ (L : List Bx) (cur : Option Gp), (gapsC F c cur L).length ≤ cur.toList.length + L.length
  | [], cur => by simp [gapsC]
  | x :: r, cur => by
    by_cases h : opn x = true
    · rcases cur with _ | g
      · rw [gapsC_new h]; have := gapsC_len F c r (some ⟨c, x.low, x.size⟩); simp at this ⊢; omega
      · by_cases hw : F.contains x.low = true
        · rw [gapsC_wall h hw]; have := gapsC_len F c r (some ⟨c, x.low, x.size⟩); simp at this ⊢; omega
        · rw [gapsC_more h (by simpa using hw)]; have := gapsC_len F c r (some ⟨g.col, g.low, g.size + x.size⟩); simp at this ⊢; omega
    · rw [gapsC_shut (by simpa using h)]; have := gapsC_len F c r none; simp at this ⊢; omega
theorem gapsL_len (F : List Int) (c : Int) (L : List Bx) : (gapsL F c L).length ≤ L.length := by have := gapsC_len F c L none; simpa [gapsL] using this
/-- a box that goes on with the gap below it -/
def goOn (F : List Int) (x : Bx) : Bool := opn x && !F.contains x.low
/-- the sum of the sizes of the boxes that go on with a gap, and how many there are -/
def runZ (F : List Int) : List Bx → Int
  | [] => 0
  | x :: r => if goOn F x then x.size + runZ F r else 0
def runN (F : List Int) : List Bx → Nat
  | [] => 0
  | x :: r => if goOn F x then runN F r + 1 else 0
theorem runN_le (F : List Int) : ∀ (L : List Bx), runN F L ≤ L.length
  | [] => Nat.le_refl _
  | x :: r => by unfold runN; split; have := runN_le F r; simp; omega; exact Nat.zero_le _
/-- behind the boxes that go on with it a gap is done -/
theorem gapsC_run (F : List Int) (c : Int) : ∀ (L : List Bx) (g : Gp), gapsC F c (some g) L = ⟨g.col, g.low, g.size + runZ F L⟩ :: gapsC F c none (L.drop (runN F L))
  | [], g => by simp [gapsC, runZ, runN]
  | x :: r, g => by
    unfold runZ runN
    by_cases h : opn x = true
    · by_cases hw : F.contains x.low = true
      · have : goOn F x = false := by simp only [goOn, h, hw, Bool.not_true, Bool.and_false]
        rw [gapsC_wall h hw, if_neg (by simp [this]), if_neg (by simp [this]), List.drop_zero, gapsC_new h, Int.add_zero]
      · have hw' : F.contains x.low = false := by simpa using hw
        have : goOn F x = true := by simp only [goOn, h, hw', Bool.not_false, Bool.and_true]
        rw [gapsC_more h hw', gapsC_run F c r, if_pos this, if_pos this, List.drop_succ_cons]
        simp only [Int.add_assoc]
    · have h' : opn x = false := by simpa using h
      have : goOn F x = false := by simp [goOn, h']
      rw [gapsC_shut h', if_neg (by simp [this]), if_neg (by simp [this]), List.drop_zero, gapsC_shut h', Int.add_zero]
      simp
/-- a gap, from its lowest box on -/
theorem gapsL_open {F : List Int} {c : Int} {x : Bx} {r : List Bx} (h : opn x = true) : gapsL F c (x :: r) = ⟨c, x.low, x.size + runZ F r⟩ :: gapsL F c (r.drop (runN F r)) := by
  unfold gapsL; rw [gapsC_new h, gapsC_run]
theorem gapsL_shut {F : List Int} {c : Int} {x : Bx} {r : List Bx} (h : opn x = false) : gapsL F c (x :: r) = gapsL F c r := by
  unfold gapsL; rw [gapsC_shut h]; rfl
def sumZ (L : List Bx) : Int := (L.map Bx.size).sum
theorem sumZ_cons (x : Bx) (r : List Bx) : sumZ (x :: r) = x.size + sumZ r := by simp [sumZ]
theorem sumZ_pos {L : List Bx} (h : ∀ x ∈ L, 1 ≤ x.size) : 0 ≤ sumZ L := by
  induction L with
  | nil => simp [sumZ]
  | cons x r ih => rw [sumZ_cons]; have := h x List.mem_cons_self; have := ih fun y hy => h y (List.mem_cons_of_mem _ hy); omega
theorem runZ_go {F : List Int} {x : Bx} {r : List Bx} (h : goOn F x = true) : runZ F (x :: r) = x.size + runZ F r ∧ runN F (x :: r) = runN F r + 1 := by
  simp [runZ, runN, h]
theorem runZ_no {F : List Int} {x : Bx} {r : List Bx} (h : goOn F x = false) : runZ F (x :: r) = 0 ∧ runN F (x :: r) = 0 := by
  simp [runZ, runN, h]
/-- the first gap of the least size that is enough: from index k on, the best so far -/
def leastG (size : Int) : List Gp → Nat → Option (Nat × Int) → Option (Nat × Int)
  | [], _, b => b
  | g :: r, k, b => leastG size r (k + 1) (if size ≤ g.size ∧ (∀ y, b = some y → g.size < y.2) then some (k, g.size) else b)
def leastI (size : Int) (l : List Gp) : Int := match leastG size l 0 none with | none => -1 | some y => (y.1 : Int)
/-- the best one stands in the list -/
theorem leastG_at (size : Int) (l : List Gp) : ∀ (r : List Gp) (k : Nat) (b : Option (Nat × Int)), l.drop k = r → (∀ y, b = some y → ∃ g, l[y.1]? = some g ∧ g.size = y.2) → ∀ y, leastG size r k b = some y → ∃ g, l[y.1]? = some g ∧ g.size = y.2
  | [], k, b, _, hb, y, hy => hb y hy
  | g :: r, k, b, hd, hb, y, hy => by
    have hg : l[k]? = some g := by
      have := congrArg (fun z => z[0]?) hd
      simpa using this
    refine leastG_at size l r (k + 1) _ ?_ ?_ y hy
    · have := congrArg (fun z => z.drop 1) hd
      simpa using this
    · intro z hz
      split at hz
      · injection hz with hz; subst hz; exact ⟨g, hg, rfl⟩
      · exact hb z hz
theorem leastI_at {size : Int} {l : List Gp} : leastI size l = -1 ∨ ∃ (k : Nat) (g : Gp), leastI size l = (k : Int) ∧ l[k]? = some g := by
  unfold leastI
  have h := leastG_at size l l 0 none (by simp) (fun y hy => by cases hy)
  cases e : leastG size l 0 none with
  | none => exact .inl rfl
  | some y => obtain ⟨g, hg, _⟩ := h y e; exact .inr ⟨y.1, g, rfl, hg⟩
end Go.Proofs.Ythfpjfekemelaaa
