/- Chapter 2: contract of the program's parcelsDiffer. -/
import Derived.Test.YthmoonjceokijaaColQ
import Derived.Deep.RegionHeld3
namespace Go.Proofs.Ythmoonjceokijaa
open Go.RowKit
set_option linter.unusedVariables false

/-- a column as a value: its height, its slices and what they read as -/
structure Cl where
  z : Int
  AF : Option Addr
  F : List Int
  cF : Nat
  AB : Option Addr
  L : List Bx
  cB : Nat
def Cl.val (x : Cl) : Value := .agg #[.int .i64 x.z, .slice x.AF x.F.length x.cF, .slice x.AB x.L.length x.cB]
/-- what its slices read as, below block B -/
structure CV (w : World) (B : Nat) (x : Cl) : Prop where
  f : IL w B x.AF x.F
  b : XL w B x.AB x.L
  lf : x.F.length ≤ maxLen
  lb : x.L.length ≤ maxLen
theorem CV.later {w w' : World} {B : Nat} {x : Cl} (h : CV w B x) (hB : B ≤ w.heap.size) (hb : Below w.heap.size w w') : CV w' B x := ⟨h.f.later hB hb, h.b.later hB hb, h.lf, h.lb⟩
theorem CV.more {w : World} {B B' : Nat} {x : Cl} (h : CV w B x) (hB : B ≤ B') : CV w B' x := ⟨h.f.more hB, h.b.more hB, h.lf, h.lb⟩
/-- a slice of columns reads as the list, below block B -/
def KL (w : World) (B : Nat) (A : Option Addr) (l : List Cl) : Prop :=
  l = [] ∨ ∃ b off, A = some ⟨b, off, none⟩ ∧ b < B ∧ ∀ k x, l[k]? = some x → w.cell? ⟨b, off + k * 3, none⟩ = some (.int .i64 x.z) ∧ w.cell? ⟨b, off + k * 3 + 1, none⟩ = some (.slice x.AF x.F.length x.cF) ∧ w.cell? ⟨b, off + k * 3 + 2, none⟩ = some (.slice x.AB x.L.length x.cB)
theorem KL.below {w w' : World} {B : Nat} {A : Option Addr} {l : List Cl} (h : KL w B A l) (hb : Below B w w') : KL w' B A l := by
  rcases h with h | ⟨b, off, rfl, hlt, hc⟩
  · exact .inl h
  · refine .inr ⟨b, off, rfl, hlt, fun k x hx => ?_⟩
    have := hc k x hx
    exact ⟨(hb.cell (p := ⟨b, off + k * 3, none⟩) hlt).trans this.1, (hb.cell (p := ⟨b, off + k * 3 + 1, none⟩) hlt).trans this.2.1, (hb.cell (p := ⟨b, off + k * 3 + 2, none⟩) hlt).trans this.2.2⟩
theorem KL.later {w w' : World} {B : Nat} {A : Option Addr} {l : List Cl} (h : KL w B A l) (hB : B ≤ w.heap.size) (hb : Below w.heap.size w w') : KL w' B A l := h.below (hb.mono hB)
theorem KL.at_ {w : World} {B : Nat} {A : Option Addr} {l : List Cl} (h : KL w B A l) {k : Nat} (hk : k < l.length) :
    ∃ b off x, A = some ⟨b, off, none⟩ ∧ b < B ∧ l[k]? = some x ∧ w.cell? ⟨b, off + k * 3, none⟩ = some (.int .i64 x.z) ∧ w.cell? ⟨b, off + k * 3 + 1, none⟩ = some (.slice x.AF x.F.length x.cF) ∧ w.cell? ⟨b, off + k * 3 + 2, none⟩ = some (.slice x.AB x.L.length x.cB) := by
  rcases h with h | ⟨b, off, rfl, hlt, hc⟩
  · subst h; simp at hk
  · exact ⟨b, off, _, rfl, hlt, List.getElem?_eq_getElem hk, hc k _ (List.getElem?_eq_getElem hk)⟩
def parsOf (x : Cl) : List Int := x.L.map Bx.par
def allPars (l : List Cl) : List Int := l.flatMap parsOf
theorem allPars_succ {l : List Cl} {k : Nat} {x : Cl} (h : l[k]? = some x) : allPars (l.take (k + 1)) = allPars (l.take k) ++ parsOf x := by
  unfold allPars; rw [List.take_add_one, h]; simp
/-- the cells tell which parcels above 0 are in the list -/
def Seen (cs : Array Value) (P : List Int) : Prop := cs.size = 1000 ∧ ∀ n : Nat, n < 1000 → cs[n]? = some (.bool (decide (0 < n) && P.contains (n : Int)))
theorem seen_snoc {cs : Array Value} {P : List Int} (h : Seen cs P) (n : Nat) (hn : n < 1000) : Seen (cs.setIfInBounds n (.bool (decide (0 < n)))) (P ++ [(n : Int)]) := by
  refine ⟨by simp [h.1], fun m hm => ?_⟩
  rw [Array.getElem?_setIfInBounds]
  by_cases e : n = m
  · subst e
    rw [if_pos rfl, if_pos (by rw [h.1]; exact hn)]
    by_cases h0 : 0 < n
    · simp [h0]
    · have : n = 0 := by omega
      subst this; simp
  · rw [if_neg e, h.2 m hm]
    have : ((m : Int) == (n : Int)) = false := by simp; omega
    have hne : ¬ ((m : Int) = (n : Int)) := by omega
    simp [hne]

theorem dis_part {l : List Cl} {k : Nat} {x : Cl} (hx : l[k]? = some x) (h : Dis (allPars l)) (j : Nat) : Dis (allPars (l.take k) ++ (x.L.take j).map Bx.par) := by
  have e : allPars l = (allPars (l.take k) ++ (x.L.take j).map Bx.par) ++ ((x.L.drop j).map Bx.par ++ allPars (l.drop (k + 1))) := by
    have h1 : l = l.take (k + 1) ++ l.drop (k + 1) := (List.take_append_drop _ _).symm
    have h2 : parsOf x = (x.L.take j).map Bx.par ++ (x.L.drop j).map Bx.par := by unfold parsOf; rw [← List.map_append, List.take_append_drop]
    have h3 : allPars l = allPars (l.take (k + 1)) ++ allPars (l.drop (k + 1)) := by
      unfold allPars; rw [← List.flatMap_append, List.take_append_drop]
    rw [h3, allPars_succ hx, h2]; simp only [List.append_assoc]
  rw [e] at h
  exact dis_init h
theorem seen_zero : Seen Try.zeroCells83 (allPars ([] : List Cl)) := by
  have e : Try.zeroCells83 = Array.replicate 1000 (.bool false) := by kernel_rfl
  rw [e]
  refine ⟨by simp, fun n hn => ?_⟩
  rw [Array.getElem?_replicate, if_pos hn]
  simp [allPars]

set_option maxRecDepth 100000 in
set_option maxHeartbeats 1000000 in
theorem differ_any (w : World) (B : Nat) (A : Option Addr) (c : Nat) (l : List Cl) (hl : l.length ≤ maxLen) (hB : B ≤ w.heap.size) (hS : KL w B A l) (hV : ∀ x ∈ l, CV w B x) (hr : ∀ x ∈ l, ∀ b ∈ x.L, 0 ≤ b.par ∧ b.par ≤ 999) :
    Calls Try.prog 39 #[.slice A l.length c] w (Tells (Dis (allPars l)) w) := by
  have hl' := hl
  unfold maxLen at hl
  have HS := Lib.hid hS; clear hS
  have HV := Lib.hid hV; clear hV
  have HR := Lib.hid hr; clear hr
  go_enter Try.func39, Try.ntmps39
  go_wp2
  generalize hW0 : w.alloc (.cells Try.zeroCells83 83) = w0 at *
  have hb0 : Below w.heap.size w w0 := by rw [← hW0]; exact balloc _ _
  have hc : Has w0 w.heap.size 83 Try.zeroCells83 := by rw [← hW0]; exact has_new _ _ _
  clear hW0
  have HC := Lib.hid hc; clear hc
  go_loopw [10] (fun i wr => ∃ (k : Nat) (cs : Array Value), k ≤ l.length ∧ i = .int .i64 k ∧ Has wr w.heap.size 83 cs ∧ Seen cs (allPars (l.take k)) ∧ Dis (allPars (l.take k)) ∧ Below w.heap.size w wr) (fun i _ => l.length - (intOf i).toNat)
  case atStart => exact ⟨0, _, Nat.zero_le _, rfl, HC.out, by simpa using seen_zero, by simp [Dis, allPars], hb0⟩
  case round =>
    obtain ⟨k, cs, hk, rfl, hH, hse, hd, hb⟩ := hrel
    have HSE := Lib.hid hse; clear hse
    have HD := Lib.hid hd; clear hd
    have hsz := hb.size
    by_cases hlt : k < l.length
    · obtain ⟨b, off, x, rfl, hbB, hx, hc0, hc1, hc2⟩ := (HS.out.later hB hb).at_ hlt
      have hxm := List.mem_of_getElem? hx
      have hxv := HV.out x hxm
      have hxr := HR.out x hxm
      have hps := allPars_succ hx
      have hlb := hxv.lb
      have HXV := Lib.hid hxv; have HXR := Lib.hid hxr; have HPS := Lib.hid hps
      clear hxm hxv hxr hps
      obtain ⟨z, AF, F, cF, AB, L, cB⟩ := x
      dsimp only at hc0 hc1 hc2 hlb
      unfold maxLen at hlb
      have HX := Lib.hid hx; clear hx
      have hH' := Lib.hid hH
      have hbw : b < wr.heap.size := by omega
      have hsb : w.heap.size < wr.heap.size := has_lt hH
      clear hH
      go_wp2
      generalize hW1 : wr.alloc (.cells #[.int .i64 z, .slice AF F.length cF, .slice AB L.length cB] 27) = w1 at *
      have bx : Below wr.heap.size wr w1 := by rw [← hW1]; exact balloc _ _
      clear hW1
      have hH1 := has_call hH'.out bx
      have hb1 := bthen hb (bx.mono (Nat.le_refl _))
      have HH1 := Lib.hid hH1; clear hH1
      go_loopw [17] (fun i wi => ∃ (j : Nat) (cs : Array Value), j ≤ L.length ∧ i = .int .i64 j ∧ Has wi w.heap.size 83 cs ∧ Seen cs (allPars (l.take k) ++ (L.take j).map Bx.par) ∧ Dis (allPars (l.take k) ++ (L.take j).map Bx.par) ∧ Below w.heap.size w wi) (fun i _ => L.length - (intOf i).toNat)
      case atStart => exact ⟨0, cs, Nat.zero_le _, rfl, HH1.out, by simpa using HSE.out, by simpa using HD.out, hb1⟩
      case round =>
        obtain ⟨j, cs', hj, rfl, hHi, hsei, hdi, hbi⟩ := hrel
        have HDI := Lib.hid hdi; clear hdi
        have hszi := hbi.size
        by_cases hjl : j < L.length
        · obtain ⟨b2, off2, y, hAB, hb2B, hy, hd0, hd1, hd2, hd3⟩ := (HXV.out.b.later hB hbi).at_ hjl
          dsimp only at hAB
          subst hAB
          have hyr := HXR.out y (List.mem_of_getElem? hy)
          obtain ⟨y0, y1, y2, y3⟩ := y
          dsimp only at hd0 hd1 hd2 hd3 hyr
          obtain ⟨hy0, hy9⟩ := hyr
          obtain ⟨n, rfl⟩ := Int.eq_ofNat_of_zero_le hy0
          have hn : n < 1000 := by omega
          have hpn := pars_succ hy
          dsimp only at hpn
          have hcell := has_cell hHi n (hsei.2 n hn)
          have hfree := has_free hHi n
          have hsn := seen_snoc hsei n hn
          have hset := has_set hHi n (.bool (decide (0 < n)))
          have hdn := dis_snoc (allPars (l.take k) ++ (L.take j).map Bx.par) (n : Int)
          rw [List.append_assoc, ← hpn] at hsn hdn
          have HY := Lib.hid hy; clear hy
          have HSN := Lib.hid hsn; have HSET := Lib.hid hset; have HDN := Lib.hid hdn; have HPN := Lib.hid hpn
          clear hsn hset hdn hpn
          have hmem : (decide (0 < n) && (allPars (l.take k) ++ (L.take j).map Bx.par).contains (n : Int)) = true ↔ (0 < (n : Int) ∧ (n : Int) ∈ allPars (l.take k) ++ (L.take j).map Bx.par) := by simp
          generalize (decide (0 < n) && (allPars (l.take k) ++ (L.take j).map Bx.par).contains (n : Int)) = q at *
          have HM := Lib.hid hmem; clear hmem hsei
          have hbw2 : b2 < wr.heap.size := by omega
          have hsi : w.heap.size < wr.heap.size := has_lt hHi
          clear hHi
          cases q
          · go_wp2
            go_roundw
            case rel => exact ⟨j + 1, _, by omega, by go_num, has_alloc HSET.out _, HSN.out, HDN.out.2 ⟨HDI.out, fun h0 hm => by have := HM.out.2 ⟨h0, hm⟩; simp at this⟩, (hbi.setCell (Nat.le_refl _) _).alloc (by rw [size_set]; exact hbi.size) _⟩
            case measure => simp [intOf]; omega
          · go_wp2
            go_ret
            refine tells_no (fun g => ?_) (hbi.alloc hbi.size _)
            have := dis_part (HX.out) g (j + 1)
            dsimp only at this
            rw [HDN.out] at this
            exact this.2 (HM.out.1 (by trivial)).1 (HM.out.1 (by trivial)).2
        · have hjl' : j = L.length := by omega
          subst hjl'
          have hsf := hsei
          rw [List.take_length] at hsf
          have hps : allPars (l.take (k + 1)) = allPars (l.take k) ++ L.map Bx.par := HPS.out
          rw [← hps] at hsf
          have hdf := HDI.out
          rw [List.take_length, ← hps] at hdf
          have HSF := Lib.hid hsf; have HDF := Lib.hid hdf; clear hsf hdf hps hsei
          have HHI := Lib.hid hHi; clear hHi
          go_wp2
          go_roundw
          case rel => exact ⟨k + 1, cs', by omega, by go_num, HHI.out, HSF.out, HDF.out, hbi⟩
          case measure => simp [intOf]; omega
    · go_wp2
      go_ret
      have hkl : k = l.length := by omega
      subst hkl
      have := HD.out
      rw [List.take_length] at this
      exact tells_yes this hb
end Go.Proofs.Ythmoonjceokijaa
