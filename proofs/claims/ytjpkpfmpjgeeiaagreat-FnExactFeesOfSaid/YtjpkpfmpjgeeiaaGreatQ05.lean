
/- Chapter 2: contract of the program's parcelsDiffer. -/
import Derived.Test.YtjpkpfmpjgeeiaaGreatQ04
import Derived.Deep.RegionHeld3
import Derived.Test.YtjpkpfmpjgeeiaaGreatQ03
import Derived.Test.YtjpkpfmpjgeeiaaGreatQ02
namespace Go.Proofs.YtjpkpfmpjgeeiaaGreat
open Go.RowKit
set_option linter.unusedVariables false

/-- a column as a value: its height, its slices and what they read as -/
structure Cl where
  z : Int
  AF : Option Addr
  F : List Int
  cF : Nat
  AB : Option Addr
  L : List Bx
  cB : Nat
def Cl.val (x : Cl) : Value := .agg #[.int .i64 x.z, .slice x.AF x.F.length x.cF, .slice x.AB x.L.length x.cB]
/-- what its slices read as, below block B -/
structure CV (w : World) (B : Nat) (x : Cl) : Prop where
  f : IL w B x.AF x.F
  b : XL w B x.AB x.L
  lf : x.F.length ≤ maxLen
  lb : x.L.length ≤ maxLen
theorem CV.later {w w' : World} {B : Nat} {x : Cl} (h : CV w B x) (hB : B ≤ w.heap.size) (hb : Below w.heap.size w w') : CV w' B x := ⟨h.f.later hB hb, h.b.later hB hb, h.lf, h.lb⟩
theorem CV.more {w : World} {B B' : Nat} {x : Cl} (h : CV w B x) (hB : B ≤ B') : CV w B' x := ⟨h.f.more hB, h.b.more hB, h.lf, h.lb⟩
/-- a slice of columns reads as the list, below block B -/
def KL (w : World) (B : Nat) (A : Option Addr) (l : List Cl) : Prop :=
  l = [] ∨ ∃ b off, A = some ⟨b, off, none⟩ ∧ b < B ∧ ∀ k x, l[k]? = some x → w.cell? ⟨b, off + k * 3, none⟩ = some (.int .i64 x.z) ∧ w.cell? ⟨b, off + k * 3 + 1, none⟩ = some (.slice x.AF x.F.length x.cF) ∧ w.cell? ⟨b, off + k * 3 + 2, none⟩ = some (.slice x.AB x.L.length x.cB)
theorem KL.below {w w' : World} {B : Nat} {A : Option Addr} {l : List Cl} (h : KL w B A l) (hb : Below B w w') : KL w' B A l := by
  rcases h with h | ⟨b, off, rfl, hlt, hc⟩
  · exact .inl h
  · refine .inr ⟨b, off, rfl, hlt, fun k x hx => ?_⟩
    have := hc k x hx
    exact ⟨(hb.cell (p := ⟨b, off + k * 3, none⟩) hlt).trans this.1, (hb.cell (p := ⟨b, off + k * 3 + 1, none⟩) hlt).trans this.2.1, (hb.cell (p := ⟨b, off + k * 3 + 2, none⟩) hlt).trans this.2.2⟩
theorem KL.later {w w' : World} {B : Nat} {A : Option Addr} {l : List Cl} (h : KL w B A l) (hB : B ≤ w.heap.size) (hb : Below w.heap.size w w') : KL w' B A l := h.below (hb.mono hB)
theorem KL.at_ {w : World} {B : Nat} {A : Option Addr} {l : List Cl} (h : KL w B A l) {k : Nat} (hk : k < l.length) :
    ∃ b off x, A = some ⟨b, off, none⟩ ∧ b < B ∧ l[k]? = some x ∧ w.cell? ⟨b, off + k * 3, none⟩ = some (.int .i64 x.z) ∧ w.cell? ⟨b, off + k * 3 + 1, none⟩ = some (.slice x.AF x.F.length x.cF) ∧ w.cell? ⟨b, off + k * 3 + 2, none⟩ = some (.slice x.AB x.L.length x.cB) := by
  rcases h with h | ⟨b, off, rfl, hlt, hc⟩
  · subst h; simp at hk
  · exact ⟨b, off, _, rfl, hlt, List.getElem?_eq_getElem hk, hc k _ (List.getElem?_eq_getElem hk)⟩
def parsOf (x : Cl) : List Int := x.L.map Bx.par
def allPars (l : List Cl) : List Int := l.flatMap parsOf
theorem allPars_succ {l : List Cl} {k : Nat} {x : Cl} (h : l[k]? = some x) : allPars (l.take (k + 1)) = allPars (l.take k) ++ parsOf x := by
  unfold allPars; rw [List.take_add_one, h]; simp
/-- the cells tell which parcels above 0 are in the list -/
def Seen (cs : Array Value) (P : List Int) : Prop := cs.size = 1000 ∧ ∀ n : Nat, n < 1000 → cs[n]? = some (.bool (decide (0 < n) && P.contains (n : Int)))
theorem seen_snoc {cs : Array Value} {P : List Int} (h : Seen cs P) (n : Nat) (hn : n < 1000) : Seen (cs.setIfInBounds n (.bool (decide (0 < n)))) (P ++ [(n : Int)]) := by
  refine ⟨by simp [h.1], fun m hm => ?_⟩
  rw [Array.getElem?_setIfInBounds]
  by_cases e : n = m
  · subst e
    rw [if_pos rfl, if_pos (by rw [h.1]; exact hn)]
    by_cases h0 : 0 < n
    · simp [h0]
    · have : n = 0 := by omega
      subst this; simp
  · rw [if_neg e, h.2 m hm]
    have : ((m : Int) == (n : Int)) = false := by simp; omega
    have hne : ¬ ((m : Int) = (n : Int)) := by omega
    simp [hne]

theorem dis_part {l : List Cl} {k : Nat} {x : Cl} (hx : l[k]? = some x) (h : Dis (allPars l)) (j : Nat) : Dis (allPars (l.take k) ++ (x.L.take j).map Bx.par) := by
  have e : allPars l = (allPars (l.take k) ++ (x.L.take j).map Bx.par) ++ ((x.L.drop j).map Bx.par ++ allPars (l.drop (k + 1))) := by
    have h1 : l = l.take (k + 1) ++ l.drop (k + 1) := (List.take_append_drop _ _).symm
    have h2 : parsOf x = (x.L.take j).map Bx.par ++ (x.L.drop j).map Bx.par := by unfold parsOf; rw [← List.map_append, List.take_append_drop]
    have h3 : allPars l = allPars (l.take (k + 1)) ++ allPars (l.drop (k + 1)) := by
      unfold allPars; rw [← List.flatMap_append, List.take_append_drop]
    rw [h3, allPars_succ hx, h2]; simp only [List.append_assoc]
  rw [e] at h
  exact dis_init h
theorem seen_zero : Seen Tryz.zeroCells175 (allPars ([] : List Cl)) := by
  have e : Tryz.zeroCells175 = Array.replicate 1000 (.bool false) := by kernel_rfl
  rw [e]
  refine ⟨by simp, fun n hn => ?_⟩
  rw [Array.getElem?_replicate, if_pos hn]
  simp [allPars]

set_option maxRecDepth 100000 in
set_option maxHeartbeats 1000000 in
theorem differ_any (w : World) (B : Nat) (A : Option Addr) (c : Nat) (l : List Cl) (hl : l.length ≤ maxLen) (hB : B ≤ w.heap.size) (hS : KL w B A l) (hV : ∀ x ∈ l, CV w B x) (hr : ∀ x ∈ l, ∀ b ∈ x.L, 0 ≤ b.par ∧ b.par ≤ 999) :
    Calls Tryz.prog 115 #[.slice A l.length c] w (Tells (Dis (allPars l)) w) := by
  have hl' := hl
  unfold maxLen at hl
  have HS := Lib.hid hS; clear hS
  have HV := Lib.hid hV; clear hV
  have HR := Lib.hid hr; clear hr
  go_enter Tryz.func115, Tryz.ntmps115
  go_wp2
  generalize hW0 : w.alloc (.cells Tryz.zeroCells175 175) = w0 at *
  have hb0 : Below w.heap.size w w0 := by rw [← hW0]; exact balloc _ _
  have hc : Has w0 w.heap.size 175 Tryz.zeroCells175 := by rw [← hW0]; exact has_new _ _ _
  clear hW0
  have HC := Lib.hid hc; clear hc
  go_loopw [10] (fun i wr => ∃ (k : Nat) (cs : Array Value), k ≤ l.length ∧ i = .int .i64 k ∧ Has wr w.heap.size 175 cs ∧ Seen cs (allPars (l.take k)) ∧ Dis (allPars (l.take k)) ∧ Below w.heap.size w wr) (fun i _ => l.length - (intOf i).toNat)
  case atStart => exact ⟨0, _, Nat.zero_le _, rfl, HC.out, by simpa using seen_zero, by simp [Dis, allPars], hb0⟩
  case round =>
    obtain ⟨k, cs, hk, rfl, hH, hse, hd, hb⟩ := hrel
    have HSE := Lib.hid hse; clear hse
    have HD := Lib.hid hd; clear hd
    have hsz := hb.size
    by_cases hlt : k < l.length
    · obtain ⟨b, off, x, rfl, hbB, hx, hc0, hc1, hc2⟩ := (HS.out.later hB hb).at_ hlt
      have hxm := List.mem_of_getElem? hx
      have hxv := HV.out x hxm
      have hxr := HR.out x hxm
      have hps := allPars_succ hx
      have hlb := hxv.lb
      have HXV := Lib.hid hxv; have HXR := Lib.hid hxr; have HPS := Lib.hid hps
      clear hxm hxv hxr hps
      obtain ⟨z, AF, F, cF, AB, L, cB⟩ := x
      dsimp only at hc0 hc1 hc2 hlb
      unfold maxLen at hlb
      have HX := Lib.hid hx; clear hx
      have hH' := Lib.hid hH
      have hbw : b < wr.heap.size := by omega
      have hsb : w.heap.size < wr.heap.size := has_lt hH
      clear hH
      go_wp2
      generalize hW1 : wr.alloc (.cells #[.int .i64 z, .slice AF F.length cF, .slice AB L.length cB] 123) = w1 at *
      have bx : Below wr.heap.size wr w1 := by rw [← hW1]; exact balloc _ _
      clear hW1
      have hH1 := has_call hH'.out bx
      have hb1 := bthen hb (bx.mono (Nat.le_refl _))
      have HH1 := Lib.hid hH1; clear hH1
      go_loopw [17] (fun i wi => ∃ (j : Nat) (cs : Array Value), j ≤ L.length ∧ i = .int .i64 j ∧ Has wi w.heap.size 175 cs ∧ Seen cs (allPars (l.take k) ++ (L.take j).map Bx.par) ∧ Dis (allPars (l.take k) ++ (L.take j).map Bx.par) ∧ Below w.heap.size w wi) (fun i _ => L.length - (intOf i).toNat)
      case atStart => exact ⟨0, cs, Nat.zero_le _, rfl, HH1.out, by simpa using HSE.out, by simpa using HD.out, hb1⟩
      case round =>
        obtain ⟨j, cs', hj, rfl, hHi, hsei, hdi, hbi⟩ := hrel
        have HDI := Lib.hid hdi; clear hdi
        have hszi := hbi.size
        by_cases hjl : j < L.length
        · obtain ⟨b2, off2, y, hAB, hb2B, hy, hd0, hd1, hd2, hd3⟩ := (HXV.out.b.later hB hbi).at_ hjl
          dsimp only at hAB
          subst hAB
          have hyr := HXR.out y (List.mem_of_getElem? hy)
          obtain ⟨y0, y1, y2, y3⟩ := y
          dsimp only at hd0 hd1 hd2 hd3 hyr
          obtain ⟨hy0, hy9⟩ := hyr
          obtain ⟨n, rfl⟩ := Int.eq_ofNat_of_zero_le hy0
          have hn : n < 1000 := by omega
          have hpn := pars_succ hy
          dsimp only at hpn
          have hcell := has_cell hHi n (hsei.2 n hn)
          have hfree := has_free hHi n
          have hsn := seen_snoc hsei n hn
          have hset := has_set hHi n (.bool (decide (0 < n)))
          have hdn := dis_snoc (allPars (l.take k) ++ (L.take j).map Bx.par) (n : Int)
          rw [List.append_assoc, ← hpn] at hsn hdn
          have HY := Lib.hid hy; clear hy
          have HSN := Lib.hid hsn; have HSET := Lib.hid hset; have HDN := Lib.hid hdn; have HPN := Lib.hid hpn
          clear hsn hset hdn hpn
          have hmem : (decide (0 < n) && (allPars (l.take k) ++ (L.take j).map Bx.par).contains (n : Int)) = true ↔ (0 < (n : Int) ∧ (n : Int) ∈ allPars (l.take k) ++ (L.take j).map Bx.par) := by simp
          generalize (decide (0 < n) && (allPars (l.take k) ++ (L.take j).map Bx.par).contains (n : Int)) = q at *
          have HM := Lib.hid hmem; clear hmem hsei
          have hbw2 : b2 < wr.heap.size := by omega
          have hsi : w.heap.size < wr.heap.size := has_lt hHi
          clear hHi
          cases q
          · go_wp2
            go_roundw
            case rel => exact ⟨j + 1, _, by omega, by go_num, has_alloc HSET.out _, HSN.out, HDN.out.2 ⟨HDI.out, fun h0 hm => by have := HM.out.2 ⟨h0, hm⟩; simp at this⟩, (hbi.setCell (Nat.le_refl _) _).alloc (by rw [size_set]; exact hbi.size) _⟩
            case measure => simp [intOf]; omega
          · go_wp2
            go_ret
            refine tells_no (fun g => ?_) (hbi.alloc hbi.size _)
            have := dis_part (HX.out) g (j + 1)
            dsimp only at this
            rw [HDN.out] at this
            exact this.2 (HM.out.1 (by trivial)).1 (HM.out.1 (by trivial)).2
        · have hjl' : j = L.length := by omega
          subst hjl'
          have hsf := hsei
          rw [List.take_length] at hsf
          have hps : allPars (l.take (k + 1)) = allPars (l.take k) ++ L.map Bx.par := HPS.out
          rw [← hps] at hsf
          have hdf := HDI.out
          rw [List.take_length, ← hps] at hdf
          have HSF := Lib.hid hsf; have HDF := Lib.hid hdf; clear hsf hdf hps hsei
          have HHI := Lib.hid hHi; clear hHi
          go_wp2
          go_roundw
          case rel => exact ⟨k + 1, cs', by omega, by go_num, HHI.out, HSF.out, HDF.out, hbi⟩
          case measure => simp [intOf]; omega
    · go_wp2
      go_ret
      have hkl : k = l.length := by omega
      subst hkl
      have := HD.out
      rw [List.take_length] at this
      exact tells_yes this hb
end Go.Proofs.YtjpkpfmpjgeeiaaGreat
namespace Go.Proofs.YtjpkpfmpjgeeiaaGreat
open Go.RowKit
set_option linter.unusedVariables false

theorem OR.setlow {w : World} {base : Nat} {e : TypeId} {A : Option Addr} {xs : List Value} (h : OR w base e A xs) {p : Addr} (hp : p.block < base) (v : Value) : OR (w.setCell p v) base e A xs :=
  h.kept fun g hg _ => Below.heap_setCell w p v g (by omega)

set_option maxHeartbeats 1000000 in
theorem toColumn_any (w : World) (B : Nat) (A A' : Option Addr) (n n' : Nat) (z : Int) (F : List Int) (L : List Bx) (lf : F.length ≤ 1048576) (ll : L.length ≤ 1048576) (hB : B ≤ w.heap.size) (hS : IL w B A F) (hS' : XL w B A' L) :
    Calls Tryz.prog 109 #[.agg #[.int .i64 z, .slice A F.length n, .slice A' L.length n']] w fun e w' => ∃ A2 A3 n2 n3, e = .returned (.agg #[.int .i64 z, .slice A2 F.length n2, .slice A3 L.length n3]) ∧ OR w' w.heap.size 3 A2 (intV F) ∧ OR w' w.heap.size 125 A3 (boxV L) ∧ Below w.heap.size w w' := by
  have HS := Lib.hid hS; clear hS
  have HS' := Lib.hid hS'; clear hS'
  have hb3 : ∀ o1 o2 o3, Below w.heap.size w (((w.alloc o1).alloc o2).alloc o3) := fun o1 o2 o3 => bthen (bthen (balloc w o1) (balloc _ o2)) (balloc _ o3)
  have H3 := Lib.hid hb3; clear hb3
  go_enter Tryz.func109, Tryz.ntmps109
  go_wp2_with fail
  generalize hW0 : (((w.alloc (.cells #[.int .i64 z, .slice A F.length n, .slice A' L.length n'] 148)).alloc (.cells #[.int .i64 0, .slice none 0 0, .slice none 0 0] 123)).alloc (.cells #[.int .i64 z, .slice none 0 0, .slice none 0 0] 123)) = w0
  have b0 : Below w.heap.size w w0 := by rw [← hW0]; exact H3.out _ _ _
  have k0 : Has w0 w.heap.size 148 #[.int .i64 z, .slice A F.length n, .slice A' L.length n'] := by rw [← hW0]; exact has_alloc (has_alloc (has_new _ _ _) _) _
  have k1 : Has w0 (w.heap.size + 1) 123 #[.int .i64 0, .slice none 0 0, .slice none 0 0] := by rw [← hW0]; have := has_alloc (has_new (w.alloc (.cells #[.int .i64 z, .slice A F.length n, .slice A' L.length n'] 148)) 123 #[.int .i64 0, .slice none 0 0, .slice none 0 0]) (.cells #[.int .i64 z, .slice none 0 0, .slice none 0 0] 123); simpa using this
  have k2 : Has w0 (w.heap.size + 1 + 1) 123 #[.int .i64 z, .slice none 0 0, .slice none 0 0] := by rw [← hW0]; have := has_new ((w.alloc (.cells #[.int .i64 z, .slice A F.length n, .slice A' L.length n'] 148)).alloc (.cells #[.int .i64 0, .slice none 0 0, .slice none 0 0] 123)) 123 #[.int .i64 z, .slice none 0 0, .slice none 0 0]; simpa using this
  clear hW0
  have hz0 := has_lt k2
  refine (toIntS_any w0 B A n F lf (by have := b0.size; omega) (HS.out.later hB b0)).mono ?_
  rintro e w1 ⟨A2, n2, rfl, hS1, hb1⟩
  have HS1 := Lib.hid hS1; clear hS1
  have m0 := has_call k0 hb1
  have m1 := has_call k1 hb1
  have m2 := has_call k2 hb1
  have hbx := bthen b0 hb1
  have hsz1 := hb1.size
  have e1 := has_cell m0 2 rfl
  have e2 := has_cell m2 1 rfl
  have f2 := has_free m2 1
  have M0 := Lib.hid m0; have M1 := Lib.hid m1; have M2 := Lib.hid m2; clear m0 m1 m2
  go_wp2_with fail
  clear e1 e2 f2
  generalize hW1 : (w1.setCell ⟨w.heap.size + 1 + 1, 1, none⟩ (.slice A2 F.length n2)) = w1'
  have bw : Below w.heap.size w w1' := by rw [← hW1]; exact hbx.setCell (by simp; omega) _
  have n1 : Has w1' (w.heap.size + 1) 123 #[.int .i64 0, .slice none 0 0, .slice none 0 0] := by rw [← hW1]; exact has_far M1.out (by simp) _
  have n2' : Has w1' (w.heap.size + 1 + 1) 123 #[.int .i64 z, .slice A2 F.length n2, .slice none 0 0] := by rw [← hW1]; have := has_set M2.out 1 (.slice A2 F.length n2); simpa using this
  have s1 : OR w1' w0.heap.size 3 A2 (intV F) := by
    rw [← hW1]
    exact HS1.out.setlow (by show w.heap.size + 1 + 1 < _; omega) _
  have S1 := Lib.hid s1; clear s1
  have hsz1' : w1'.heap.size = w1.heap.size := by rw [← hW1, size_set]
  clear hW1
  refine (toBoxS_any w1' B A' n' L ll (by omega) (HS'.out.later hB bw)).mono ?_
  rintro e w2 ⟨A3, n3, rfl, hS3, hb2⟩
  have HS3 := Lib.hid hS3; clear hS3
  have p1 := has_call n1 hb2
  have p2 := has_call n2' hb2
  have hsz2 := hb2.size
  have e1 := has_cell p2 0 rfl
  have e2 := has_cell p2 1 rfl
  have e5 := has_cell p2 2 rfl
  have e3 := has_cell p1 0 rfl
  have e4 := has_cell p1 1 rfl
  have e6 := has_cell p1 2 rfl
  have f1 := has_free p2 2
  have f3 := has_free p1 0
  have f4 := has_free p1 1
  have f5 := has_free p1 2
  have P1 := Lib.hid p1; have P2 := Lib.hid p2; clear p1 p2
  have HN1 := Lib.hid n1; have HN2 := Lib.hid n2'; clear n1 n2'
  have HB2 := Lib.hid hb2; clear hb2
  have HB1 := Lib.hid hb1; clear hb1
  have K0 := Lib.hid k0; have K1 := Lib.hid k1; have K2 := Lib.hid k2; clear k0 k1 k2
  have SZ := Lib.hid hsz1'; clear hsz1'
  go_wp2_with fail
  clear e1 e2 e3 e4 e5 e6 f1 f3 f4 f5
  have q1 : Has ((((w2.setCell ⟨w.heap.size + 1 + 1, 2, none⟩ (.slice A3 L.length n3)).setCell ⟨w.heap.size + 1, 0, none⟩ (.int .i64 z)).setCell ⟨w.heap.size + 1, 1, none⟩ (.slice A2 F.length n2)).setCell ⟨w.heap.size + 1, 2, none⟩ (.slice A3 L.length n3)) (w.heap.size + 1) 123 #[.int .i64 z, .slice A2 F.length n2, .slice A3 L.length n3] := by
    have := has_set (has_set (has_set (has_far P1.out (p := ⟨w.heap.size + 1 + 1, 2, none⟩) (by simp) (.slice A3 L.length n3)) 0 (.int .i64 z)) 1 (.slice A2 F.length n2)) 2 (.slice A3 L.length n3)
    simpa using this
  have g0 := has_cell q1 0 rfl
  have g1 := has_cell q1 1 rfl
  have g2 := has_cell q1 2 rfl
  refine bodyPost_ret (v := .agg #[.int .i64 z, .slice A2 F.length n2, .slice A3 L.length n3]) (by simp [results, Tryz.results109, go_sem, g0, g1, g2]) rfl ⟨A2, A3, n2, n3, rfl, ?_, ?_, ?_⟩
  · have sA : OR w2 w0.heap.size 3 A2 (intV F) := S1.out.below HB2.out
    exact ((((sA.setlow (by show w.heap.size + 1 + 1 < _; omega) _).setlow (by show w.heap.size + 1 < _; omega) _).setlow (by show w.heap.size + 1 < _; omega) _).setlow (by show w.heap.size + 1 < _; omega) _).more b0.size
  · have hs := SZ.out
    exact ((((HS3.out.setlow (by show w.heap.size + 1 + 1 < _; omega) _).setlow (by show w.heap.size + 1 < _; omega) _).setlow (by show w.heap.size + 1 < _; omega) _).setlow (by show w.heap.size + 1 < _; omega) _).more (by omega)
  · exact ((((bw.trans (HB2.out.mono bw.size)).setCell (by simp; omega) _).setCell (by simp) _).setCell (by simp) _).setCell (by simp) _

set_option maxHeartbeats 400000 in
theorem eqColumn_any (w : World) (B B' : Nat) (A A' A2 A2' : Option Addr) (n n' n2 n2' : Nat) (z : Int) (F : List Int) (L : List Bx) (lf : F.length ≤ maxLen) (ll : L.length ≤ maxLen) (hB : B ≤ w.heap.size) (hB' : B' ≤ w.heap.size) (hS : IL w B A F) (hS' : XL w B A' L) (hT : IL w B' A2 F) (hT' : XL w B' A2' L) :
    Calls Tryz.prog 128 #[.agg #[.int .i64 z, .slice A F.length n, .slice A' L.length n'], .agg #[.int .i64 z, .slice A2 F.length n2, .slice A2' L.length n2']] w fun e w' => e = .returned (.bool true) ∧ Below w.heap.size w w' := by
  have hb0 : ∀ o1 o2, Below w.heap.size w ((w.alloc o1).alloc o2) := fun o1 o2 => bthen (balloc w o1) (balloc _ o2)
  have HS := Lib.hid hS; clear hS
  have HS' := Lib.hid hS'; clear hS'
  have HT := Lib.hid hT; clear hT
  have HT' := Lib.hid hT'; clear hT'
  have H0 := Lib.hid hb0; clear hb0
  have e0 : (z != z) = false := by simp
  go_enter Tryz.func128, Tryz.ntmps128
  go_wp2_with fail
  clear e0
  refine (eqIntS_any _ B B' A A2 n n2 F lf (by simp; omega) (by simp; omega) (HS.out.later hB (H0.out _ _)) (HT.out.later hB' (H0.out _ _))).mono ?_
  rintro e w1 ⟨rfl, hb1⟩
  have hbx := bthen (H0.out _ _) hb1
  have hold := bold hb1
  go_wp2_with fail
  clear hold
  refine (eqBoxS_any _ B B' A' A2' n' n2' L ll (by have := hbx.size; omega) (by have := hbx.size; omega) (HS'.out.later hB hbx) (HT'.out.later hB' hbx)).mono ?_
  rintro e w2 ⟨rfl, hb2⟩
  go_wp2_with fail
  go_ret
  exact ⟨rfl, bthen hbx hb2⟩
end Go.Proofs.YtjpkpfmpjgeeiaaGreat
namespace Go.Proofs.YtjpkpfmpjgeeiaaGreat
open Go.RowKit
set_option linter.unusedVariables false

section
variable {w w' w2 : World} {lo hi a b B base g : Nat} {e e' t : TypeId} {A A' : Option Addr} {xs ys : List Value} {cs : Array Value}
theorem OI.xl {l : List Bx} (h : OI w lo hi e A (boxV l)) : XL w w.heap.size A l := h.or_.xl
end
end Go.Proofs.YtjpkpfmpjgeeiaaGreat
namespace Go.Proofs.YtjpkpfmpjgeeiaaGreat
open Go.RowKit
set_option linter.unusedVariables false

theorem Cl.one {w : World} {B g : Nat} {x : Cl} (h : Has w g 123 #[.int .i64 x.z, .slice x.AF x.F.length x.cF, .slice x.AB x.L.length x.cB]) (hB : g < B) : KL w B (some ⟨g, 0, none⟩) [x] := by
  refine .inr ⟨g, 0, rfl, hB, fun k y hy => ?_⟩
  have hk : k = 0 := by have := (List.getElem?_eq_some_iff.1 hy).1; simp at this; omega
  subst hk
  simp at hy
  subst hy
  exact ⟨has_cell h 0 rfl, has_cell h 1 rfl, has_cell h 2 rfl⟩
theorem pars_bd {L : List Bx} (h : BoxesTo L L.length) : ∀ b ∈ L, 0 ≤ b.par ∧ b.par ≤ 999 := fun b hb => by
  obtain ⟨k, hk⟩ := List.getElem?_of_mem hb
  have := h k b (List.getElem?_eq_some_iff.1 hk).1 hk
  exact ⟨this.2.2.1, this.2.2.2⟩
theorem col_of {h : Int} {F : List Int} {L : List Bx} (h1 : FixOk h F) (h2 : BoxesW h F L) (h3 : Dis (L.map Bx.par)) : ColOk h F L :=
  ⟨h1, h2.1, h2.2.1, (walls_iff h1 h2.1).1 h2.2.2, h3⟩
theorem of_col {h : Int} {F : List Int} {L : List Bx} (g : ColOk h F L) : FixOk h F ∧ BoxesW h F L ∧ Dis (L.map Bx.par) :=
  ⟨g.fix, ⟨g.box, g.top, (walls_iff g.fix g.box).2 g.wall⟩, g.diff⟩

set_option maxHeartbeats 1000000 in
theorem colI_any (w : World) (B : Nat) (x : Cl) (hB : B ≤ w.heap.size) (hV : CV w B x) :
    Calls Tryz.prog 114 #[.agg #[.int .i64 x.z, .slice x.AF x.F.length x.cF, .slice x.AB x.L.length x.cB]] w (Tells (ColOk x.z x.F x.L) w) := by
  have HV := Lib.hid hV; clear hV
  go_enter Tryz.func114, Tryz.ntmps114
  go_wp2_with fail
  generalize hW0 : w.alloc (.cells #[.int .i64 x.z, .slice x.AF x.F.length x.cF, .slice x.AB x.L.length x.cB] 123) = w0 at *
  have b0 : Below w.heap.size w w0 := by rw [← hW0]; exact balloc _ _
  have k0 : Has w0 w.heap.size 123 #[.int .i64 x.z, .slice x.AF x.F.length x.cF, .slice x.AB x.L.length x.cB] := by rw [← hW0]; exact has_new _ _ _
  clear hW0
  have K0 := Lib.hid k0; clear k0
  have v0 := HV.out.later hB b0
  refine (fixedI_any w0 B x.AF x.cF x.F x.z v0.lf (by have := b0.size; omega) v0.f).mono ?_
  rintro e w1 ⟨b1, rfl, hb1, hw1⟩
  have HB1 := Lib.hid hb1; clear hb1
  have c1 := bthen b0 hw1
  have k1 := has_call K0.out hw1
  have e0 := has_cell k1 0 rfl
  have e1 := has_cell k1 1 rfl
  have e2 := has_cell k1 2 rfl
  have K1 := Lib.hid k1; clear k1
  cases b1
  · go_wp2_with fail
    go_ret
    exact tells_no (fun g => by have := HB1.out.2 (of_col g).1; simp at this) c1
  have hfix := HB1.out.1 rfl
  have v1 := HV.out.later hB c1
  have HFIX := Lib.hid hfix; clear hfix
  go_wp2_with fail
  refine (boxesI_any w1 B x.AF x.AB x.cF x.cB x.z x.F x.L v1.lf v1.lb (by have := c1.size; omega) v1.f v1.b HFIX.out.lo HFIX.out.hi).mono ?_
  rintro e w2 ⟨b2, rfl, hb2, hw2⟩
  have HB2 := Lib.hid hb2; clear hb2
  clear e0 e1 e2
  have c2 := bthen c1 hw2
  have k2 := has_call K1.out hw2
  have e0 := has_cell k2 0 rfl
  have e1 := has_cell k2 1 rfl
  have e2 := has_cell k2 2 rfl
  have K2 := Lib.hid k2; clear k2
  cases b2
  · go_wp2_with fail
    go_ret
    exact tells_no (fun g => by have := HB2.out.2 (of_col g).2.1; simp at this) c2
  have hbox := HB2.out.1 rfl
  have HBOX := Lib.hid hbox; clear hbox
  have hs2 := has_lt K2.out
  go_wp2_with fail
  generalize hW2 : w2.alloc (.cells #[.int .i64 x.z, .slice x.AF x.F.length x.cF, .slice x.AB x.L.length x.cB] 123) = w3 at *
  have b3 : Below w2.heap.size w2 w3 := by rw [← hW2]; exact balloc _ _
  have k3 : Has w3 w2.heap.size 123 #[.int .i64 x.z, .slice x.AF x.F.length x.cF, .slice x.AB x.L.length x.cB] := by rw [← hW2]; exact has_new _ _ _
  clear hW2 e0 e1 e2
  have c3 := bthen c2 b3
  have v3 := (HV.out.later hB c3).more (show B ≤ w3.heap.size by have := c3.size; omega)
  refine (differ_any w3 w3.heap.size (some ⟨w2.heap.size, 0, none⟩) 1 [x] (by unfold maxLen; simp) (Nat.le_refl _) (Cl.one k3 (has_lt k3)) (fun y hy => by rw [List.mem_singleton.1 hy]; exact v3) (fun y hy => by rw [List.mem_singleton.1 hy]; exact pars_bd HBOX.out.1)).mono ?_
  rintro e w4 ⟨b4, rfl, hb4, hw4⟩
  have HB4 := Lib.hid hb4; clear hb4
  have c4 := bthen c3 hw4
  have hap : allPars [x] = x.L.map Bx.par := by simp [allPars, parsOf]
  have HAP := Lib.hid hap; clear hap
  go_wp2_with fail
  go_ret
  refine ⟨b4, rfl, ?_, c4⟩
  have := HB4.out
  rw [HAP.out] at this
  rw [this]
  exact ⟨fun h => col_of HFIX.out HBOX.out h, fun g => g.diff⟩
end Go.Proofs.YtjpkpfmpjgeeiaaGreat
