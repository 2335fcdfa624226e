/- Chapter 7: rounds in memory: rows of rows of numbers, rows of stops; the laws' helpers over them. -/
import Derived.Test.YtjcmndbjpbnogaaTouS
namespace Go.Proofs.Ytjcmndbjpbnogaa
open Go.RowKit
set_option linter.unusedVariables false

/-- a list of numbers as it lies in memory -/
structure Rw where
  A : Option Addr
  c : Nat
  l : List Int
def rwL (w : World) (B : Nat) (A : Option Addr) (R : List Rw) : Prop :=
  R = [] ∨ ∃ b off, A = some ⟨b, off, none⟩ ∧ b < B ∧ ∀ k x, R[k]? = some x → w.cell? ⟨b, off + k, none⟩ = some (.slice x.A x.l.length x.c)
def RV (w : World) (B : Nat) (x : Rw) : Prop := IL w B x.A x.l ∧ x.l.length ≤ maxLen
theorem rwL.below {w w' : World} {B : Nat} {A : Option Addr} {R : List Rw} (h : rwL w B A R) (hb : Below B w w') : rwL w' B A R := by
  rcases h with h | ⟨b, off, rfl, hlt, hc⟩
  · exact .inl h
  · exact .inr ⟨b, off, rfl, hlt, fun k x hx => (hb.cell (p := ⟨b, off + k, none⟩) hlt).trans (hc k x hx)⟩
theorem rwL.at_ {w : World} {B : Nat} {A : Option Addr} {R : List Rw} (h : rwL w B A R) {k : Nat} (hk : k < R.length) :
    ∃ b off x, A = some ⟨b, off, none⟩ ∧ b < B ∧ R[k]? = some x ∧ w.cell? ⟨b, off + k, none⟩ = some (.slice x.A x.l.length x.c) := by
  rcases h with h | ⟨b, off, rfl, hlt, hc⟩
  · subst h; simp at hk
  · exact ⟨b, off, _, rfl, hlt, List.getElem?_eq_getElem hk, hc k _ (List.getElem?_eq_getElem hk)⟩
theorem rwL.later {w w' : World} {B : Nat} {A : Option Addr} {R : List Rw} (h : rwL w B A R) (hB : B ≤ w.heap.size) (hb : Below w.heap.size w w') : rwL w' B A R := h.below (hb.mono hB)
theorem rwL.more {w : World} {B B' : Nat} {A : Option Addr} {R : List Rw} (h : rwL w B A R) (hB : B ≤ B') : rwL w B' A R := by
  rcases h with h | ⟨b, off, rfl, hlt, hc⟩
  · exact .inl h
  · exact .inr ⟨b, off, rfl, by omega, hc⟩
theorem RV.below {w w' : World} {B : Nat} {x : Rw} (h : RV w B x) (hb : Below B w w') : RV w' B x := ⟨h.1.below hb, h.2⟩
theorem RV.later {w w' : World} {B : Nat} {x : Rw} (h : RV w B x) (hB : B ≤ w.heap.size) (hb : Below w.heap.size w w') : RV w' B x := h.below (hb.mono hB)
def gOf (R : List Rw) : List (List Int) := R.map Rw.l
theorem gOf_len (R : List Rw) : (gOf R).length = R.length := by simp [gOf]
theorem gOf_at {R : List Rw} {k : Nat} {x : Rw} (h : R[k]? = some x) : (gOf R)[k]? = some x.l := by simp [gOf, h]
/-- a round's lists as they are read -/
structure RdIn (w : World) (B : Nat) (AL : Option Addr) (R : List Rw) (AS : Option Addr) (S : List Sp) : Prop where
  rows : rwL w B AL R
  vals : ∀ x ∈ R, RV w B x
  stops : spL w B AS S
  lr : R.length ≤ maxLen
  ls : S.length ≤ maxLen
theorem RdIn.below {w w' : World} {B : Nat} {AL AS : Option Addr} {R : List Rw} {S : List Sp} (h : RdIn w B AL R AS S) (hb : Below B w w') : RdIn w' B AL R AS S :=
  ⟨h.rows.below hb, fun x hx => (h.vals x hx).below hb, h.stops.below hb, h.lr, h.ls⟩
theorem RdIn.later {w w' : World} {B : Nat} {AL AS : Option Addr} {R : List Rw} {S : List Sp} (h : RdIn w B AL R AS S) (hB : B ≤ w.heap.size) (hb : Below w.heap.size w w') : RdIn w' B AL R AS S := h.below (hb.mono hB)
def totR (G : List (List Int)) : Nat := (G.map List.length).sum
theorem totR_snoc (G : List (List Int)) (l : List Int) : totR (G ++ [l]) = totR G + l.length := by simp [totR]
theorem totR_mem {G : List (List Int)} {l : List Int} (h : l ∈ G) : l.length ≤ totR G := by
  induction G with
  | nil => simp at h
  | cons a r ih =>
    have e : totR (a :: r) = a.length + totR r := by simp [totR]
    rcases List.mem_cons.1 h with h | h
    · subst h; omega
    · have := ih h; omega
theorem totR_take {R : List Rw} {k : Nat} {x : Rw} (hx : R[k]? = some x) : totR (gOf (R.take (k + 1))) = totR (gOf (R.take k)) + x.l.length := by
  have e : gOf (R.take (k + 1)) = gOf (R.take k) ++ [x.l] := by simp [gOf, List.take_add_one, hx]
  rw [e, totR_snoc]
def SizedR (R : List Rw) (r : Int) : Prop := r = -1 ∨ (0 ≤ r ∧ r + R.length + totR (gOf R) ≤ 1048576)

set_option maxRecDepth 100000 in
set_option maxHeartbeats 1000000 in
theorem szIntSS_any (w : World) (B : Nat) (A : Option Addr) (c : Nat) (R : List Rw) (hl : R.length ≤ maxLen) (hB : B ≤ w.heap.size) (hS : rwL w B A R) (hV : ∀ x ∈ R, RV w B x) :
    Calls Try.prog 16 #[.slice A R.length c, .int .i64 1048576] w fun e w' => ∃ r, e = .returned (.int .i64 r) ∧ SizedR R r ∧ Below w.heap.size w w' := by
  unfold maxLen at hl
  have HS := Lib.hid hS; have HV := Lib.hid hV; clear hS hV
  by_cases hbig : (1048576 : Int) < R.length
  · go_enter Try.func16, Try.ntmps16
    go_wp2
    go_ret
    exact ⟨-1, rfl, .inl rfl, Below.refl _ _⟩
  · have hl2 : R.length ≤ 1048576 := by omega
    go_enter Try.func16, Try.ntmps16
    go_wp2
    go_loopw [1, 5] (fun lv i wr => ∃ (k : Nat) (r : Int), k ≤ R.length ∧ i = .int .i64 k ∧ lv = .int .i64 r ∧ 0 ≤ r ∧ r + R.length + totR (gOf (R.take k)) ≤ 1048576 ∧ Below w.heap.size w wr) (fun _ i _ => R.length - (intOf i).toNat)
    case atStart => exact ⟨0, _, Nat.zero_le _, rfl, rfl, by omega, by simp [totR, gOf], Below.refl _ _⟩
    case round =>
      obtain ⟨k, r, hk, rfl, rfl, hr0, hrs, hb⟩ := hrel
      have hr1 : r ≤ 1048576 := by omega
      have HRS := Lib.hid hrs; clear hrs
      have hsz := hb.size
      by_cases hlt : k < R.length
      · obtain ⟨b, off, x, rfl, hbB, hx, hc0⟩ := (HS.out.later hB hb).at_ hlt
        have hv := HV.out x (List.mem_of_getElem? hx)
        have HX := Lib.hid hx; clear hx
        by_cases hbd : r < x.l.length
        · have hs : szI r x.l.length = -1 := if_pos (by omega)
          have Hs := Lib.hid hs; clear hs
          go_wp2_with fail
          refine (szInt_any wr x.A x.l.length x.c r hv.2 hr0 hr1).mono ?_
          rintro e w1 ⟨rfl, hw⟩
          rw [hw, Hs.out]; clear hw w1
          go_wp2
          go_ret
          exact ⟨-1, rfl, .inl rfl, hb⟩
        · have hs : szI r x.l.length = r - x.l.length := if_neg (by omega)
          have Hs := Lib.hid hs; clear hs
          have HT := Lib.hid (totR_take HX.out)
          go_wp2_with fail
          refine (szInt_any wr x.A x.l.length x.c r hv.2 hr0 hr1).mono ?_
          rintro e w1 ⟨rfl, hw⟩
          rw [hw, Hs.out]; clear hw w1
          go_wp2
          go_roundw
          case rel => exact ⟨k + 1, _, by omega, by go_num, rfl, by omega, by have h1 := HRS.out; have h2 := HT.out; omega, hb⟩
          case measure => simp [intOf]; omega
      · go_wp2
        go_ret
        have hkl : k = R.length := by omega
        subst hkl
        have := HRS.out
        rw [List.take_length] at this
        exact ⟨r, rfl, .inr ⟨hr0, this⟩, hb⟩
/-- a round is small enough for the laws -/
def SmallRd (R : List Rw) (S : List Sp) : Prop := R.length + totR (gOf R) + S.length ≤ 1048576
set_option maxRecDepth 100000 in
set_option maxHeartbeats 1000000 in
theorem szRound_any (w : World) (B : Nat) (b r : Int) (AL AS : Option Addr) (cL cS : Nat) (R : List Rw) (S : List Sp) (hB : B ≤ w.heap.size) (hR : RdIn w B AL R AS S) :
    Calls Try.prog 5 #[.agg #[.int .i64 b, .int .i64 r, .slice AL R.length cL, .slice AS S.length cS], .int .i64 1048576] w fun e w' => (∃ x, e = .returned (.int .i64 x) ∧ (x = -1 ∨ 0 ≤ x ∧ SmallRd R S)) ∧ Below w.heap.size w w' := by
  have HR := Lib.hid hR; clear hR
  go_enter Try.func5, Try.ntmps5
  go_wp2_with fail
  generalize hX : (w.alloc (.cells #[.int .i64 b, .int .i64 r, .slice AL R.length cL, .slice AS S.length cS] 25)) = w1
  have hb : Below w.heap.size w w1 := by rw [← hX]; exact balloc _ _
  have hk : Has w1 w.heap.size 25 #[.int .i64 b, .int .i64 r, .slice AL R.length cL, .slice AS S.length cS] := by rw [← hX]; exact has_new _ _ _
  clear hX
  have hc2 := has_cell hk 2 rfl
  have HK := Lib.hid hk; clear hk
  have hz := hb.size
  go_wp2_with fail
  refine (szIntSS_any w1 B AL cL R HR.out.lr (by omega) (HR.out.later hB hb).rows (HR.out.later hB hb).vals).mono ?_
  rintro e w2 ⟨x, rfl, hx, hb2⟩
  clear hc2
  have hk2 := has_call HK.out hb2
  have hc3 := has_cell hk2 3 rfl
  clear hk2
  have hbb := bthen hb hb2
  rcases hx with rfl | ⟨hx0, hx2⟩
  · go_wp2_with fail
    go_ret
    exact ⟨⟨_, rfl, .inl rfl⟩, hbb⟩
  have hx1 : x ≤ 1048576 := by omega
  have HX := Lib.hid hx2; clear hx2
  by_cases hs : x < S.length
  · have hsv : szI x S.length = -1 := if_pos hs
    have Hs := Lib.hid hsv; clear hsv
    go_wp2_with fail
    refine (szStop_any _ AS S.length cS x HR.out.ls hx0 hx1).mono ?_
    rintro e w3 ⟨rfl, hw⟩
    rw [hw, Hs.out]; clear hw w3
    go_wp2_with fail
    go_ret
    exact ⟨⟨_, rfl, .inl rfl⟩, hbb⟩
  · have hsv : szI x S.length = x - S.length := if_neg hs
    have Hs := Lib.hid hsv; clear hsv
    have hge : 0 ≤ x - (S.length : Int) := by omega
    go_wp2_with fail
    refine (szStop_any _ AS S.length cS x HR.out.ls hx0 hx1).mono ?_
    rintro e w3 ⟨rfl, hw⟩
    rw [hw, Hs.out]; clear hw w3
    go_wp2_with fail
    go_ret
    exact ⟨⟨_, rfl, .inr ⟨hge, by have := HX.out; unfold SmallRd; omega⟩⟩, hbb⟩
end Go.Proofs.Ytjcmndbjpbnogaa
