/- Chapter 7: rounds, orders and rides as plain functions of lists. -/
import Derived.Test.YtfimdhbcifjioaaMem
namespace Go.Proofs.Ytfimdhbcifjioaa
set_option linter.unusedVariables false

structure Sp where
  start : Int
  stop : Int
  work : Int
  bring : Int
  fetch : Int
def inT (x a b : Int) : Bool := decide (a ≤ x) && decide (x ≤ b)
theorem inT_iff (x a b : Int) : inT x a b = true ↔ a ≤ x ∧ x ≤ b := by simp [inT]
theorem inT_no (x a b : Int) : inT x a b = false ↔ ¬ (a ≤ x ∧ x ≤ b) := by
  rw [← inT_iff]; simp
def stopB (s : Sp) : Bool := inT s.stop 0 20000 && inT s.start 0 s.stop && inT s.work 0 200 && inT s.bring 0 1000 && inT s.fetch 0 1000
theorem stopB_iff (s : Sp) : stopB s = true ↔ (0 ≤ s.start ∧ s.start ≤ s.stop ∧ s.stop ≤ 20000 ∧ 0 ≤ s.work ∧ s.work ≤ 200 ∧ 0 ≤ s.bring ∧ s.bring ≤ 1000 ∧ 0 ≤ s.fetch ∧ s.fetch ≤ 1000) := by
  simp only [stopB, Bool.and_eq_true, inT_iff]; omega
/-- a list of legs for n places -/
def rowB (n : Nat) (l : List Int) : Bool := decide (l.length = n) && l.all (fun x => inT x 0 200)
def legsB (n : Nat) (G : List (List Int)) : Bool := decide (G.length = n) && G.all (rowB n)
def roundB (b r : Int) (G : List (List Int)) (S : List Sp) : Bool := inT b 0 20000 && inT r 0 1000 && decide (S.length ≤ 6) && S.all stopB && legsB (S.length + 1) G
theorem rowB_iff (n : Nat) (l : List Int) : rowB n l = true ↔ l.length = n ∧ ∀ x ∈ l, 0 ≤ x ∧ x ≤ 200 := by
  simp only [rowB, Bool.and_eq_true, decide_eq_true_eq, List.all_eq_true, inT_iff]
theorem legsB_iff (n : Nat) (G : List (List Int)) : legsB n G = true ↔ G.length = n ∧ ∀ l ∈ G, l.length = n ∧ ∀ x ∈ l, 0 ≤ x ∧ x ≤ 200 := by
  simp only [legsB, Bool.and_eq_true, decide_eq_true_eq, List.all_eq_true, rowB_iff]
structure RoundT (b r : Int) (G : List (List Int)) (S : List Sp) : Prop where
  b0 : 0 ≤ b
  b1 : b ≤ 20000
  r0 : 0 ≤ r
  r1 : r ≤ 1000
  six : S.length ≤ 6
  stops : ∀ s ∈ S, stopB s = true
  len : G.length = S.length + 1
  row : ∀ l ∈ G, l.length = S.length + 1
  leg : ∀ l ∈ G, ∀ x ∈ l, 0 ≤ x ∧ x ≤ 200
theorem roundB_iff (b r : Int) (G : List (List Int)) (S : List Sp) : roundB b r G S = true ↔ RoundT b r G S := by
  simp only [roundB, Bool.and_eq_true, decide_eq_true_eq, List.all_eq_true, inT_iff, legsB_iff]
  constructor
  · rintro ⟨⟨⟨⟨h1, h2⟩, h3⟩, h4⟩, h5, h6⟩
    exact ⟨h1.1, h1.2, h2.1, h2.2, h3, h4, h5, fun l hl => (h6 l hl).1, fun l hl => (h6 l hl).2⟩
  · intro h
    exact ⟨⟨⟨⟨⟨h.b0, h.b1⟩, h.r0, h.r1⟩, h.six⟩, h.stops⟩, h.len, fun l hl => ⟨h.row l hl, h.leg l hl⟩⟩
def orderT (n : Nat) (o : List Int) : Bool := decide o.Nodup && o.all (fun x => inT x 0 ((n : Int) - 1))
def orderB (b r : Int) (G : List (List Int)) (S : List Sp) (o : List Int) : Bool := roundB b r G S && orderT S.length o
theorem orderT_iff (n : Nat) (o : List Int) : orderT n o = true ↔ o.Nodup ∧ ∀ x ∈ o, 0 ≤ x ∧ x < n := by
  simp only [orderT, Bool.and_eq_true, decide_eq_true_eq, List.all_eq_true, inT_iff]
  exact and_congr Iff.rfl (forall_congr' fun x => forall_congr' fun _ => by omega)
theorem orderB_iff (b r : Int) (G : List (List Int)) (S : List Sp) (o : List Int) : orderB b r G S o = true ↔ RoundT b r G S ∧ o.Nodup ∧ ∀ x ∈ o, 0 ≤ x ∧ x < S.length := by
  simp only [orderB, Bool.and_eq_true, roundB_iff, orderT_iff]

/-- what has been driven so far -/
structure Dv where
  begins : List Int
  fin : Int
  load : Int
  peak : Int
  wait : Int
  place : Int
def stopT (S : List Sp) (i : Int) : Sp := S.getD i.toNat ⟨0, 0, 0, 0, 0⟩
def legT (G : List (List Int)) (i j : Int) : Int := (G.getD i.toNat []).getD j.toNat 0
def stepT (G : List (List Int)) (S : List Sp) (d : Dv) (i : Int) : Option Dv :=
  if (stopT S i).stop < d.fin + legT G d.place (i + 1) then none
  else some ⟨d.begins ++ [max (d.fin + legT G d.place (i + 1)) (stopT S i).start], max (d.fin + legT G d.place (i + 1)) (stopT S i).start + (stopT S i).work,
    d.load + ((stopT S i).fetch - (stopT S i).bring), max d.peak (d.load + ((stopT S i).fetch - (stopT S i).bring)),
    d.wait + (max (d.fin + legT G d.place (i + 1)) (stopT S i).start - (d.fin + legT G d.place (i + 1))), i + 1⟩
def runT (G : List (List Int)) (S : List Sp) : List Int → Dv → Option Dv
  | [], d => some d
  | i :: r, d => match stepT G S d i with
    | none => none
    | some d' => runT G S r d'
def loadT (S : List Sp) (o : List Int) : Int := (o.map fun i => (stopT S i).bring).sum
def homeT (G : List (List Int)) (o : List Int) (d : Dv) : Int := if o = [] then d.fin else d.fin + legT G d.place 0
def driveT (b r : Int) (G : List (List Int)) (S : List Sp) (o : List Int) : Option Dv :=
  match runT G S o ⟨[], b, loadT S o, loadT S o, 0, 0⟩ with
  | none => none
  | some d => if r < d.peak then none else some { d with fin := homeT G o d }
def rideT (b r : Int) (G : List (List Int)) (S : List Sp) (o : List Int) : Option Dv := if orderB b r G S o = true then driveT b r G S o else none
/-- the bounds that hold of what has been driven to k stops of a valid round -/
structure DvOk (S : List Sp) (k : Nat) (d : Dv) : Prop where
  len : d.begins.length = k
  f0 : 0 ≤ d.fin
  f1 : d.fin ≤ 20200
  l0 : -1000 * (k : Int) ≤ d.load
  l1 : d.load ≤ 6000 + 1000 * (k : Int)
  p0 : 0 ≤ d.peak
  p1 : d.peak ≤ 12000
  w0 : 0 ≤ d.wait
  w1 : d.wait ≤ 20000 * (k : Int)
  q0 : 0 ≤ d.place
  q1 : d.place ≤ S.length
theorem stop_mem {S : List Sp} {i : Int} (h0 : 0 ≤ i) (h1 : i < S.length) : stopT S i ∈ S ∧ S[i.toNat]? = some (stopT S i) := by
  have hlt : i.toNat < S.length := by omega
  have e : S[i.toNat]? = some (S[i.toNat]) := List.getElem?_eq_getElem hlt
  have e2 : stopT S i = S[i.toNat] := by rw [stopT, List.getD_eq_getElem?_getD, e]; rfl
  rw [e2]
  exact ⟨List.getElem_mem hlt, e⟩
theorem leg_in {b r : Int} {G : List (List Int)} {S : List Sp} (h : RoundT b r G S) {i j : Int} (i0 : 0 ≤ i) (i1 : i ≤ S.length) (j0 : 0 ≤ j) (j1 : j ≤ S.length) :
    0 ≤ legT G i j ∧ legT G i j ≤ 200 := by
  have hi : i.toNat < G.length := by rw [h.len]; omega
  have e : G.getD i.toNat [] = G[i.toNat] := by rw [List.getD_eq_getElem?_getD, List.getElem?_eq_getElem hi]; rfl
  have hm : G[i.toNat] ∈ G := List.getElem_mem hi
  have hj : j.toNat < (G[i.toNat]).length := by rw [h.row _ hm]; omega
  have e2 : (G[i.toNat]).getD j.toNat 0 = (G[i.toNat])[j.toNat] := by rw [List.getD_eq_getElem?_getD, List.getElem?_eq_getElem hj]; rfl
  rw [legT, e, e2]
  exact h.leg _ hm _ (List.getElem_mem hj)
theorem stepT_ok {b r : Int} {G : List (List Int)} {S : List Sp} (h : RoundT b r G S) {k : Nat} (hk : k < 6) {d d' : Dv} (hd : DvOk S k d) {i : Int} (i0 : 0 ≤ i) (i1 : i < S.length) (hs : stepT G S d i = some d') : DvOk S (k + 1) d' := by
  have hl := leg_in h hd.q0 hd.q1 (show 0 ≤ i + 1 by omega) (show i + 1 ≤ S.length by omega)
  have hst := (stopB_iff _).1 (h.stops _ (stop_mem i0 i1).1)
  unfold stepT at hs
  generalize legT G d.place (i + 1) = L at hs hl
  generalize stopT S i = s at hs hst
  split at hs
  · cases hs
  rename_i hn
  injection hs with hs
  subst hs
  obtain ⟨g1, g2, g3, g4, g5, g6, g7, g8, g9, g10, g11⟩ := hd
  have hm : max (d.fin + L) s.start ≤ s.stop := by omega
  refine ⟨by simp [g1], ?_, ?_, ?_, ?_, ?_, ?_, ?_, ?_, ?_, ?_⟩ <;> dsimp only <;> omega
theorem loadT_ok {S : List Sp} (hS : ∀ s ∈ S, stopB s = true) : ∀ {o : List Int}, (∀ x ∈ o, 0 ≤ x ∧ x < S.length) → 0 ≤ loadT S o ∧ loadT S o ≤ 1000 * (o.length : Int)
  | [], _ => by simp [loadT]
  | i :: q, ho => by
    have ih := loadT_ok hS (o := q) (fun x hx => ho x (List.mem_cons_of_mem _ hx))
    have hi := ho i List.mem_cons_self
    have hst := (stopB_iff _).1 (hS _ (stop_mem hi.1 hi.2).1)
    have e : loadT S (i :: q) = (stopT S i).bring + loadT S q := by simp [loadT]
    rw [e, List.length_cons]
    omega
theorem order_len : ∀ {n : Nat} {o : List Int}, o.Nodup → (∀ x ∈ o, 0 ≤ x ∧ x < n) → o.length ≤ n
  | 0, [], _, _ => Nat.le_refl _
  | 0, x :: q, _, h => by have := h x List.mem_cons_self; omega
  | n + 1, o, hn, h => by
    have h2 : (o.erase (n : Int)).length ≤ n := order_len (hn.erase _) (fun x hx => by
      have hm := (hn.mem_erase_iff).1 hx
      have := h x hm.2
      have h3 : x ≠ (n : Int) := hm.1
      omega)
    rw [List.length_erase] at h2
    split at h2 <;> omega
end Go.Proofs.Ytfimdhbcifjioaa
