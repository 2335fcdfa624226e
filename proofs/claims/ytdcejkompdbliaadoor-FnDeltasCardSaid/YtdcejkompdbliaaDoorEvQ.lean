/- Chapter 8: fates and orders: plain facts. -/
import Derived.Test.YtdcejkompdbliaaDoorEvP
import Derived.Test.YtdcejkompdbliaaDoorOwn
namespace Go.Proofs.YtdcejkompdbliaaDoor
open Go.RowKit
set_option linter.unusedVariables false

structure Ft where
  stg : Int
  sit : Int
  snc : Int
  ext : Int
  who : Int
  fin : Int
  cls : Int
deriving DecidableEq
def zeroF : Ft := ⟨0, 0, 0, 0, 0, 0, 0⟩
def Ft.A (f : Ft) : Array Value := #[.int .i64 f.stg, .int .i64 f.sit, .int .i64 f.snc, .int .i64 f.ext, .int .i64 f.who, .int .i64 f.fin, .int .i64 f.cls]
def Ev.A (e : Ev) : Array Value := #[.int .i64 e.nod, .int .i64 e.seq, .int .i64 e.stm, .int .i64 e.knd, .int .i64 e.par, .int .i64 e.aa, .int .i64 e.bb]
def nextE (f : Ft) (e : Ev) : Ft :=
  if e.knd = 1 ∧ f.stg = 0 then { f with stg := 1, sit := e.aa, snc := e.bb }
  else if e.knd = 2 ∧ f.stg = 1 then { f with ext := f.ext + 1 }
  else if e.knd = 3 ∧ f.stg = 1 then { f with stg := 2, who := e.aa, fin := e.bb }
  else if e.knd = 4 ∧ f.stg = 1 then { f with stg := 3, fin := e.bb }
  else { f with cls := f.cls + 1 }
/-- the numbers that grow -/
def FtIn (f : Ft) (n : Nat) : Prop := (0 ≤ f.ext ∧ f.ext ≤ n) ∧ (0 ≤ f.cls ∧ f.cls ≤ n)
theorem ftIn_zero : FtIn zeroF 0 := by unfold FtIn zeroF; simp
theorem ftIn_more {f : Ft} {n m : Nat} (h : FtIn f n) (hm : n ≤ m) : FtIn f m := by unfold FtIn at *; omega
theorem ftIn_next {f : Ft} {n : Nat} (h : FtIn f n) (e : Ev) : FtIn (nextE f e) (n + 1) := by
  unfold FtIn at *
  unfold nextE
  split
  · simp only; omega
  · split
    · simp only; omega
    · split
      · simp only; omega
      · split <;> simp only <;> omega
/- the order of a list's indices: by stamp, equal ones by index -/
def kI (l : List Ev) (i : Nat) : Ev := (l[i]?).getD zeroE
theorem kI_at {l : List Ev} {i : Nat} {x : Ev} (h : l[i]? = some x) : kI l i = x := by unfold kI; rw [h]; rfl
def ordLt (l : List Ev) (i k : Nat) : Prop := (kI l i).stm < (kI l k).stm ∨ ((kI l i).stm = (kI l k).stm ∧ i < k)
instance (l : List Ev) (i k : Nat) : Decidable (ordLt l i k) := by unfold ordLt; infer_instance
def ordLe (l : List Ev) (i k : Nat) : Bool := decide (¬ ordLt l k i)
theorem ordLe_iff {l : List Ev} {a b : Nat} : ordLe l a b = true ↔ (kI l a).stm < (kI l b).stm ∨ ((kI l a).stm = (kI l b).stm ∧ a ≤ b) := by
  unfold ordLe; rw [decide_eq_true_iff]; unfold ordLt; omega
def orderN (l : List Ev) : List Nat := (List.range l.length).mergeSort (ordLe l)
theorem ordLe_trans (l : List Ev) : ∀ a b c, ordLe l a b = true → ordLe l b c = true → ordLe l a c = true := by
  intro a b c; simp only [ordLe_iff]; omega
theorem ordLe_total (l : List Ev) : ∀ a b, (ordLe l a b || ordLe l b a) = true := by
  intro a b; simp only [Bool.or_eq_true, ordLe_iff]; omega
theorem ordLe_anti {l : List Ev} {a b : Nat} (h1 : ordLe l a b = true) (h2 : ordLe l b a = true) : a = b := by
  rw [ordLe_iff] at h1 h2; omega
theorem orderN_perm (l : List Ev) : (orderN l).Perm (List.range l.length) := List.mergeSort_perm _ _
theorem orderN_len (l : List Ev) : (orderN l).length = l.length := by rw [(orderN_perm l).length_eq, List.length_range]
theorem orderN_le (l : List Ev) : (orderN l).Pairwise (fun a b => ordLe l a b = true) := List.pairwise_mergeSort (ordLe_trans l) (ordLe_total l) _
theorem orderN_mem {l : List Ev} {i : Nat} (h : i ∈ orderN l) : i < l.length := by
  have := (orderN_perm l).mem_iff.1 h; simpa using this
theorem orderN_nodup (l : List Ev) : (orderN l).Nodup := (orderN_perm l).nodup_iff.2 List.nodup_range
theorem order_unique {l : List Ev} {L : List Nat} (hp : L.Perm (List.range l.length)) (hs : L.Pairwise (fun a b => ordLe l a b = true)) : L = orderN l :=
  List.Perm.eq_of_pairwise (fun _ _ _ _ h1 h2 => ordLe_anti h1 h2) hs (orderN_le l) (hp.trans (orderN_perm l).symm)
def natI (L : List Nat) : List Int := L.map Int.ofNat
theorem natI_len (L : List Nat) : (natI L).length = L.length := by simp [natI]
theorem natI_at {L : List Nat} {k i : Nat} (h : L[k]? = some i) : (natI L)[k]? = some (i : Int) := by simp [natI, h]
theorem natI_app (L M : List Nat) : natI (L ++ M) = natI L ++ natI M := by simp [natI]
/-- what OrderOf answers -/
def orderE (l : List Ev) : List Int := if jrnB l then natI (orderN l) else []
theorem orderE_bad {l : List Ev} (h : jrnB l = false) : orderE l = [] := by unfold orderE; rw [h]; rfl
theorem orderE_good {l : List Ev} (h : jrnB l = true) : orderE l = natI (orderN l) := by unfold orderE; rw [h]; rfl
theorem orderE_len (l : List Ev) : (orderE l).length ≤ l.length := by
  unfold orderE; split
  · rw [natI_len, orderN_len]; exact Nat.le_refl _
  · exact Nat.zero_le _
/-- what comes of a parcel by the first n of the order -/
def fateN (l : List Ev) (p : Int) (n : Nat) : Ft := ((orderN l).take n).foldl (fun f i => if (kI l i).par = p then nextE f (kI l i) else f) zeroF
def fateE (l : List Ev) (p : Int) : Ft := if jrnB l then fateN l p l.length else zeroF
theorem fateN_zero (l : List Ev) (p : Int) : fateN l p 0 = zeroF := rfl
theorem fateN_succ {l : List Ev} {p : Int} {k i : Nat} (h : (orderN l)[k]? = some i) : fateN l p (k + 1) = if (kI l i).par = p then nextE (fateN l p k) (kI l i) else fateN l p k := by
  unfold fateN; rw [List.take_add_one, h]; simp [List.foldl_append]
theorem fateN_in (l : List Ev) (p : Int) : ∀ n, FtIn (fateN l p n) n
  | 0 => ftIn_zero
  | n + 1 => by
    cases h : (orderN l)[n]? with
    | none =>
      have : fateN l p (n + 1) = fateN l p n := by unfold fateN; rw [List.take_add_one, h]; simp
      rw [this]; exact ftIn_more (fateN_in l p n) (Nat.le_succ _)
    | some i =>
      rw [fateN_succ h]; split
      · exact ftIn_next (fateN_in l p n) _
      · exact ftIn_more (fateN_in l p n) (Nat.le_succ _)
theorem fateN_full (l : List Ev) (p : Int) {n : Nat} (h : l.length ≤ n) : fateN l p n = fateN l p l.length := by
  unfold fateN; rw [List.take_of_length_le (by rw [orderN_len]; exact h), List.take_of_length_le (by rw [orderN_len]; exact Nat.le_refl _)]
/-- the insertion of the model: L is sorted, i greater than all of L; pre ++ post = L -/
structure InsI (l : List Ev) (i : Nat) (pre post : List Nat) : Prop where
  perm : (pre ++ post).Perm (List.range i)
  srt : (pre ++ post).Pairwise (fun a b => ordLe l a b = true)
  big : ∀ p ∈ post, (kI l i).stm < (kI l p).stm
theorem insI_start {l : List Ev} {i : Nat} {L : List Nat} (hp : L.Perm (List.range i)) (hs : L.Pairwise (fun a b => ordLe l a b = true)) : InsI l i L [] :=
  ⟨by simpa using hp, by simpa using hs, by simp⟩
theorem insI_step {l : List Ev} {i p : Nat} {pre post : List Nat} (h : InsI l i (pre ++ [p]) post) (hb : (kI l i).stm < (kI l p).stm) : InsI l i pre (p :: post) :=
  ⟨by simpa using h.perm, by simpa using h.srt, fun q hq => by rcases List.mem_cons.1 hq with rfl | hq; exact hb; exact h.big q hq⟩
theorem insI_end {l : List Ev} {i : Nat} {pre post : List Nat} (h : InsI l i pre post) (he : ∀ p, pre.getLast? = some p → (kI l p).stm ≤ (kI l i).stm) :
    (pre ++ i :: post).Perm (List.range (i + 1)) ∧ (pre ++ i :: post).Pairwise (fun a b => ordLe l a b = true) := by
  constructor
  · rw [List.range_succ]
    exact (List.perm_middle.trans ((h.perm.cons i).trans (by simpa using List.perm_append_comm (l₁ := [i]) (l₂ := List.range i))))
  · obtain ⟨s1, s2, s3⟩ := List.pairwise_append.1 h.srt
    refine List.pairwise_append.2 ⟨s1, List.pairwise_cons.2 ⟨fun q hq => ?_, s2⟩, fun a ha b hb => ?_⟩
    · have := h.big q hq
      rw [ordLe_iff]; omega
    · rcases List.mem_cons.1 hb with rfl | hb
      · have hai : a < b := by have := h.perm.mem_iff.1 (List.mem_append_left post ha); simpa using this
        have hle : (kI l a).stm ≤ (kI l b).stm := by
          rcases List.eq_nil_or_concat pre with rfl | ⟨q, p, rfl⟩
          · simp at ha
          · have hp := he p (by simp)
            rw [List.concat_eq_append] at ha s1
            rcases List.mem_append.1 ha with ha | ha
            · have := (List.pairwise_append.1 s1).2.2 a ha p (by simp)
              rw [ordLe_iff] at this; omega
            · simp at ha; subst ha; exact hp
        rw [ordLe_iff]; omega
      · exact s3 a ha b hb
end Go.Proofs.YtdcejkompdbliaaDoor
