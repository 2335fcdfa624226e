
/- Chapter 3: contracts of NewLock, TryName and MostWrong, both sides, and of the laws' copies and comparisons. -/
import Derived.Test.YtjpkpfmpjgeeiaaGreatQ17
import Derived.Test.YtjpkpfmpjgeeiaaGreatQ12
import Derived.Test.YtjpkpfmpjgeeiaaGreatQ02
import Derived.StillTailTactics
namespace Go.Proofs.YtjpkpfmpjgeeiaaGreat
open Go.RowKit
set_option linter.unusedVariables false
/-- what NewLock answers -/
def newK (s : Int) : Value := if secB s = true then .tuple #[.agg #[.int .i64 s, .int .i64 0, .int .i64 0, .int .i64 0, .int .i64 0], .bool true] else .tuple #[.agg #[.int .i64 0, .int .i64 0, .int .i64 0, .int .i64 0, .int .i64 0], .bool false]
theorem toLock_any (w : World) (s n t p u : Int) : Calls Tryz.prog 72 #[.agg #[.int .i64 s, .int .i64 n, .int .i64 t, .int .i64 p, .int .i64 u]] w fun e w' => e = .returned (.agg #[.int .i64 s, .int .i64 n, .int .i64 t, .int .i64 p, .int .i64 u]) ∧ Below w.heap.size w w' := by
  go_enter Tryz.func72, Tryz.ntmps72
  go_wp2
  exact bodyPost_ret (v := .agg #[.int .i64 s, .int .i64 n, .int .i64 t, .int .i64 p, .int .i64 u]) (by simp [results, Tryz.results72, go_sem]) rfl ⟨rfl, (((Below.refl _ _).alloc (Nat.le_refl _) _).alloc (by simp) _).alloc (by simp; omega) _⟩
theorem eqLock_any (w : World) (s n t p u : Int) : Calls Tryz.prog 96 #[.agg #[.int .i64 s, .int .i64 n, .int .i64 t, .int .i64 p, .int .i64 u], .agg #[.int .i64 s, .int .i64 n, .int .i64 t, .int .i64 p, .int .i64 u]] w fun e w' => e = .returned (.bool true) ∧ Below w.heap.size w w' := by
  have hb : Below w.heap.size w ((w.alloc (.cells #[.int .i64 s, .int .i64 n, .int .i64 t, .int .i64 p, .int .i64 u] 53)).alloc (.cells #[.int .i64 s, .int .i64 n, .int .i64 t, .int .i64 p, .int .i64 u] 53)) := ((Below.refl _ _).alloc (Nat.le_refl _) _).alloc (by simp) _
  have e0 : (s != s) = false := by simp
  have e1 : (n != n) = false := by simp
  have e2 : (t != t) = false := by simp
  have e3 : (p != p) = false := by simp
  have e4 : (u != u) = false := by simp
  go_enter Tryz.func96, Tryz.ntmps96
  go_wp2
  go_ret
  exact ⟨rfl, hb⟩
/-- the name of a result -/
def tnV (r : Int) : ByteArray := if r = 0 then ⟨#[111, 112, 101, 110]⟩ else if r = 1 then ⟨#[119, 97, 105, 116]⟩ else if r = 2 then ⟨#[119, 114, 111, 110, 103]⟩ else if r = 3 then ⟨#[112, 97, 117, 115, 101]⟩ else if r = 4 then ⟨#[98, 97, 100]⟩ else ⟨#[]⟩
/-- how many wrong codes are tried: f rounds at most -/
def mostL : Nat → Int → Int → Int → Int → Int
  | 0, _, n, _, _ => n
  | f + 1, time, n, t, p => if t ≤ time then mostL f time (n + 3) (t + pow2 p) (min (p + 1) 6) else n
def mostV (time : Int) : Int := if time ≤ 20000 then mostL (time + 1).toNat time 0 0 0 else 0
end Go.Proofs.YtjpkpfmpjgeeiaaGreat
namespace Go.Proofs.YtjpkpfmpjgeeiaaGreat
open Go.RowKit
set_option linter.unusedVariables false
set_option maxRecDepth 100000


structure Pc where
  size : Int
  owner : Int
  site : Int
  stage : Int
  since : Int
  ext : Int
  ls : Int
  ln : Int
  lt : Int
  lp : Int
  lu : Int
  who : Int
  fee : Int
/-- a slice of them reads as the list, below block B -/
def pcL (w : World) (B : Nat) (A : Option Addr) (l : List Pc) : Prop :=
  l = [] ∨ ∃ b off, A = some ⟨b, off, none⟩ ∧ b < B ∧ ∀ k x, l[k]? = some x → w.cell? ⟨b, off + k * 13, none⟩ = some (.int .i64 x.size) ∧ w.cell? ⟨b, off + k * 13 + 1, none⟩ = some (.int .i64 x.owner) ∧ w.cell? ⟨b, off + k * 13 + 2, none⟩ = some (.int .i64 x.site) ∧ w.cell? ⟨b, off + k * 13 + 3, none⟩ = some (.int .i64 x.stage) ∧ w.cell? ⟨b, off + k * 13 + 4, none⟩ = some (.int .i64 x.since) ∧ w.cell? ⟨b, off + k * 13 + 5, none⟩ = some (.int .i64 x.ext) ∧ w.cell? ⟨b, off + k * 13 + 6, none⟩ = some (.int .i64 x.ls) ∧ w.cell? ⟨b, off + k * 13 + 7, none⟩ = some (.int .i64 x.ln) ∧ w.cell? ⟨b, off + k * 13 + 8, none⟩ = some (.int .i64 x.lt) ∧ w.cell? ⟨b, off + k * 13 + 9, none⟩ = some (.int .i64 x.lp) ∧ w.cell? ⟨b, off + k * 13 + 10, none⟩ = some (.int .i64 x.lu) ∧ w.cell? ⟨b, off + k * 13 + 11, none⟩ = some (.int .i64 x.who) ∧ w.cell? ⟨b, off + k * 13 + 12, none⟩ = some (.int .i64 x.fee)
theorem pcL.below {w w' : World} {B : Nat} {A : Option Addr} {l : List Pc} (h : pcL w B A l) (hb : Below B w w') : pcL w' B A l := by
  rcases h with h | ⟨b, off, rfl, hlt, hc⟩
  · exact .inl h
  · refine .inr ⟨b, off, rfl, hlt, fun k x hx => ?_⟩
    have := hc k x hx
    exact ⟨(hb.cell (p := ⟨b, off + k * 13, none⟩) hlt).trans this.1, (hb.cell (p := ⟨b, off + k * 13 + 1, none⟩) hlt).trans this.2.1, (hb.cell (p := ⟨b, off + k * 13 + 2, none⟩) hlt).trans this.2.2.1, (hb.cell (p := ⟨b, off + k * 13 + 3, none⟩) hlt).trans this.2.2.2.1, (hb.cell (p := ⟨b, off + k * 13 + 4, none⟩) hlt).trans this.2.2.2.2.1, (hb.cell (p := ⟨b, off + k * 13 + 5, none⟩) hlt).trans this.2.2.2.2.2.1, (hb.cell (p := ⟨b, off + k * 13 + 6, none⟩) hlt).trans this.2.2.2.2.2.2.1, (hb.cell (p := ⟨b, off + k * 13 + 7, none⟩) hlt).trans this.2.2.2.2.2.2.2.1, (hb.cell (p := ⟨b, off + k * 13 + 8, none⟩) hlt).trans this.2.2.2.2.2.2.2.2.1, (hb.cell (p := ⟨b, off + k * 13 + 9, none⟩) hlt).trans this.2.2.2.2.2.2.2.2.2.1, (hb.cell (p := ⟨b, off + k * 13 + 10, none⟩) hlt).trans this.2.2.2.2.2.2.2.2.2.2.1, (hb.cell (p := ⟨b, off + k * 13 + 11, none⟩) hlt).trans this.2.2.2.2.2.2.2.2.2.2.2.1, (hb.cell (p := ⟨b, off + k * 13 + 12, none⟩) hlt).trans this.2.2.2.2.2.2.2.2.2.2.2.2⟩
theorem pcL.at_ {w : World} {B : Nat} {A : Option Addr} {l : List Pc} (h : pcL w B A l) {k : Nat} (hk : k < l.length) :
    ∃ b off x, A = some ⟨b, off, none⟩ ∧ b < B ∧ l[k]? = some x ∧ w.cell? ⟨b, off + k * 13, none⟩ = some (.int .i64 x.size) ∧ w.cell? ⟨b, off + k * 13 + 1, none⟩ = some (.int .i64 x.owner) ∧ w.cell? ⟨b, off + k * 13 + 2, none⟩ = some (.int .i64 x.site) ∧ w.cell? ⟨b, off + k * 13 + 3, none⟩ = some (.int .i64 x.stage) ∧ w.cell? ⟨b, off + k * 13 + 4, none⟩ = some (.int .i64 x.since) ∧ w.cell? ⟨b, off + k * 13 + 5, none⟩ = some (.int .i64 x.ext) ∧ w.cell? ⟨b, off + k * 13 + 6, none⟩ = some (.int .i64 x.ls) ∧ w.cell? ⟨b, off + k * 13 + 7, none⟩ = some (.int .i64 x.ln) ∧ w.cell? ⟨b, off + k * 13 + 8, none⟩ = some (.int .i64 x.lt) ∧ w.cell? ⟨b, off + k * 13 + 9, none⟩ = some (.int .i64 x.lp) ∧ w.cell? ⟨b, off + k * 13 + 10, none⟩ = some (.int .i64 x.lu) ∧ w.cell? ⟨b, off + k * 13 + 11, none⟩ = some (.int .i64 x.who) ∧ w.cell? ⟨b, off + k * 13 + 12, none⟩ = some (.int .i64 x.fee) := by
  rcases h with h | ⟨b, off, rfl, hlt, hc⟩
  · subst h; simp at hk
  · exact ⟨b, off, _, rfl, hlt, List.getElem?_eq_getElem hk, hc k _ (List.getElem?_eq_getElem hk)⟩
theorem pcL.later {w w' : World} {B : Nat} {A : Option Addr} {l : List Pc} (h : pcL w B A l) (hB : B ≤ w.heap.size) (hb : Below w.heap.size w w') : pcL w' B A l := h.below (hb.mono hB)
theorem pcL.more {w : World} {B B' : Nat} {A : Option Addr} {l : List Pc} (h : pcL w B A l) (hB : B ≤ B') : pcL w B' A l := by
  rcases h with h | ⟨b, off, rfl, hlt, hc⟩
  · exact .inl h
  · exact .inr ⟨b, off, rfl, by omega, hc⟩
def pcC (x : Pc) : List Value := [.int .i64 x.size, .int .i64 x.owner, .int .i64 x.site, .int .i64 x.stage, .int .i64 x.since, .int .i64 x.ext, .int .i64 x.ls, .int .i64 x.ln, .int .i64 x.lt, .int .i64 x.lp, .int .i64 x.lu, .int .i64 x.who, .int .i64 x.fee]
def pcV (l : List Pc) : List Value := l.flatMap pcC
theorem pcV_len (l : List Pc) : (pcV l).length = 13 * l.length := by
  induction l with
  | nil => rfl
  | cons a r ih => simp [pcV, pcC] at ih ⊢; omega
theorem pcV_at : ∀ {l : List Pc} {k : Nat} {x : Pc}, l[k]? = some x → (pcV l)[k * 13]? = some (.int .i64 x.size) ∧ (pcV l)[k * 13 + 1]? = some (.int .i64 x.owner) ∧ (pcV l)[k * 13 + 2]? = some (.int .i64 x.site) ∧ (pcV l)[k * 13 + 3]? = some (.int .i64 x.stage) ∧ (pcV l)[k * 13 + 4]? = some (.int .i64 x.since) ∧ (pcV l)[k * 13 + 5]? = some (.int .i64 x.ext) ∧ (pcV l)[k * 13 + 6]? = some (.int .i64 x.ls) ∧ (pcV l)[k * 13 + 7]? = some (.int .i64 x.ln) ∧ (pcV l)[k * 13 + 8]? = some (.int .i64 x.lt) ∧ (pcV l)[k * 13 + 9]? = some (.int .i64 x.lp) ∧ (pcV l)[k * 13 + 10]? = some (.int .i64 x.lu) ∧ (pcV l)[k * 13 + 11]? = some (.int .i64 x.who) ∧ (pcV l)[k * 13 + 12]? = some (.int .i64 x.fee)
  | [], k, u, h => by simp at h
  | a :: r, 0, u, h => by
    simp at h; subst h
    exact ⟨rfl, rfl, rfl, rfl, rfl, rfl, rfl, rfl, rfl, rfl, rfl, rfl, rfl⟩
  | a :: r, k + 1, u, h => by
    have ih := pcV_at (l := r) (k := k) (x := u) (by simpa using h)
    have e : pcV (a :: r) = .int .i64 a.size :: .int .i64 a.owner :: .int .i64 a.site :: .int .i64 a.stage :: .int .i64 a.since :: .int .i64 a.ext :: .int .i64 a.ls :: .int .i64 a.ln :: .int .i64 a.lt :: .int .i64 a.lp :: .int .i64 a.lu :: .int .i64 a.who :: .int .i64 a.fee :: pcV r := rfl
    rw [e, show (k + 1) * 13 = k * 13 + 1 + 1 + 1 + 1 + 1 + 1 + 1 + 1 + 1 + 1 + 1 + 1 + 1 by omega]
    exact ⟨by simpa using ih.1, by simpa using ih.2.1, by simpa using ih.2.2.1, by simpa using ih.2.2.2.1, by simpa using ih.2.2.2.2.1, by simpa using ih.2.2.2.2.2.1, by simpa using ih.2.2.2.2.2.2.1, by simpa using ih.2.2.2.2.2.2.2.1, by simpa using ih.2.2.2.2.2.2.2.2.1, by simpa using ih.2.2.2.2.2.2.2.2.2.1, by simpa using ih.2.2.2.2.2.2.2.2.2.2.1, by simpa using ih.2.2.2.2.2.2.2.2.2.2.2.1, by simpa using ih.2.2.2.2.2.2.2.2.2.2.2.2⟩
theorem pcV_nil {l : List Pc} (h : pcV l = []) : l = [] := by
  have := congrArg List.length h
  rw [pcV_len] at this
  exact List.eq_nil_of_length_eq_zero (by simp only [List.length_nil] at this; omega)
theorem OR.pc {w : World} {base : Nat} {e : TypeId} {A : Option Addr} {l : List Pc} (h : OR w base e A (pcV l)) : pcL w w.heap.size A l := by
  rcases h with h | ⟨g, cur, rfl, hb, hh, hc⟩
  · exact .inl (pcV_nil h)
  · refine .inr ⟨g, 0, rfl, has_lt hh, fun k x hx => ?_⟩
    have := pcV_at hx
    rw [Nat.zero_add]
    exact ⟨has_cell hh _ (hc _ _ this.1), has_cell hh _ (hc _ _ this.2.1), has_cell hh _ (hc _ _ this.2.2.1), has_cell hh _ (hc _ _ this.2.2.2.1), has_cell hh _ (hc _ _ this.2.2.2.2.1), has_cell hh _ (hc _ _ this.2.2.2.2.2.1), has_cell hh _ (hc _ _ this.2.2.2.2.2.2.1), has_cell hh _ (hc _ _ this.2.2.2.2.2.2.2.1), has_cell hh _ (hc _ _ this.2.2.2.2.2.2.2.2.1), has_cell hh _ (hc _ _ this.2.2.2.2.2.2.2.2.2.1), has_cell hh _ (hc _ _ this.2.2.2.2.2.2.2.2.2.2.1), has_cell hh _ (hc _ _ this.2.2.2.2.2.2.2.2.2.2.2.1), has_cell hh _ (hc _ _ this.2.2.2.2.2.2.2.2.2.2.2.2)⟩
theorem OI.pc {w : World} {lo hi : Nat} {e : TypeId} {A : Option Addr} {l : List Pc} (h : OI w lo hi e A (pcV l)) : pcL w w.heap.size A l := h.or_.pc
theorem pcV_of {l : List Pc} {cs : Array Value} (h : ∀ j x, j < l.length → l[j]? = some x → cs[j * 13]? = some (.int .i64 x.size) ∧ cs[j * 13 + 1]? = some (.int .i64 x.owner) ∧ cs[j * 13 + 2]? = some (.int .i64 x.site) ∧ cs[j * 13 + 3]? = some (.int .i64 x.stage) ∧ cs[j * 13 + 4]? = some (.int .i64 x.since) ∧ cs[j * 13 + 5]? = some (.int .i64 x.ext) ∧ cs[j * 13 + 6]? = some (.int .i64 x.ls) ∧ cs[j * 13 + 7]? = some (.int .i64 x.ln) ∧ cs[j * 13 + 8]? = some (.int .i64 x.lt) ∧ cs[j * 13 + 9]? = some (.int .i64 x.lp) ∧ cs[j * 13 + 10]? = some (.int .i64 x.lu) ∧ cs[j * 13 + 11]? = some (.int .i64 x.who) ∧ cs[j * 13 + 12]? = some (.int .i64 x.fee)) : ∀ (j : Nat) (u : Value), (pcV l)[j]? = some u → cs[j]? = some u := by
  intro j u hu
  have hj : j < 13 * l.length := by have := (List.getElem?_eq_some_iff.1 hu).1; rwa [pcV_len] at this
  obtain ⟨q, r, rfl, hr⟩ : ∃ q r, j = q * 13 + r ∧ r < 13 := ⟨j / 13, j % 13, by omega, by omega⟩
  have hq : q < l.length := by omega
  have hx := List.getElem?_eq_getElem hq
  have h1 := pcV_at hx
  have h2 := h q _ hq hx
  rcases r with _ | _ | _ | _ | _ | _ | _ | _ | _ | _ | _ | _ | _ | r
  · rw [Nat.add_zero] at hu ⊢; rw [h1.1] at hu; rw [h2.1]; exact hu
  · rw [h1.2.1] at hu; rw [h2.2.1]; exact hu
  · rw [h1.2.2.1] at hu; rw [h2.2.2.1]; exact hu
  · rw [h1.2.2.2.1] at hu; rw [h2.2.2.2.1]; exact hu
  · rw [h1.2.2.2.2.1] at hu; rw [h2.2.2.2.2.1]; exact hu
  · rw [h1.2.2.2.2.2.1] at hu; rw [h2.2.2.2.2.2.1]; exact hu
  · rw [h1.2.2.2.2.2.2.1] at hu; rw [h2.2.2.2.2.2.2.1]; exact hu
  · rw [h1.2.2.2.2.2.2.2.1] at hu; rw [h2.2.2.2.2.2.2.2.1]; exact hu
  · rw [h1.2.2.2.2.2.2.2.2.1] at hu; rw [h2.2.2.2.2.2.2.2.2.1]; exact hu
  · rw [h1.2.2.2.2.2.2.2.2.2.1] at hu; rw [h2.2.2.2.2.2.2.2.2.2.1]; exact hu
  · rw [h1.2.2.2.2.2.2.2.2.2.2.1] at hu; rw [h2.2.2.2.2.2.2.2.2.2.2.1]; exact hu
  · rw [h1.2.2.2.2.2.2.2.2.2.2.2.1] at hu; rw [h2.2.2.2.2.2.2.2.2.2.2.2.1]; exact hu
  · rw [h1.2.2.2.2.2.2.2.2.2.2.2.2] at hu; rw [h2.2.2.2.2.2.2.2.2.2.2.2.2]; exact hu
  · omega
def seqpc (k : Int) (m : Nat) : List Pc := (List.range m).map fun (j : Nat) => ⟨k + 13 * (j : Int), k + 13 * (j : Int) + 1, k + 13 * (j : Int) + 1 + 1, k + 13 * (j : Int) + 1 + 1 + 1, k + 13 * (j : Int) + 1 + 1 + 1 + 1, k + 13 * (j : Int) + 1 + 1 + 1 + 1 + 1, k + 13 * (j : Int) + 1 + 1 + 1 + 1 + 1 + 1, k + 13 * (j : Int) + 1 + 1 + 1 + 1 + 1 + 1 + 1, k + 13 * (j : Int) + 1 + 1 + 1 + 1 + 1 + 1 + 1 + 1, k + 13 * (j : Int) + 1 + 1 + 1 + 1 + 1 + 1 + 1 + 1 + 1, k + 13 * (j : Int) + 1 + 1 + 1 + 1 + 1 + 1 + 1 + 1 + 1 + 1, k + 13 * (j : Int) + 1 + 1 + 1 + 1 + 1 + 1 + 1 + 1 + 1 + 1 + 1, k + 13 * (j : Int) + 1 + 1 + 1 + 1 + 1 + 1 + 1 + 1 + 1 + 1 + 1 + 1⟩
theorem szParcel_any (w : World) (A : Option Addr) (n c : Nat) (left : Int) (hn : n ≤ maxLen) (h1 : 0 ≤ left) (h2 : left ≤ 1048576) :
    Calls Tryz.prog 14 #[.slice A n c, .int .i64 left] w fun e w' => e = .returned (.int .i64 (szI left n)) ∧ w' = w := by
  unfold maxLen at hn
  by_cases h : left < n
  · go_enter Tryz.func14, Tryz.ntmps14
    go_wp2
    go_ret
    exact ⟨ret_int (if_pos (by omega)).symm, rfl⟩
  · go_enter Tryz.func14, Tryz.ntmps14
    go_wp2
    go_ret
    exact ⟨ret_int (if_neg (by omega)).symm, rfl⟩
theorem pcInfo : (Tryz.prog.info? 55).map (fun i => (i.zero, i.size, i.bytes)) = some (some (.agg #[.int .i64 0, .int .i64 0, .int .i64 0, .int .i64 0, .int .i64 0, .int .i64 0, .int .i64 0, .int .i64 0, .int .i64 0, .int .i64 0, .int .i64 0, .int .i64 0, .int .i64 0]), 13, 104) := by kernel_rfl

set_option maxHeartbeats 2000000 in
theorem toParcel_any (x0 : Int) (x1 : Int) (x2 : Int) (x3 : Int) (x4 : Int) (x5 : Int) (x6 : Int) (x7 : Int) (x8 : Int) (x9 : Int) (x10 : Int) (x11 : Int) (x12 : Int) (w : World) :
    Calls Tryz.prog 42 #[.agg #[.int .i64 x0, .int .i64 x1, .int .i64 x2, .int .i64 x3, .int .i64 x4, .int .i64 x5, .int .i64 x6, .int .i64 x7, .int .i64 x8, .int .i64 x9, .int .i64 x10, .int .i64 x11, .int .i64 x12]] w fun e w' => e = .returned (.agg #[.int .i64 x0, .int .i64 x1, .int .i64 x2, .int .i64 x3, .int .i64 x4, .int .i64 x5, .int .i64 x6, .int .i64 x7, .int .i64 x8, .int .i64 x9, .int .i64 x10, .int .i64 x11, .int .i64 x12]) ∧ Below w.heap.size w w' := by
  go_enter Tryz.func42, Tryz.ntmps42
  go_wp2_with fail
  generalize hW1 : (((w.alloc (.cells #[.int .i64 x0, .int .i64 x1, .int .i64 x2, .int .i64 x3, .int .i64 x4, .int .i64 x5, .int .i64 x6, .int .i64 x7, .int .i64 x8, .int .i64 x9, .int .i64 x10, .int .i64 x11, .int .i64 x12] 93)).alloc (.cells #[.int .i64 0, .int .i64 0, .int .i64 0, .int .i64 0, .int .i64 0, .int .i64 0, .int .i64 0, .int .i64 0, .int .i64 0, .int .i64 0, .int .i64 0, .int .i64 0, .int .i64 0] 55)).alloc (.cells #[.int .i64 x0, .int .i64 x1, .int .i64 x2, .int .i64 x3, .int .i64 x4, .int .i64 x5, .int .i64 0, .int .i64 0, .int .i64 0, .int .i64 0, .int .i64 0, .int .i64 0, .int .i64 0] 55)) = w1
  have b1 : Below w.heap.size w w1 := by rw [← hW1]; exact bthen (bthen (balloc _ _) (balloc _ _)) (balloc _ _)
  have c0 : Has w1 w.heap.size 93 #[.int .i64 x0, .int .i64 x1, .int .i64 x2, .int .i64 x3, .int .i64 x4, .int .i64 x5, .int .i64 x6, .int .i64 x7, .int .i64 x8, .int .i64 x9, .int .i64 x10, .int .i64 x11, .int .i64 x12] := by rw [← hW1]; exact has_alloc (has_alloc (has_new _ _ _) _) _
  have c1 : Has w1 (w.heap.size + 1) 55 #[.int .i64 0, .int .i64 0, .int .i64 0, .int .i64 0, .int .i64 0, .int .i64 0, .int .i64 0, .int .i64 0, .int .i64 0, .int .i64 0, .int .i64 0, .int .i64 0, .int .i64 0] := by rw [← hW1]; have := has_alloc (has_new (w.alloc (.cells #[.int .i64 x0, .int .i64 x1, .int .i64 x2, .int .i64 x3, .int .i64 x4, .int .i64 x5, .int .i64 x6, .int .i64 x7, .int .i64 x8, .int .i64 x9, .int .i64 x10, .int .i64 x11, .int .i64 x12] 93)) 55 #[.int .i64 0, .int .i64 0, .int .i64 0, .int .i64 0, .int .i64 0, .int .i64 0, .int .i64 0, .int .i64 0, .int .i64 0, .int .i64 0, .int .i64 0, .int .i64 0, .int .i64 0]) (.cells #[.int .i64 x0, .int .i64 x1, .int .i64 x2, .int .i64 x3, .int .i64 x4, .int .i64 x5, .int .i64 0, .int .i64 0, .int .i64 0, .int .i64 0, .int .i64 0, .int .i64 0, .int .i64 0] 55); simpa using this
  have c2 : Has w1 (w.heap.size + 1 + 1) 55 #[.int .i64 x0, .int .i64 x1, .int .i64 x2, .int .i64 x3, .int .i64 x4, .int .i64 x5, .int .i64 0, .int .i64 0, .int .i64 0, .int .i64 0, .int .i64 0, .int .i64 0, .int .i64 0] := by rw [← hW1]; have := has_new ((w.alloc (.cells #[.int .i64 x0, .int .i64 x1, .int .i64 x2, .int .i64 x3, .int .i64 x4, .int .i64 x5, .int .i64 x6, .int .i64 x7, .int .i64 x8, .int .i64 x9, .int .i64 x10, .int .i64 x11, .int .i64 x12] 93)).alloc (.cells #[.int .i64 0, .int .i64 0, .int .i64 0, .int .i64 0, .int .i64 0, .int .i64 0, .int .i64 0, .int .i64 0, .int .i64 0, .int .i64 0, .int .i64 0, .int .i64 0, .int .i64 0] 55)) 55 #[.int .i64 x0, .int .i64 x1, .int .i64 x2, .int .i64 x3, .int .i64 x4, .int .i64 x5, .int .i64 0, .int .i64 0, .int .i64 0, .int .i64 0, .int .i64 0, .int .i64 0, .int .i64 0]; simpa using this
  clear hW1
  refine (toLock_any w1 x6 x7 x8 x9 x10).mono ?_
  rintro e w2 ⟨rfl, hb2⟩
  have m0 := has_call c0 hb2; have m1 := has_call c1 hb2; have m2 := has_call c2 hb2
  have b2 := bthen b1 hb2
  have hz2 := has_lt m2
  have q0 := has_cell m0 0 rfl; have q1 := has_cell m0 1 rfl; have q2 := has_cell m0 2 rfl; have q3 := has_cell m0 3 rfl; have q4 := has_cell m0 4 rfl; have q5 := has_cell m0 5 rfl; have q6 := has_cell m0 6 rfl; have q7 := has_cell m0 7 rfl; have q8 := has_cell m0 8 rfl; have q9 := has_cell m0 9 rfl; have q10 := has_cell m0 10 rfl; have q11 := has_cell m0 11 rfl; have q12 := has_cell m0 12 rfl
  have r0 := has_cell m2 0 rfl; have s0 := has_free m2 0; have r1 := has_cell m2 1 rfl; have s1 := has_free m2 1; have r2 := has_cell m2 2 rfl; have s2 := has_free m2 2; have r3 := has_cell m2 3 rfl; have s3 := has_free m2 3; have r4 := has_cell m2 4 rfl; have s4 := has_free m2 4; have r5 := has_cell m2 5 rfl; have s5 := has_free m2 5; have r6 := has_cell m2 6 rfl; have s6 := has_free m2 6; have r7 := has_cell m2 7 rfl; have s7 := has_free m2 7; have r8 := has_cell m2 8 rfl; have s8 := has_free m2 8; have r9 := has_cell m2 9 rfl; have s9 := has_free m2 9; have r10 := has_cell m2 10 rfl; have s10 := has_free m2 10; have r11 := has_cell m2 11 rfl; have s11 := has_free m2 11; have r12 := has_cell m2 12 rfl; have s12 := has_free m2 12
  have t0 := has_cell m1 0 rfl; have u0 := has_free m1 0; have t1 := has_cell m1 1 rfl; have u1 := has_free m1 1; have t2 := has_cell m1 2 rfl; have u2 := has_free m1 2; have t3 := has_cell m1 3 rfl; have u3 := has_free m1 3; have t4 := has_cell m1 4 rfl; have u4 := has_free m1 4; have t5 := has_cell m1 5 rfl; have u5 := has_free m1 5; have t6 := has_cell m1 6 rfl; have u6 := has_free m1 6; have t7 := has_cell m1 7 rfl; have u7 := has_free m1 7; have t8 := has_cell m1 8 rfl; have u8 := has_free m1 8; have t9 := has_cell m1 9 rfl; have u9 := has_free m1 9; have t10 := has_cell m1 10 rfl; have u10 := has_free m1 10; have t11 := has_cell m1 11 rfl; have u11 := has_free m1 11; have t12 := has_cell m1 12 rfl; have u12 := has_free m1 12
  have z0 := has_lt m0; have z1 := has_lt m1
  clear c0 c1 c2 hb2 b1
  have M1 := Lib.hid m1; have M2 := Lib.hid m2; have B2 := Lib.hid b2; clear m0 m1 m2 b2
  go_wp2_with fail
  have hf : Has ((((((((((((((((((((w2.setCell ⟨w.heap.size + 1 + 1, 6, none⟩ (.int .i64 x6)).setCell ⟨w.heap.size + 1 + 1, 7, none⟩ (.int .i64 x7)).setCell ⟨w.heap.size + 1 + 1, 8, none⟩ (.int .i64 x8)).setCell ⟨w.heap.size + 1 + 1, 9, none⟩ (.int .i64 x9)).setCell ⟨w.heap.size + 1 + 1, 10, none⟩ (.int .i64 x10)).setCell ⟨w.heap.size + 1 + 1, 11, none⟩ (.int .i64 x11)).setCell ⟨w.heap.size + 1 + 1, 12, none⟩ (.int .i64 x12)).setCell ⟨w.heap.size + 1, 0, none⟩ (.int .i64 x0)).setCell ⟨w.heap.size + 1, 1, none⟩ (.int .i64 x1)).setCell ⟨w.heap.size + 1, 2, none⟩ (.int .i64 x2)).setCell ⟨w.heap.size + 1, 3, none⟩ (.int .i64 x3)).setCell ⟨w.heap.size + 1, 4, none⟩ (.int .i64 x4)).setCell ⟨w.heap.size + 1, 5, none⟩ (.int .i64 x5)).setCell ⟨w.heap.size + 1, 6, none⟩ (.int .i64 x6)).setCell ⟨w.heap.size + 1, 7, none⟩ (.int .i64 x7)).setCell ⟨w.heap.size + 1, 8, none⟩ (.int .i64 x8)).setCell ⟨w.heap.size + 1, 9, none⟩ (.int .i64 x9)).setCell ⟨w.heap.size + 1, 10, none⟩ (.int .i64 x10)).setCell ⟨w.heap.size + 1, 11, none⟩ (.int .i64 x11)).setCell ⟨w.heap.size + 1, 12, none⟩ (.int .i64 x12)) (w.heap.size + 1) 55 #[.int .i64 x0, .int .i64 x1, .int .i64 x2, .int .i64 x3, .int .i64 x4, .int .i64 x5, .int .i64 x6, .int .i64 x7, .int .i64 x8, .int .i64 x9, .int .i64 x10, .int .i64 x11, .int .i64 x12] := by
    have h9 := (has_set (has_set (has_set (has_set (has_set (has_set (has_set (has_set (has_set (has_set (has_set (has_set (has_set (has_far (has_far (has_far (has_far (has_far (has_far (has_far M1.out (p := ⟨w.heap.size + 1 + 1, 6, none⟩) (by simp) (.int .i64 x6)) (p := ⟨w.heap.size + 1 + 1, 7, none⟩) (by simp) (.int .i64 x7)) (p := ⟨w.heap.size + 1 + 1, 8, none⟩) (by simp) (.int .i64 x8)) (p := ⟨w.heap.size + 1 + 1, 9, none⟩) (by simp) (.int .i64 x9)) (p := ⟨w.heap.size + 1 + 1, 10, none⟩) (by simp) (.int .i64 x10)) (p := ⟨w.heap.size + 1 + 1, 11, none⟩) (by simp) (.int .i64 x11)) (p := ⟨w.heap.size + 1 + 1, 12, none⟩) (by simp) (.int .i64 x12)) 0 (.int .i64 x0)) 1 (.int .i64 x1)) 2 (.int .i64 x2)) 3 (.int .i64 x3)) 4 (.int .i64 x4)) 5 (.int .i64 x5)) 6 (.int .i64 x6)) 7 (.int .i64 x7)) 8 (.int .i64 x8)) 9 (.int .i64 x9)) 10 (.int .i64 x10)) 11 (.int .i64 x11)) 12 (.int .i64 x12))
    simp only [l9a, l9z, l9s] at h9
    exact h9
  have g0 := has_cell hf 0 rfl; have g1 := has_cell hf 1 rfl; have g2 := has_cell hf 2 rfl; have g3 := has_cell hf 3 rfl; have g4 := has_cell hf 4 rfl; have g5 := has_cell hf 5 rfl; have g6 := has_cell hf 6 rfl; have g7 := has_cell hf 7 rfl; have g8 := has_cell hf 8 rfl; have g9 := has_cell hf 9 rfl; have g10 := has_cell hf 10 rfl; have g11 := has_cell hf 11 rfl; have g12 := has_cell hf 12 rfl
  clear hf
  refine bodyPost_ret (v := .agg #[.int .i64 x0, .int .i64 x1, .int .i64 x2, .int .i64 x3, .int .i64 x4, .int .i64 x5, .int .i64 x6, .int .i64 x7, .int .i64 x8, .int .i64 x9, .int .i64 x10, .int .i64 x11, .int .i64 x12]) (by simp [results, Tryz.results42, go_sem, g0, g1, g2, g3, g4, g5, g6, g7, g8, g9, g10, g11, g12]) rfl ⟨rfl, ((((((((((((((((((((B2.out.setCell (p := ⟨w.heap.size + 1 + 1, 6, none⟩) (by simp; omega) (.int .i64 x6)).setCell (p := ⟨w.heap.size + 1 + 1, 7, none⟩) (by simp; omega) (.int .i64 x7)).setCell (p := ⟨w.heap.size + 1 + 1, 8, none⟩) (by simp; omega) (.int .i64 x8)).setCell (p := ⟨w.heap.size + 1 + 1, 9, none⟩) (by simp; omega) (.int .i64 x9)).setCell (p := ⟨w.heap.size + 1 + 1, 10, none⟩) (by simp; omega) (.int .i64 x10)).setCell (p := ⟨w.heap.size + 1 + 1, 11, none⟩) (by simp; omega) (.int .i64 x11)).setCell (p := ⟨w.heap.size + 1 + 1, 12, none⟩) (by simp; omega) (.int .i64 x12)).setCell (p := ⟨w.heap.size + 1, 0, none⟩) (by simp) (.int .i64 x0)).setCell (p := ⟨w.heap.size + 1, 1, none⟩) (by simp) (.int .i64 x1)).setCell (p := ⟨w.heap.size + 1, 2, none⟩) (by simp) (.int .i64 x2)).setCell (p := ⟨w.heap.size + 1, 3, none⟩) (by simp) (.int .i64 x3)).setCell (p := ⟨w.heap.size + 1, 4, none⟩) (by simp) (.int .i64 x4)).setCell (p := ⟨w.heap.size + 1, 5, none⟩) (by simp) (.int .i64 x5)).setCell (p := ⟨w.heap.size + 1, 6, none⟩) (by simp) (.int .i64 x6)).setCell (p := ⟨w.heap.size + 1, 7, none⟩) (by simp) (.int .i64 x7)).setCell (p := ⟨w.heap.size + 1, 8, none⟩) (by simp) (.int .i64 x8)).setCell (p := ⟨w.heap.size + 1, 9, none⟩) (by simp) (.int .i64 x9)).setCell (p := ⟨w.heap.size + 1, 10, none⟩) (by simp) (.int .i64 x10)).setCell (p := ⟨w.heap.size + 1, 11, none⟩) (by simp) (.int .i64 x11)).setCell (p := ⟨w.heap.size + 1, 12, none⟩) (by simp) (.int .i64 x12))⟩
set_option maxHeartbeats 2000000 in
theorem eqParcel_any (x0 : Int) (x1 : Int) (x2 : Int) (x3 : Int) (x4 : Int) (x5 : Int) (x6 : Int) (x7 : Int) (x8 : Int) (x9 : Int) (x10 : Int) (x11 : Int) (x12 : Int) (w : World) :
    Calls Tryz.prog 51 #[.agg #[.int .i64 x0, .int .i64 x1, .int .i64 x2, .int .i64 x3, .int .i64 x4, .int .i64 x5, .int .i64 x6, .int .i64 x7, .int .i64 x8, .int .i64 x9, .int .i64 x10, .int .i64 x11, .int .i64 x12], .agg #[.int .i64 x0, .int .i64 x1, .int .i64 x2, .int .i64 x3, .int .i64 x4, .int .i64 x5, .int .i64 x6, .int .i64 x7, .int .i64 x8, .int .i64 x9, .int .i64 x10, .int .i64 x11, .int .i64 x12]] w fun e w' => e = .returned (.bool true) ∧ Below w.heap.size w w' := by
  have e0 : (x0 != x0) = false := by simp
  have e1 : (x1 != x1) = false := by simp
  have e2 : (x2 != x2) = false := by simp
  have e3 : (x3 != x3) = false := by simp
  have e4 : (x4 != x4) = false := by simp
  have e5 : (x5 != x5) = false := by simp
  have e11 : (x11 != x11) = false := by simp
  have e12 : (x12 != x12) = false := by simp
  go_enter Tryz.func51, Tryz.ntmps51
  go_wp2_with fail
  generalize hW0 : ((w.alloc (.cells #[.int .i64 x0, .int .i64 x1, .int .i64 x2, .int .i64 x3, .int .i64 x4, .int .i64 x5, .int .i64 x6, .int .i64 x7, .int .i64 x8, .int .i64 x9, .int .i64 x10, .int .i64 x11, .int .i64 x12] 55)).alloc (.cells #[.int .i64 x0, .int .i64 x1, .int .i64 x2, .int .i64 x3, .int .i64 x4, .int .i64 x5, .int .i64 x6, .int .i64 x7, .int .i64 x8, .int .i64 x9, .int .i64 x10, .int .i64 x11, .int .i64 x12] 55)) = w0
  have b0 : Below w.heap.size w w0 := by rw [← hW0]; exact bthen (balloc _ _) (balloc _ _)
  have k0 : Has w0 w.heap.size 55 #[.int .i64 x0, .int .i64 x1, .int .i64 x2, .int .i64 x3, .int .i64 x4, .int .i64 x5, .int .i64 x6, .int .i64 x7, .int .i64 x8, .int .i64 x9, .int .i64 x10, .int .i64 x11, .int .i64 x12] := by rw [← hW0]; exact has_alloc (has_new _ _ _) _
  have k1 : Has w0 (w.heap.size + 1) 55 #[.int .i64 x0, .int .i64 x1, .int .i64 x2, .int .i64 x3, .int .i64 x4, .int .i64 x5, .int .i64 x6, .int .i64 x7, .int .i64 x8, .int .i64 x9, .int .i64 x10, .int .i64 x11, .int .i64 x12] := by rw [← hW0]; have := has_new (w.alloc (.cells #[.int .i64 x0, .int .i64 x1, .int .i64 x2, .int .i64 x3, .int .i64 x4, .int .i64 x5, .int .i64 x6, .int .i64 x7, .int .i64 x8, .int .i64 x9, .int .i64 x10, .int .i64 x11, .int .i64 x12] 55)) 55 #[.int .i64 x0, .int .i64 x1, .int .i64 x2, .int .i64 x3, .int .i64 x4, .int .i64 x5, .int .i64 x6, .int .i64 x7, .int .i64 x8, .int .i64 x9, .int .i64 x10, .int .i64 x11, .int .i64 x12]; simpa using this
  clear hW0
  refine (eqLock_any w0 x6 x7 x8 x9 x10).mono ?_
  rintro e w1 ⟨rfl, hb1⟩
  have m0 := has_call k0 hb1; have m1 := has_call k1 hb1; have b1 := bthen b0 hb1
  have z0 := has_lt m0; have z1 := has_lt m1
  have q7 := has_cell m0 11 rfl; have q8 := has_cell m0 12 rfl; have r7 := has_cell m1 11 rfl; have r8 := has_cell m1 12 rfl
  clear m0 m1 k0 k1 b0 hb1
  go_wp2_with fail
  go_ret
  exact ⟨rfl, b1⟩

/-- block g holds the first k of the list, and has room for all of them -/
structure Copiedpc (w : World) (g : Nat) (cs : Array Value) (l : List Pc) (k : Nat) : Prop where
  heap : Has w g 55 cs
  size : l.length * 13 ≤ cs.size
  got : ∀ j x, j < k → l[j]? = some x → cs[j * 13]? = some (.int .i64 x.size) ∧ cs[j * 13 + 1]? = some (.int .i64 x.owner) ∧ cs[j * 13 + 2]? = some (.int .i64 x.site) ∧ cs[j * 13 + 3]? = some (.int .i64 x.stage) ∧ cs[j * 13 + 4]? = some (.int .i64 x.since) ∧ cs[j * 13 + 5]? = some (.int .i64 x.ext) ∧ cs[j * 13 + 6]? = some (.int .i64 x.ls) ∧ cs[j * 13 + 7]? = some (.int .i64 x.ln) ∧ cs[j * 13 + 8]? = some (.int .i64 x.lt) ∧ cs[j * 13 + 9]? = some (.int .i64 x.lp) ∧ cs[j * 13 + 10]? = some (.int .i64 x.lu) ∧ cs[j * 13 + 11]? = some (.int .i64 x.who) ∧ cs[j * 13 + 12]? = some (.int .i64 x.fee)
theorem Copiedpc.below {w w' : World} {g : Nat} {cs : Array Value} {l : List Pc} {k : Nat} (h : Copiedpc w g cs l k) (hb : Below w.heap.size w w') : Copiedpc w' g cs l k := ⟨has_call h.heap hb, h.size, h.got⟩
theorem Copiedpc.cellAt {w : World} {g : Nat} {cs : Array Value} {l : List Pc} {k j : Nat} (h : Copiedpc w g cs l k) (hj : j < l.length * 13) : ∃ u, w.cell? ⟨g, j, none⟩ = some u :=
  ⟨cs[j]'(Nat.lt_of_lt_of_le hj h.size), has_cell h.heap j (Array.getElem?_eq_getElem _)⟩
theorem Copiedpc.step {w : World} {g : Nat} {cs : Array Value} {l : List Pc} {k : Nat} (h : Copiedpc w g cs l k) {x : Pc} (hx : l[k]? = some x) :
    Copiedpc (((((((((((((w.setCell ⟨g, k * 13, none⟩ (.int .i64 x.size)).setCell ⟨g, k * 13 + 1, none⟩ (.int .i64 x.owner)).setCell ⟨g, k * 13 + 2, none⟩ (.int .i64 x.site)).setCell ⟨g, k * 13 + 3, none⟩ (.int .i64 x.stage)).setCell ⟨g, k * 13 + 4, none⟩ (.int .i64 x.since)).setCell ⟨g, k * 13 + 5, none⟩ (.int .i64 x.ext)).setCell ⟨g, k * 13 + 6, none⟩ (.int .i64 x.ls)).setCell ⟨g, k * 13 + 7, none⟩ (.int .i64 x.ln)).setCell ⟨g, k * 13 + 8, none⟩ (.int .i64 x.lt)).setCell ⟨g, k * 13 + 9, none⟩ (.int .i64 x.lp)).setCell ⟨g, k * 13 + 10, none⟩ (.int .i64 x.lu)).setCell ⟨g, k * 13 + 11, none⟩ (.int .i64 x.who)).setCell ⟨g, k * 13 + 12, none⟩ (.int .i64 x.fee)) g (((((((((((((cs.setIfInBounds (k * 13) (.int .i64 x.size)).setIfInBounds (k * 13 + 1) (.int .i64 x.owner)).setIfInBounds (k * 13 + 2) (.int .i64 x.site)).setIfInBounds (k * 13 + 3) (.int .i64 x.stage)).setIfInBounds (k * 13 + 4) (.int .i64 x.since)).setIfInBounds (k * 13 + 5) (.int .i64 x.ext)).setIfInBounds (k * 13 + 6) (.int .i64 x.ls)).setIfInBounds (k * 13 + 7) (.int .i64 x.ln)).setIfInBounds (k * 13 + 8) (.int .i64 x.lt)).setIfInBounds (k * 13 + 9) (.int .i64 x.lp)).setIfInBounds (k * 13 + 10) (.int .i64 x.lu)).setIfInBounds (k * 13 + 11) (.int .i64 x.who)).setIfInBounds (k * 13 + 12) (.int .i64 x.fee)) l (k + 1) := by
  have hlt : k < l.length := (List.getElem?_eq_some_iff.1 hx).1
  have hsz := h.size
  refine ⟨(has_set (has_set (has_set (has_set (has_set (has_set (has_set (has_set (has_set (has_set (has_set (has_set (has_set h.heap _ _) _ _) _ _) _ _) _ _) _ _) _ _) _ _) _ _) _ _) _ _) _ _) _ _), by simpa using h.size, fun j y hj hy => ?_⟩
  by_cases hjk : j = k
  · subst hjk
    obtain rfl : x = y := by rw [hx] at hy; injection hy
    simp only [Array.getElem?_setIfInBounds, Array.size_setIfInBounds]
    refine ⟨?_, ?_, ?_, ?_, ?_, ?_, ?_, ?_, ?_, ?_, ?_, ?_, ?_⟩
    · rw [if_neg (by omega), if_neg (by omega), if_neg (by omega), if_neg (by omega), if_neg (by omega), if_neg (by omega), if_neg (by omega), if_neg (by omega), if_neg (by omega), if_neg (by omega), if_neg (by omega), if_neg (by omega), if_pos trivial, if_pos (by omega)]
    · rw [if_neg (by omega), if_neg (by omega), if_neg (by omega), if_neg (by omega), if_neg (by omega), if_neg (by omega), if_neg (by omega), if_neg (by omega), if_neg (by omega), if_neg (by omega), if_neg (by omega), if_pos trivial, if_pos (by omega)]
    · rw [if_neg (by omega), if_neg (by omega), if_neg (by omega), if_neg (by omega), if_neg (by omega), if_neg (by omega), if_neg (by omega), if_neg (by omega), if_neg (by omega), if_neg (by omega), if_pos trivial, if_pos (by omega)]
    · rw [if_neg (by omega), if_neg (by omega), if_neg (by omega), if_neg (by omega), if_neg (by omega), if_neg (by omega), if_neg (by omega), if_neg (by omega), if_neg (by omega), if_pos trivial, if_pos (by omega)]
    · rw [if_neg (by omega), if_neg (by omega), if_neg (by omega), if_neg (by omega), if_neg (by omega), if_neg (by omega), if_neg (by omega), if_neg (by omega), if_pos trivial, if_pos (by omega)]
    · rw [if_neg (by omega), if_neg (by omega), if_neg (by omega), if_neg (by omega), if_neg (by omega), if_neg (by omega), if_neg (by omega), if_pos trivial, if_pos (by omega)]
    · rw [if_neg (by omega), if_neg (by omega), if_neg (by omega), if_neg (by omega), if_neg (by omega), if_neg (by omega), if_pos trivial, if_pos (by omega)]
    · rw [if_neg (by omega), if_neg (by omega), if_neg (by omega), if_neg (by omega), if_neg (by omega), if_pos trivial, if_pos (by omega)]
    · rw [if_neg (by omega), if_neg (by omega), if_neg (by omega), if_neg (by omega), if_pos trivial, if_pos (by omega)]
    · rw [if_neg (by omega), if_neg (by omega), if_neg (by omega), if_pos trivial, if_pos (by omega)]
    · rw [if_neg (by omega), if_neg (by omega), if_pos trivial, if_pos (by omega)]
    · rw [if_neg (by omega), if_pos trivial, if_pos (by omega)]
    · rw [if_pos trivial, if_pos (by omega)]
  · have := h.got j y (by omega) hy
    simp only [Array.getElem?_setIfInBounds]
    refine ⟨?_, ?_, ?_, ?_, ?_, ?_, ?_, ?_, ?_, ?_, ?_, ?_, ?_⟩
    all_goals rw [if_neg (by omega), if_neg (by omega), if_neg (by omega), if_neg (by omega), if_neg (by omega), if_neg (by omega), if_neg (by omega), if_neg (by omega), if_neg (by omega), if_neg (by omega), if_neg (by omega), if_neg (by omega), if_neg (by omega)]
    · exact this.1
    · exact this.2.1
    · exact this.2.2.1
    · exact this.2.2.2.1
    · exact this.2.2.2.2.1
    · exact this.2.2.2.2.2.1
    · exact this.2.2.2.2.2.2.1
    · exact this.2.2.2.2.2.2.2.1
    · exact this.2.2.2.2.2.2.2.2.1
    · exact this.2.2.2.2.2.2.2.2.2.1
    · exact this.2.2.2.2.2.2.2.2.2.2.1
    · exact this.2.2.2.2.2.2.2.2.2.2.2.1
    · exact this.2.2.2.2.2.2.2.2.2.2.2.2
theorem Copiedpc.put {w : World} {g : Nat} {cs : Array Value} {l : List Pc} {k : Nat} (h : Copiedpc w g cs l l.length) (hk : k < l.length) (x : Pc) :
    Copiedpc (((((((((((((w.setCell ⟨g, k * 13, none⟩ (.int .i64 x.size)).setCell ⟨g, k * 13 + 1, none⟩ (.int .i64 x.owner)).setCell ⟨g, k * 13 + 2, none⟩ (.int .i64 x.site)).setCell ⟨g, k * 13 + 3, none⟩ (.int .i64 x.stage)).setCell ⟨g, k * 13 + 4, none⟩ (.int .i64 x.since)).setCell ⟨g, k * 13 + 5, none⟩ (.int .i64 x.ext)).setCell ⟨g, k * 13 + 6, none⟩ (.int .i64 x.ls)).setCell ⟨g, k * 13 + 7, none⟩ (.int .i64 x.ln)).setCell ⟨g, k * 13 + 8, none⟩ (.int .i64 x.lt)).setCell ⟨g, k * 13 + 9, none⟩ (.int .i64 x.lp)).setCell ⟨g, k * 13 + 10, none⟩ (.int .i64 x.lu)).setCell ⟨g, k * 13 + 11, none⟩ (.int .i64 x.who)).setCell ⟨g, k * 13 + 12, none⟩ (.int .i64 x.fee)) g (((((((((((((cs.setIfInBounds (k * 13) (.int .i64 x.size)).setIfInBounds (k * 13 + 1) (.int .i64 x.owner)).setIfInBounds (k * 13 + 2) (.int .i64 x.site)).setIfInBounds (k * 13 + 3) (.int .i64 x.stage)).setIfInBounds (k * 13 + 4) (.int .i64 x.since)).setIfInBounds (k * 13 + 5) (.int .i64 x.ext)).setIfInBounds (k * 13 + 6) (.int .i64 x.ls)).setIfInBounds (k * 13 + 7) (.int .i64 x.ln)).setIfInBounds (k * 13 + 8) (.int .i64 x.lt)).setIfInBounds (k * 13 + 9) (.int .i64 x.lp)).setIfInBounds (k * 13 + 10) (.int .i64 x.lu)).setIfInBounds (k * 13 + 11) (.int .i64 x.who)).setIfInBounds (k * 13 + 12) (.int .i64 x.fee)) (l.set k x) (l.set k x).length := by
  have hsz := h.size
  refine ⟨(has_set (has_set (has_set (has_set (has_set (has_set (has_set (has_set (has_set (has_set (has_set (has_set (has_set h.heap _ _) _ _) _ _) _ _) _ _) _ _) _ _) _ _) _ _) _ _) _ _) _ _) _ _), by simpa using h.size, fun j y hj hy => ?_⟩
  rw [List.length_set] at hj
  by_cases hjk : j = k
  · subst hjk
    rw [List.getElem?_set_self hk] at hy
    obtain rfl : x = y := by injection hy
    simp only [Array.getElem?_setIfInBounds, Array.size_setIfInBounds]
    refine ⟨?_, ?_, ?_, ?_, ?_, ?_, ?_, ?_, ?_, ?_, ?_, ?_, ?_⟩
    · rw [if_neg (by omega), if_neg (by omega), if_neg (by omega), if_neg (by omega), if_neg (by omega), if_neg (by omega), if_neg (by omega), if_neg (by omega), if_neg (by omega), if_neg (by omega), if_neg (by omega), if_neg (by omega), if_pos trivial, if_pos (by omega)]
    · rw [if_neg (by omega), if_neg (by omega), if_neg (by omega), if_neg (by omega), if_neg (by omega), if_neg (by omega), if_neg (by omega), if_neg (by omega), if_neg (by omega), if_neg (by omega), if_neg (by omega), if_pos trivial, if_pos (by omega)]
    · rw [if_neg (by omega), if_neg (by omega), if_neg (by omega), if_neg (by omega), if_neg (by omega), if_neg (by omega), if_neg (by omega), if_neg (by omega), if_neg (by omega), if_neg (by omega), if_pos trivial, if_pos (by omega)]
    · rw [if_neg (by omega), if_neg (by omega), if_neg (by omega), if_neg (by omega), if_neg (by omega), if_neg (by omega), if_neg (by omega), if_neg (by omega), if_neg (by omega), if_pos trivial, if_pos (by omega)]
    · rw [if_neg (by omega), if_neg (by omega), if_neg (by omega), if_neg (by omega), if_neg (by omega), if_neg (by omega), if_neg (by omega), if_neg (by omega), if_pos trivial, if_pos (by omega)]
    · rw [if_neg (by omega), if_neg (by omega), if_neg (by omega), if_neg (by omega), if_neg (by omega), if_neg (by omega), if_neg (by omega), if_pos trivial, if_pos (by omega)]
    · rw [if_neg (by omega), if_neg (by omega), if_neg (by omega), if_neg (by omega), if_neg (by omega), if_neg (by omega), if_pos trivial, if_pos (by omega)]
    · rw [if_neg (by omega), if_neg (by omega), if_neg (by omega), if_neg (by omega), if_neg (by omega), if_pos trivial, if_pos (by omega)]
    · rw [if_neg (by omega), if_neg (by omega), if_neg (by omega), if_neg (by omega), if_pos trivial, if_pos (by omega)]
    · rw [if_neg (by omega), if_neg (by omega), if_neg (by omega), if_pos trivial, if_pos (by omega)]
    · rw [if_neg (by omega), if_neg (by omega), if_pos trivial, if_pos (by omega)]
    · rw [if_neg (by omega), if_pos trivial, if_pos (by omega)]
    · rw [if_pos trivial, if_pos (by omega)]
  · rw [List.getElem?_set_ne (fun e => hjk e.symm)] at hy
    have := h.got j y hj hy
    simp only [Array.getElem?_setIfInBounds]
    refine ⟨?_, ?_, ?_, ?_, ?_, ?_, ?_, ?_, ?_, ?_, ?_, ?_, ?_⟩
    all_goals rw [if_neg (by omega), if_neg (by omega), if_neg (by omega), if_neg (by omega), if_neg (by omega), if_neg (by omega), if_neg (by omega), if_neg (by omega), if_neg (by omega), if_neg (by omega), if_neg (by omega), if_neg (by omega), if_neg (by omega)]
    · exact this.1
    · exact this.2.1
    · exact this.2.2.1
    · exact this.2.2.2.1
    · exact this.2.2.2.2.1
    · exact this.2.2.2.2.2.1
    · exact this.2.2.2.2.2.2.1
    · exact this.2.2.2.2.2.2.2.1
    · exact this.2.2.2.2.2.2.2.2.1
    · exact this.2.2.2.2.2.2.2.2.2.1
    · exact this.2.2.2.2.2.2.2.2.2.2.1
    · exact this.2.2.2.2.2.2.2.2.2.2.2.1
    · exact this.2.2.2.2.2.2.2.2.2.2.2.2
theorem Copiedpc.row {w : World} {g base : Nat} {cs : Array Value} {l : List Pc} (h : Copiedpc w g cs l l.length) (hb : base ≤ g) : OR w base 55 (some ⟨g, 0, none⟩) (pcV l) :=
  .inr ⟨g, cs, rfl, hb, h.heap, pcV_of h.got⟩

theorem makepc_run (m : Nat) (hm : m ≤ 1048576) : ∀ W : World, (Instr.makeSlice 34 (.int .i64 (m : Int)) (.int .i64 (m : Int))).run Tryz.prog W = .ok (.slice (some ⟨W.heap.size, 0, none⟩) m m) (W.alloc (.cells (madeCells #[.int .i64 0, .int .i64 0, .int .i64 0, .int .i64 0, .int .i64 0, .int .i64 0, .int .i64 0, .int .i64 0, .int .i64 0, .int .i64 0, .int .i64 0, .int .i64 0, .int .i64 0] (m * 13)) 55)) := by
  intro W
  obtain ⟨i, hi, hz0, hz1, hz2⟩ := info_parts pcInfo
  have := run_make (P := Tryz.prog) W 34 55 i _ Tryz.underlying34 hi hz0 .i64 .i64 (m : Int) (m : Int) (by omega) (by omega) (by rw [hz2]; omega) (by omega)
  simpa [hz1, Value.cells] using this

set_option maxRecDepth 100000 in
set_option maxHeartbeats 2000000 in
theorem toParcelS_any (w : World) (B : Nat) (A : Option Addr) (c : Nat) (l : List Pc) (hl : l.length ≤ 1048576) (hB : B ≤ w.heap.size) (hS : pcL w B A l) :
    Calls Tryz.prog 20 #[.slice A l.length c] w fun e w' => ∃ A' c', e = .returned (.slice A' l.length c') ∧ OR w' w.heap.size 55 A' (pcV l) ∧ Below w.heap.size w w' := by
  have hmk := makepc_run l.length hl
  go_enter Tryz.func20, Tryz.ntmps20
  go_wp2
  go_loopw [4] (fun i wr => ∃ (k : Nat) (cs : Array Value), k ≤ l.length ∧ i = .int .i64 k ∧ Copiedpc wr w.heap.size cs l k ∧ Below w.heap.size w wr) (fun i _ => l.length - (intOf i).toNat)
  case atStart => exact ⟨0, _, Nat.zero_le _, rfl, ⟨has_new _ _ _, by simp [size_madeCells], fun j x hj => absurd hj (by omega)⟩, balloc _ _⟩
  case round =>
    obtain ⟨k, cs, hk, rfl, hcp, hb⟩ := hrel
    have HC := Lib.hid hcp; clear hcp
    clear hmk
    have hsz := hb.size
    by_cases hlt : k < l.length
    · obtain ⟨b, off, ⟨x0, x1, x2, x3, x4, x5, x6, x7, x8, x9, x10, x11, x12⟩, rfl, hbB, hx, hc0, hc1, hc2, hc3, hc4, hc5, hc6, hc7, hc8, hc9, hc10, hc11, hc12⟩ := (hS.below (hb.mono hB)).at_ hlt
      have Hx := Lib.hid hx; clear hx
      have HS := Lib.hid hS; clear hS
      dsimp only at hc0 hc1 hc2 hc3 hc4 hc5 hc6 hc7 hc8 hc9 hc10 hc11 hc12
      go_wp2_with fail
      refine (toParcel_any _ _ _ _ _ _ _ _ _ _ _ _ _ _).mono ?_
      rintro e w1 ⟨rfl, hb1⟩
      have hC1 := HC.out.below hb1
      obtain ⟨u0, hu0⟩ := hC1.cellAt (j := k * 13) (by omega)
      obtain ⟨u1, hu1⟩ := hC1.cellAt (j := k * 13 + 1) (by omega)
      obtain ⟨u2, hu2⟩ := hC1.cellAt (j := k * 13 + 2) (by omega)
      obtain ⟨u3, hu3⟩ := hC1.cellAt (j := k * 13 + 3) (by omega)
      obtain ⟨u4, hu4⟩ := hC1.cellAt (j := k * 13 + 4) (by omega)
      obtain ⟨u5, hu5⟩ := hC1.cellAt (j := k * 13 + 5) (by omega)
      obtain ⟨u6, hu6⟩ := hC1.cellAt (j := k * 13 + 6) (by omega)
      obtain ⟨u7, hu7⟩ := hC1.cellAt (j := k * 13 + 7) (by omega)
      obtain ⟨u8, hu8⟩ := hC1.cellAt (j := k * 13 + 8) (by omega)
      obtain ⟨u9, hu9⟩ := hC1.cellAt (j := k * 13 + 9) (by omega)
      obtain ⟨u10, hu10⟩ := hC1.cellAt (j := k * 13 + 10) (by omega)
      obtain ⟨u11, hu11⟩ := hC1.cellAt (j := k * 13 + 11) (by omega)
      obtain ⟨u12, hu12⟩ := hC1.cellAt (j := k * 13 + 12) (by omega)
      have hf0 := has_free hC1.heap (k * 13)
      have hf1 := has_free hC1.heap (k * 13 + 1)
      have hf2 := has_free hC1.heap (k * 13 + 2)
      have hf3 := has_free hC1.heap (k * 13 + 3)
      have hf4 := has_free hC1.heap (k * 13 + 4)
      have hf5 := has_free hC1.heap (k * 13 + 5)
      have hf6 := has_free hC1.heap (k * 13 + 6)
      have hf7 := has_free hC1.heap (k * 13 + 7)
      have hf8 := has_free hC1.heap (k * 13 + 8)
      have hf9 := has_free hC1.heap (k * 13 + 9)
      have hf10 := has_free hC1.heap (k * 13 + 10)
      have hf11 := has_free hC1.heap (k * 13 + 11)
      have hf12 := has_free hC1.heap (k * 13 + 12)
      have hst := hC1.step Hx.out
      have HST := Lib.hid hst; clear hst hC1
      go_wp2
      go_roundw
      case rel => exact ⟨k + 1, _, by omega, by go_num, HST.out, ((((((((((((((hb.trans (hb1.mono hsz)).setCell (Nat.le_refl _) _).setCell (Nat.le_refl _) _).setCell (Nat.le_refl _) _).setCell (Nat.le_refl _) _).setCell (Nat.le_refl _) _).setCell (Nat.le_refl _) _).setCell (Nat.le_refl _) _).setCell (Nat.le_refl _) _).setCell (Nat.le_refl _) _).setCell (Nat.le_refl _) _).setCell (Nat.le_refl _) _).setCell (Nat.le_refl _) _).setCell (Nat.le_refl _) _)⟩
      case measure => simp [intOf]; omega
    · go_wp2
      go_ret
      have hkl : k = l.length := by omega
      subst hkl
      exact ⟨_, _, rfl, HC.out.row (Nat.le_refl _), hb⟩

set_option maxRecDepth 100000 in
set_option maxHeartbeats 2000000 in
theorem eqParcelS_any (w : World) (B B' : Nat) (A A' : Option Addr) (c c' : Nat) (l : List Pc) (hl : l.length ≤ maxLen) (hB : B ≤ w.heap.size) (hB' : B' ≤ w.heap.size) (hS : pcL w B A l) (hS' : pcL w B' A' l) :
    Calls Tryz.prog 26 #[.slice A l.length c, .slice A' l.length c'] w fun e w' => e = .returned (.bool true) ∧ Below w.heap.size w w' := by
  unfold maxLen at hl
  have e0 : ((l.length : Int) != (l.length : Int)) = false := by simp
  go_enter Tryz.func26, Tryz.ntmps26
  go_wp2
  clear e0
  go_loopw [5] (fun i wr => ∃ k : Nat, k ≤ l.length ∧ i = .int .i64 k ∧ Below w.heap.size w wr) (fun i _ => l.length - (intOf i).toNat)
  case atStart => exact ⟨0, Nat.zero_le _, rfl, Below.refl _ _⟩
  case round =>
    obtain ⟨k, hk, rfl, hb⟩ := hrel
    by_cases hlt : k < l.length
    · have hsz := hb.size
      obtain ⟨b, off, x, rfl, hbB, hx, hc0, hc1, hc2, hc3, hc4, hc5, hc6, hc7, hc8, hc9, hc10, hc11, hc12⟩ := (hS.below (hb.mono hB)).at_ hlt
      obtain ⟨b', off', y, rfl, hbB', hy, hd0, hd1, hd2, hd3, hd4, hd5, hd6, hd7, hd8, hd9, hd10, hd11, hd12⟩ := (hS'.below (hb.mono hB')).at_ hlt
      obtain rfl : x = y := by rw [hx] at hy; injection hy
      obtain ⟨x0, x1, x2, x3, x4, x5, x6, x7, x8, x9, x10, x11, x12⟩ := x
      dsimp only at hc0 hc1 hc2 hc3 hc4 hc5 hc6 hc7 hc8 hc9 hc10 hc11 hc12 hd0 hd1 hd2 hd3 hd4 hd5 hd6 hd7 hd8 hd9 hd10 hd11 hd12
      clear hx hy
      have HS := Lib.hid hS; clear hS
      have HS' := Lib.hid hS'; clear hS'
      have hbw : b < wr.heap.size := by omega
      have hbw' : b' < wr.heap.size := by omega
      go_wp2
      go_still_tail 8, (by kernel_rfl)
      change wpList _ _ _ _ _ wr.drew
      go_wp2_with (go_at_call 51; refine (eqParcel_any _ _ _ _ _ _ _ _ _ _ _ _ _ _).mono ?_; rintro e w1 ⟨rfl, hb1⟩)
      go_roundw
      case rel => exact ⟨k + 1, by omega, by go_num, (hb.drew).trans (hb1.mono hsz)⟩
      case measure => simp [intOf]; omega
    · go_wp2
      go_ret
      exact ⟨rfl, hb⟩

end Go.Proofs.YtjpkpfmpjgeeiaaGreat
