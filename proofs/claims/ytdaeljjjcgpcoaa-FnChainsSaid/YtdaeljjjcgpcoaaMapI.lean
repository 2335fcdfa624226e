/- Maps from ints to ints that the call makes: one word on what such a map holds, as a partial function, and the laws at the operations. -/
import Derived.Test.YtdaeljjjcgpcoaaGraP
import Derived.Maps.RangeWalk
import Derived.Maps.OwnSet
import Derived.Maps.OwnOps
import Derived.Maps.Views
namespace Go.Proofs.Ytdaeljjjcgpcoaa
open Go.RowKit Go.Maps
set_option linter.unusedVariables false

theorem lawI : Keyed Try.prog 3 := int_keyed Try.underlying3
theorem zeroI (w : World) : (zeroValue 3).run Try.prog w = .ok (.int .i64 0) w := by kernel_rfl
/-- the datum holds just what the function says, at keys and values from -1 to 1000 -/
structure Holds (D : DataW Unit) (f : PM) : Prop where
  has : ∀ x : Int, Maps.has D (.int .i64 x) = (f x).isSome
  val : ∀ x c : Int, f x = some c → ∀ z, D.atKey (.int .i64 x) z = .lit (.int .i64 c)
  key : ∀ x c : Int, f x = some c → 0 ≤ x ∧ x ≤ 1000
  all : ∃ ks : List Int, ks.Nodup ∧ Maps.size D = ks.length ∧ ∀ x, (f x).isSome = true ↔ x ∈ ks
/-- block b is a map of at most n entries that holds what f says -/
def MI (w : World) (b n : Nat) (f : PM) : Prop := ∃ D : DataW Unit, w.ownsMap Try.prog 3 (plainElem Try.prog 3) b n D ∧ Holds D f
theorem kI (x : Int) (h : 0 ≤ x ∧ x ≤ 1000) : (Lit.int .i64 x).wf = true := WalkArith.wf_i64 (by omega)
section
variable {w w' : World} {b n : Nat} {f : PM}
theorem MI.lt (h : MI w b n f) : b < w.heap.size := h.elim fun D hD => hD.1.lt
theorem MI.mono (h : MI w b n f) {m : Nat} (hm : n ≤ m) : MI w b m f := h.elim fun D hD => ⟨D, hD.1.mono hm, hD.2⟩
theorem MI.kept {row : Option Nat} (h : MI w b n f) (hg : w.grownBy w' row) (hne : some b ≠ row) : MI w' b n f := h.elim fun D hD => ⟨D, hD.1.kept hg hne, hD.2⟩
theorem grown_of_below (h : Below w.heap.size w w') : w.grownBy w' none := ⟨h.os, h.tape, h.output, h.size, fun k hk _ => h.block k hk⟩
theorem MI.call (h : MI w b n f) (hb : Below w.heap.size w w') : MI w' b n f := h.kept (grown_of_below hb) (by simp)
theorem MI.alloc (h : MI w b n f) (o : Obj) : MI (w.alloc o) b n f := h.elim fun D hD => ⟨D, hD.1.alloc o, hD.2⟩
theorem MI.drewN (h : MI w b n f) (k : Nat) : MI (w.drewN k) b n f := h
theorem MI_made (w : World) : MI (w.alloc (.map #[] 0)) w.heap.size 0 (fun _ => none) :=
  ⟨.map [], World.ownsMap_made w _ _ _, ⟨fun x => rfl, (fun x c h => by cases h), (fun x c h => by cases h), [], List.nodup_nil, rfl, by simp⟩⟩
theorem litNe {x y : Int} (h : x ≠ y) : (Lit.int .i64 x) ≠ .int .i64 y := fun e => h (by injection e)
theorem Holds.put {D : DataW Unit} (h : Holds D f) (ht : Tidy D) (hm : IsMap D) {x v : Int} (hx : 0 ≤ x ∧ x ≤ 1000) : Holds (D.put (.int .i64 x) (.lit (.int .i64 v))) (pset f x v) where
  has := fun y => by
    by_cases e : y = x
    · subst e; rw [has_put_same hm (by trivial), pset_same]; rfl
    · rw [has_put_other (litNe e), pset_other _ _ e, h.has]
  val := fun y c hy z => by
    by_cases e : y = x
    · subst e; rw [pset_same] at hy; injection hy with hy; subst hy; exact atKey_put_same hm (by trivial) _ _
    · rw [pset_other _ _ e] at hy; rw [atKey_put_other (litNe e)]; exact h.val y c hy z
  key := fun y c hy => by
    by_cases e : y = x
    · subst e; exact hx
    · rw [pset_other _ _ e] at hy; exact h.key y c hy
  all := by
    obtain ⟨ks, hn, hs, hk⟩ := h.all
    rw [size_put ht, h.has]
    cases hx' : (f x).isSome
    · refine ⟨x :: ks, List.nodup_cons.2 ⟨fun hm => ?_, hn⟩, by simp [hs], fun y => ?_⟩
      · have := (hk x).2 hm; rw [hx'] at this; cases this
      · by_cases e : y = x
        · subst e; simp [pset_same]
        · rw [pset_other _ _ e, hk y]; simp [e]
    · refine ⟨ks, hn, by simpa using hs, fun y => ?_⟩
      by_cases e : y = x
      · subst e; simp only [pset_same, Option.isSome_some, true_iff]; exact (hk y).1 hx'
      · rw [pset_other _ _ e]; exact hk y
theorem Holds.del {D : DataW Unit} (h : Holds D f) (ht : Tidy D) (x : Int) : Holds (D.del (.int .i64 x)) (pdel f x) where
  has := fun y => by
    by_cases e : y = x
    · subst e; rw [has_del_same, pdel_same]; rfl
    · rw [has_del_other (litNe e), pdel_other _ e, h.has]
  val := fun y c hy z => by
    by_cases e : y = x
    · subst e; rw [pdel_same] at hy; cases hy
    · rw [pdel_other _ e] at hy; rw [atKey_del_other (litNe e)]; exact h.val y c hy z
  key := fun y c hy => by
    by_cases e : y = x
    · subst e; rw [pdel_same] at hy; cases hy
    · rw [pdel_other _ e] at hy; exact h.key y c hy
  all := by
    obtain ⟨ks, hn, hs, hk⟩ := h.all
    have h2 := size_del (k := .int .i64 x) ht
    rw [h.has] at h2
    refine ⟨ks.erase x, hn.erase x, ?_, fun y => ?_⟩
    · cases hx' : (f x).isSome
      · have hnm : x ∉ ks := fun hm => by have := (hk x).2 hm; rw [hx'] at this; cases this
        rw [List.erase_of_not_mem hnm]; rw [hx'] at h2; simpa [hs] using h2
      · have hm := (hk x).1 hx'
        rw [List.length_erase_of_mem hm]; rw [hx'] at h2; simp at h2; omega
    · rw [hn.mem_erase_iff]
      by_cases e : y = x
      · subst e; simp [pdel_same]
      · rw [pdel_other _ e, hk y]; simp [e]
theorem Holds.look {D : DataW Unit} (h : Holds D f) {x c : Int} (hc : D.atKey (.int .i64 x) (.lit (.int .i64 0)) = .lit (.int .i64 c)) : c = (f x).getD 0 := by
  cases hf : f x with
  | some v =>
    rw [h.val x v hf] at hc
    injection hc with hc; injection hc with _ hc
    rw [← hc]; rfl
  | none =>
    have h2 : Maps.has D (.int .i64 x) = false := by rw [h.has, hf]; rfl
    rw [atKey_of_not_has h2] at hc
    injection hc with hc; injection hc with _ hc
    rw [← hc]; rfl
end
theorem mi_run {w : World} {b n : Nat} {f : PM} (h : MI w b n f) (k : Int) (hk : 0 ≤ k ∧ k ≤ 1000) : (Instr.lookup 39 (.map (some b)) (.int .i64 k) false).run Try.prog w = .ok (.int .i64 ((f k).getD 0)) w := by
  obtain ⟨D, hown, hD⟩ := h
  obtain ⟨c, hrun, hat, _⟩ := hown.lookup_int lawI Try.underlying39 Try.underlying3 (zeroI w) (keyOf_int_mk Try.underlying3 (kI k hk))
  rw [hrun, hD.look hat]
section
variable {P : Program} (w : World) {ops : Array Oper} {rest : List Oper} {o : Oper} {a : Act} {Q : Exit → Act → World → Prop}
theorem mi_lookup (hg : o.guard = none) (m x : Operand) (hop : o.op = Op.lookup 39 m x false) (b n : Nat) (f : PM)
    (hm : a.eval m = .map (some b)) (h : MI w b n f) (k : Int) (hx : a.eval x = .int .i64 k) (hk : 0 ≤ k ∧ k ≤ 1000)
    (hK : wpList Try.prog ops Q rest (a.put o.dst (.int .i64 ((f k).getD 0))) w) : wpList Try.prog ops Q (o :: rest) a w := by
  obtain ⟨D, hown, hD⟩ := h
  refine wpList_lookup_own_int w hg m x _ hop 3 3 .i64 lawI Try.underlying39 Try.underlying3 (zeroI w) b n D hm hown _ (.int .i64 k) hx (keyOf_int_mk Try.underlying3 (kI k hk)) ?_
  intro c hat _
  rw [hD.look hat]; exact hK
theorem mi_lookup_ok (hg : o.guard = none) (m x : Operand) (hop : o.op = Op.lookup 39 m x true) (b n : Nat) (f : PM)
    (hm : a.eval m = .map (some b)) (h : MI w b n f) (k : Int) (hx : a.eval x = .int .i64 k) (hk : 0 ≤ k ∧ k ≤ 1000)
    (hK : wpList Try.prog ops Q rest (a.put o.dst (.tuple #[.int .i64 ((f k).getD 0), .bool (f k).isSome])) w) : wpList Try.prog ops Q (o :: rest) a w := by
  obtain ⟨D, hown, hD⟩ := h
  refine wpList_lookup_own_ok_int w hg m x _ hop 3 3 .i64 lawI Try.underlying39 Try.underlying3 (zeroI w) b n D hm hown _ (.int .i64 k) hx (keyOf_int_mk Try.underlying3 (kI k hk)) ?_
  intro c hat _
  rw [hD.look hat, hD.has]; exact hK
theorem mi_update (hg : o.guard = none) (m x v : Operand) (hop : o.op = Op.mapUpdate 39 m x v) (b n : Nat) (f : PM) (hn : n < maxLen)
    (hm : a.eval m = .map (some b)) (h : MI w b n f) (k c : Int) (hx : a.eval x = .int .i64 k) (hv : a.eval v = .int .i64 c) (hk : 0 ≤ k ∧ k ≤ 1000) (hc : 0 ≤ c ∧ c ≤ 1000)
    (hK : ∀ w', MI w' b (n + 1) (pset f k c) → w.grownBy w' (some b) → wpList Try.prog ops Q rest (a.put o.dst undef) w') : wpList Try.prog ops Q (o :: rest) a w := by
  obtain ⟨D, hown, hD⟩ := h
  refine wpList_mapUpdate_own w hg m x v _ hop 3 3 lawI Try.underlying39 _ b n D hm hown hn _ _ (.int .i64 k) hx hv (keyOf_int_mk Try.underlying3 (kI k hk)) _ [] (plainElem_int Try.underlying3 (kI c hc)) ?_
  intro w' h1 h2
  exact hK w' ⟨_, h1, hD.put (hown.tidy lawI) hown.isMap hk⟩ h2
theorem mi_insert (hg : o.guard = none) (m x v : Operand) (hop : o.op = Op.insert 39 m x v) (b n : Nat) (f : PM) (hn : n < maxLen)
    (hm : a.eval m = .map (some b)) (h : MI w b n f) (k c : Int) (hx : a.eval x = .int .i64 k) (hv : a.eval v = .int .i64 c) (hk : 0 ≤ k ∧ k ≤ 1000) (hc : 0 ≤ c ∧ c ≤ 1000)
    (hK : ∀ w', MI w' b (n + 1) (pset f k c) → w.grownBy w' (some b) → wpList Try.prog ops Q rest (a.put o.dst undef) w') : wpList Try.prog ops Q (o :: rest) a w := by
  obtain ⟨D, hown, hD⟩ := h
  refine wpList_plain hg fun K' hK' => ?_
  obtain ⟨w', hrun, r1, r2⟩ := hown.update lawI Try.underlying39 hn (keyOf_int_mk Try.underlying3 (kI k hk)) (plainElem_int Try.underlying3 (kI c hc))
  unfold Oper.wp
  simp [execOp, hop, hm, hx, hv, hrun, Result.andThen]
  exact hK' _ _ (hK w' ⟨_, r1, hD.put (hown.tidy lawI) hown.isMap hk⟩ r2)
theorem mi_delete (hg : o.guard = none) (m x : Operand) (hop : o.op = Op.call { callee := Callee.builtin Builtin.delete, args := #[m, x], argTypes := #[39, 3] }) (b n : Nat) (f : PM)
    (hm : a.eval m = .map (some b)) (h : MI w b n f) (k : Int) (hx : a.eval x = .int .i64 k) (hk : 0 ≤ k ∧ k ≤ 1000)
    (hK : ∀ w', MI w' b n (pdel f k) → w.grownBy w' (some b) → wpList Try.prog ops Q rest (a.put o.dst (.tuple #[])) w') : wpList Try.prog ops Q (o :: rest) a w := by
  obtain ⟨D, hown, hD⟩ := h
  refine wpList_delete_own w hg m x _ _ hop 3 lawI Try.underlying39 _ b n D hm hown _ (.int .i64 k) hx (keyOf_int_mk Try.underlying3 (kI k hk)) ?_
  intro w' h1 h2
  exact hK w' ⟨_, h1, hD.del (hown.tidy lawI) k⟩ h2.grown
theorem mi_len (hg : o.guard = none) (m : Operand) (hop : o.op = Op.call { callee := Callee.builtin Builtin.len, args := #[m], argTypes := #[39] }) (b n : Nat) (f : PM)
    (hm : a.eval m = .map (some b)) (h : MI w b n f)
    (hK : ∀ k : Nat, k ≤ n → (k = 0 → ∀ x, f x = none) → (0 < k → ∃ x c, f x = some c) → wpList Try.prog ops Q rest (a.put o.dst (.int .i64 (k : Int))) w) : wpList Try.prog ops Q (o :: rest) a w := by
  obtain ⟨D, hown, hD⟩ := h
  refine wpList_len_own w hg m _ hop 3 3 Try.underlying39 _ b n D hm hown ?_
  obtain ⟨ks, hn, hs, hk⟩ := hD.all
  have hle := hown.size_le
  rw [hs] at hle ⊢
  refine hK ks.length hle (fun h0 x => ?_) (fun h0 => ?_)
  · have h1 := hk x
    rw [List.eq_nil_of_length_eq_zero h0] at h1
    cases hf : f x with
    | none => rfl
    | some c => rw [hf] at h1; simp at h1
  · rcases ks with _ | ⟨x, r⟩
    · simp at h0
    · have := (hk x).2 List.mem_cons_self
      obtain ⟨c, hc⟩ := Option.isSome_iff_exists.1 this
      exact ⟨x, c, hc⟩
end
end Go.Proofs.Ytdaeljjjcgpcoaa
