/- Chapter 2: banks in blocks of their own: where their columns lie. -/
import Derived.Test.YtegomldlkbgemaaQ05
import Derived.Test.YtegomldlkbgemaaQ04
import Derived.Test.YtegomldlkbgemaaQ01
namespace Go.Proofs.Ytegomldlkbgemaa
open Go.RowKit
set_option linter.unusedVariables false

def colC (x : Cl) : List Value := [.int .i64 x.z, .slice x.AF x.F.length x.cF, .slice x.AB x.L.length x.cB]
def colV (l : List Cl) : List Value := l.flatMap colC
theorem colV_len (l : List Cl) : (colV l).length = 3 * l.length := by
  induction l with
  | nil => rfl
  | cons a r ih => simp [colV, colC] at ih ⊢; omega
theorem colV_app (l r : List Cl) : colV (l ++ r) = colV l ++ colV r := by simp [colV]
theorem colV_at : ∀ {l : List Cl} {k : Nat} {x : Cl}, l[k]? = some x → (colV l)[k * 3]? = some (.int .i64 x.z) ∧ (colV l)[k * 3 + 1]? = some (.slice x.AF x.F.length x.cF) ∧ (colV l)[k * 3 + 2]? = some (.slice x.AB x.L.length x.cB)
  | [], k, u, h => by simp at h
  | a :: r, 0, u, h => by
    simp at h; subst h
    exact ⟨rfl, rfl, rfl⟩
  | a :: r, k + 1, u, h => by
    have ih := colV_at (l := r) (k := k) (x := u) (by simpa using h)
    have e : colV (a :: r) = .int .i64 a.z :: .slice a.AF a.F.length a.cF :: .slice a.AB a.L.length a.cB :: colV r := rfl
    rw [e, show (k + 1) * 3 = k * 3 + 1 + 1 + 1 by omega]
    exact ⟨by simpa using ih.1, by simpa using ih.2.1, by simpa using ih.2.2⟩
theorem colV_nil {l : List Cl} (h : colV l = []) : l = [] := by
  have := congrArg List.length h
  rw [colV_len] at this
  exact List.eq_nil_of_length_eq_zero (by simp only [List.length_nil] at this; omega)
theorem colV_of {l : List Cl} {cs : Array Value} (h : ∀ j x, j < l.length → l[j]? = some x → cs[j * 3]? = some (.int .i64 x.z) ∧ cs[j * 3 + 1]? = some (.slice x.AF x.F.length x.cF) ∧ cs[j * 3 + 2]? = some (.slice x.AB x.L.length x.cB)) : ∀ (j : Nat) (u : Value), (colV l)[j]? = some u → cs[j]? = some u := by
  intro j u hu
  have hj : j < 3 * l.length := by have := (List.getElem?_eq_some_iff.1 hu).1; rwa [colV_len] at this
  obtain ⟨q, r, rfl, hr⟩ : ∃ q r, j = q * 3 + r ∧ r < 3 := ⟨j / 3, j % 3, by omega, by omega⟩
  have hq : q < l.length := by omega
  have hx := List.getElem?_eq_getElem hq
  have h1 := colV_at hx
  have h2 := h q _ hq hx
  rcases r with _ | _ | _ | r
  · rw [Nat.add_zero] at hu ⊢; rw [h1.1] at hu; rw [h2.1]; exact hu
  · rw [h1.2.1] at hu; rw [h2.2.1]; exact hu
  · rw [h1.2.2] at hu; rw [h2.2.2]; exact hu
  · omega
theorem colV_set {l : List Cl} {k : Nat} (hk : k < l.length) (x : Cl) : colV (l.set k x) = (((colV l).set (k * 3) (.int .i64 x.z)).set (k * 3 + 1) (.slice x.AF x.F.length x.cF)).set (k * 3 + 2) (.slice x.AB x.L.length x.cB) := by
  induction l generalizing k with
  | nil => simp at hk
  | cons a r ih =>
    cases k with
    | zero => rfl
    | succ k =>
      have e : colV (a :: r) = .int .i64 a.z :: .slice a.AF a.F.length a.cF :: .slice a.AB a.L.length a.cB :: colV r := rfl
      have e2 : colV ((a :: r).set (k + 1) x) = .int .i64 a.z :: .slice a.AF a.F.length a.cF :: .slice a.AB a.L.length a.cB :: colV (r.set k x) := rfl
      rw [e2, ih (by simpa using hk), e, show (k + 1) * 3 = k * 3 + 1 + 1 + 1 by omega]
      rfl
/-- where the rows of the columns lie: each column's in a range of its own -/
structure RowsSep (w : World) (lo hi : Nat) (l : List Cl) (f : Nat → Nat × Nat) : Prop where
  row : ∀ k x, l[k]? = some x → lo ≤ (f k).1 ∧ (f k).1 ≤ (f k).2 ∧ (f k).2 ≤ hi ∧ OI w (f k).1 (f k).2 3 x.AF (intV x.F) ∧ OI w (f k).1 (f k).2 130 x.AB (boxV x.L)
  dis : ∀ j k, j < k → k < l.length → (f j).2 ≤ (f k).1 ∨ (f k).2 ≤ (f j).1
def BankAt (w : World) (lo hi : Nat) (A : Option Addr) (l : List Cl) : Prop := OI w lo hi 114 A (colV l) ∧ ∃ f, RowsSep w lo hi l f
section
variable {w w' : World} {lo hi a b : Nat} {A : Option Addr} {l : List Cl} {f : Nat → Nat × Nat}
theorem rowsSep_nil (w : World) (lo hi : Nat) : RowsSep w lo hi [] (fun _ => (lo, lo)) := ⟨fun k x h => by simp at h, fun j k _ hk => by simp at hk⟩
theorem RowsSep.call (h : RowsSep w lo hi l f) (hb : Below w.heap.size w w') : RowsSep w' lo hi l f :=
  ⟨fun k x hx => by obtain ⟨h1, h2, h3, h4, h5⟩ := h.row k x hx; exact ⟨h1, h2, h3, h4.call hb, h5.call hb⟩, h.dis⟩
theorem RowsSep.within (h : RowsSep w lo hi l f) (hw : Within a b w w') (ho : hi ≤ a ∨ b ≤ lo) : RowsSep w' lo hi l f :=
  ⟨fun k x hx => by obtain ⟨h1, h2, h3, h4, h5⟩ := h.row k x hx; exact ⟨h1, h2, h3, hw.oi h4 (by omega), hw.oi h5 (by omega)⟩, h.dis⟩
theorem RowsSep.wider {lo' hi' : Nat} (h : RowsSep w lo hi l f) (h1 : lo' ≤ lo) (h2 : hi ≤ hi') : RowsSep w lo' hi' l f :=
  ⟨fun k x hx => by obtain ⟨q1, q2, q3, q4, q5⟩ := h.row k x hx; exact ⟨by omega, q2, by omega, q4, q5⟩, h.dis⟩
theorem OI.wider {lo' hi' : Nat} {e : TypeId} {xs : List Value} (h : OI w lo hi e A xs) (h1 : lo' ≤ lo) (h2 : hi ≤ hi') : OI w lo' hi' e A xs := by
  rcases h with h | ⟨g, cur, rfl, q1, q2, hh, hc⟩
  · exact .inl h
  · exact .inr ⟨g, cur, rfl, by omega, by omega, hh, hc⟩
theorem BankAt.call (h : BankAt w lo hi A l) (hb : Below w.heap.size w w') : BankAt w' lo hi A l := ⟨h.1.call hb, let ⟨f, hf⟩ := h.2; ⟨f, hf.call hb⟩⟩
theorem BankAt.within (h : BankAt w lo hi A l) (hw : Within a b w w') (ho : hi ≤ a ∨ b ≤ lo) : BankAt w' lo hi A l := ⟨hw.oi h.1 ho, let ⟨f, hf⟩ := h.2; ⟨f, hf.within hw ho⟩⟩
theorem BankAt.wider {lo' hi' : Nat} (h : BankAt w lo hi A l) (h1 : lo' ≤ lo) (h2 : hi ≤ hi') : BankAt w lo' hi' A l := ⟨h.1.wider h1 h2, let ⟨f, hf⟩ := h.2; ⟨f, hf.wider h1 h2⟩⟩
theorem RowsSep.snoc (h : RowsSep w lo hi l f) {x : Cl} (ha : hi ≤ a) (hab : a ≤ b) (hlo : lo ≤ hi) (h1 : OI w a b 3 x.AF (intV x.F)) (h2 : OI w a b 130 x.AB (boxV x.L)) :
    RowsSep w lo b (l ++ [x]) (fun k => if k = l.length then (a, b) else f k) := by
  refine ⟨fun k y hy => ?_, fun j k hj hk => ?_⟩
  · by_cases e : k = l.length
    · subst e
      simp at hy; subst hy
      simp only [if_true]
      exact ⟨by omega, hab, Nat.le_refl _, h1, h2⟩
    · rw [if_neg e]
      have hk : k < l.length := by have := (List.getElem?_eq_some_iff.1 hy).1; simp at this; omega
      rw [List.getElem?_append_left hk] at hy
      obtain ⟨q1, q2, q3, q4, q5⟩ := h.row k y hy
      exact ⟨q1, q2, by omega, q4, q5⟩
  · simp at hk
    rw [if_neg (by omega : j ≠ l.length)]
    have hjl : j < l.length := by omega
    obtain ⟨q1, q2, q3, _, _⟩ := h.row j _ (List.getElem?_eq_getElem hjl)
    by_cases e : k = l.length
    · rw [if_pos e]; left; show (f j).2 ≤ a; omega
    · rw [if_neg e]; exact h.dis j k hj (by omega)
theorem RowsSep.set (h : RowsSep w lo hi l f) {k : Nat} {x : Cl} (ha : hi ≤ a) (hab : a ≤ b) (hlo : lo ≤ hi) (h1 : OI w a b 3 x.AF (intV x.F)) (h2 : OI w a b 130 x.AB (boxV x.L)) :
    RowsSep w lo b (l.set k x) (fun j => if j = k then (a, b) else f j) := by
  refine ⟨fun j y hy => ?_, fun i j hi' hj => ?_⟩
  · by_cases e : j = k
    · subst e
      have hk : j < l.length := by have := (List.getElem?_eq_some_iff.1 hy).1; simpa using this
      rw [List.getElem?_set_self hk] at hy; injection hy with hy; subst hy
      simp only [if_true]
      exact ⟨by omega, hab, Nat.le_refl _, h1, h2⟩
    · rw [if_neg e]
      rw [List.getElem?_set_ne (fun e' => e e'.symm)] at hy
      obtain ⟨q1, q2, q3, q4, q5⟩ := h.row j y hy
      exact ⟨q1, q2, by omega, q4, q5⟩
  · simp at hj
    obtain ⟨q1, q2, q3, _, _⟩ := h.row i _ (List.getElem?_eq_getElem (by omega))
    obtain ⟨p1, p2, p3, _, _⟩ := h.row j _ (List.getElem?_eq_getElem hj)
    by_cases e : i = k
    · rw [if_pos e, if_neg (by omega)]; right; show (f j).2 ≤ a; omega
    · rw [if_neg e]
      by_cases e2 : j = k
      · rw [if_pos e2]; left; show (f i).2 ≤ a; omega
      · rw [if_neg e2]; exact h.dis i j hi' hj
theorem BankAt.kl (h : BankAt w lo hi A l) : KL w w.heap.size A l := by
  rcases h.1 with h | ⟨g, cur, rfl, h1, h2, hh, hc⟩
  · exact .inl (colV_nil h)
  · refine .inr ⟨g, 0, rfl, has_lt hh, fun k x hx => ?_⟩
    have := colV_at hx
    rw [Nat.zero_add]
    exact ⟨has_cell hh _ (hc _ _ this.1), has_cell hh _ (hc _ _ this.2.1), has_cell hh _ (hc _ _ this.2.2)⟩
theorem BankAt.cv (h : BankAt w lo hi A l) (hs : SmallK l) : ∀ x ∈ l, CV w w.heap.size x := fun x hx => by
  obtain ⟨f, hf⟩ := h.2
  obtain ⟨k, hk⟩ := List.getElem?_of_mem hx
  obtain ⟨_, _, _, h4, h5⟩ := hf.row k x hk
  have := hs x hx
  exact ⟨h4.il, h5.xl, by unfold maxLen; omega, by unfold maxLen; omega⟩
end
theorem copiedK_oi {w : World} {g lo hi : Nat} {cs : Array Value} {l' : List Cl} {n : Nat} (h : CopiedK w g cs l' n) (h1 : lo ≤ g) (h2 : g < hi) : OI w lo hi 114 (some ⟨g, 0, none⟩) (colV l') :=
  .inr ⟨g, cs, rfl, h1, h2, h.heap, colV_of fun j x _ hx => h.got j x (by exact hx)⟩
end Go.Proofs.Ytegomldlkbgemaa
namespace Go.Proofs.Ytegomldlkbgemaa
open Go.RowKit
set_option linter.unusedVariables false

def totK (l : List Cl) : Nat := (l.map fun x => x.F.length + x.L.length).sum
theorem totK_succ {l : List Cl} {k : Nat} {x : Cl} (h : l[k]? = some x) : totK (l.take (k + 1)) = totK (l.take k) + (x.F.length + x.L.length) := by
  unfold totK; rw [List.take_add_one, h]; simp
theorem totK_mem : ∀ {l : List Cl} {x : Cl}, x ∈ l → x.F.length + x.L.length ≤ totK l
  | y :: r, x, h => by
    unfold totK
    rw [List.map_cons, List.sum_cons]
    rcases List.mem_cons.1 h with e | e
    · subst e; omega
    · have := totK_mem e; unfold totK at this; omega
theorem totK_cont {l l' : List Cl} (h : l'.map cont = l.map cont) : totK l' = totK l := by
  have e : ∀ l : List Cl, totK l = ((l.map cont).map fun t => t.2.1.length + t.2.2.length).sum := fun l => by unfold totK; rw [List.map_map]; rfl
  rw [e, e, h]
theorem len_cont {l l' : List Cl} (h : l'.map cont = l.map cont) : l'.length = l.length := by have := congrArg List.length h; simpa using this
def BankSz (l : List Cl) (r : Int) : Prop := r = -1 ∨ (0 ≤ r ∧ l.length + totK l ≤ 1048576)
theorem small_tot {l : List Cl} (h : totK l ≤ 1048576) : SmallK l := fun x hx => by have := totK_mem hx; omega
theorem OI.setlow {w : World} {lo hi : Nat} {e : TypeId} {A : Option Addr} {xs : List Value} (h : OI w lo hi e A xs) {p : Addr} (hp : p.block < lo) (v : Value) : OI (w.setCell p v) lo hi e A xs := by
  rcases h with h | ⟨g, cur, rfl, q1, q2, hh, hc⟩
  · exact .inl h
  · exact .inr ⟨g, cur, rfl, q1, q2, has_far hh (by omega) v, hc⟩
theorem RowsSep.setlow {w : World} {lo hi : Nat} {l : List Cl} {f : Nat → Nat × Nat} (h : RowsSep w lo hi l f) {p : Addr} (hp : p.block < lo) (v : Value) : RowsSep (w.setCell p v) lo hi l f :=
  ⟨fun k x hx => by obtain ⟨h1, h2, h3, h4, h5⟩ := h.row k x hx; exact ⟨h1, h2, h3, h4.setlow (by omega) v, h5.setlow (by omega) v⟩, h.dis⟩

set_option maxRecDepth 100000 in
set_option maxHeartbeats 1000000 in
theorem szBank_any (w : World) (B : Nat) (A : Option Addr) (c : Nat) (l : List Cl) (hl : l.length ≤ maxLen) (hB : B ≤ w.heap.size) (hS : KL w B A l) (hV : ∀ x ∈ l, CV w B x) :
    Calls Try.prog 36 #[.slice A l.length c, .int .i64 1048576] w fun e w' => ∃ r, e = .returned (.int .i64 r) ∧ BankSz l r ∧ Below w.heap.size w w' := by
  unfold maxLen at hl
  have HS := Lib.hid hS; have HV := Lib.hid hV; clear hS hV
  by_cases hbig : (1048576 : Int) < l.length
  · go_enter Try.func36, Try.ntmps36
    go_wp2
    go_ret
    exact ⟨-1, rfl, .inl rfl, Below.refl _ _⟩
  · have hl2 : l.length ≤ 1048576 := by omega
    go_enter Try.func36, Try.ntmps36
    go_wp2
    go_loopw [1, 5] (fun lv i wr => ∃ (k : Nat) (r : Int), k ≤ l.length ∧ i = .int .i64 k ∧ lv = .int .i64 r ∧ 0 ≤ r ∧ r + l.length + totK (l.take k) = 1048576 ∧ Below w.heap.size w wr) (fun _ i _ => l.length - (intOf i).toNat)
    case atStart => exact ⟨0, _, Nat.zero_le _, rfl, rfl, by omega, by simp [totK], Below.refl _ _⟩
    case round =>
      obtain ⟨k, r, hk, rfl, rfl, hr0, hsm, hb⟩ := hrel
      have hr1 : r ≤ 1048576 := by omega
      have HSM := Lib.hid hsm; clear hsm
      have hsz := hb.size
      by_cases hlt : k < l.length
      · obtain ⟨b, off, x, rfl, hbB, hx, hc0, hc1, hc2⟩ := (HS.out.later hB hb).at_ hlt
        have hv := HV.out x (List.mem_of_getElem? hx)
        by_cases hbd : r < x.F.length + x.L.length
        · have hs : szC r x.F.length x.L.length = -1 := if_pos (by omega)
          have Hs := Lib.hid hs; clear hs hx
          go_wp2_with fail
          refine (szColumn_any wr x.AF x.AB x.F.length x.cF x.L.length x.cB x.z r hv.lf hv.lb hr0 hr1).mono ?_
          rintro e w1 ⟨rfl, hb1⟩
          rw [Hs.out]
          go_wp2
          go_ret
          exact ⟨-1, rfl, .inl rfl, bthen hb hb1⟩
        · have hs : szC r x.F.length x.L.length = r - x.F.length - x.L.length := if_neg (by omega)
          have Hs := Lib.hid hs; clear hs
          have hsx := totK_succ hx
          have HSX := Lib.hid hsx; clear hsx hx
          go_wp2_with fail
          refine (szColumn_any wr x.AF x.AB x.F.length x.cF x.L.length x.cB x.z r hv.lf hv.lb hr0 hr1).mono ?_
          rintro e w1 ⟨rfl, hb1⟩
          rw [Hs.out]
          go_wp2
          go_roundw
          case rel => exact ⟨k + 1, _, by omega, by go_num, rfl, by omega, by have h1 := HSX.out; have h2 := HSM.out; omega, bthen hb hb1⟩
          case measure => simp [intOf]; omega
      · go_wp2
        go_ret
        have hkl : k = l.length := by omega
        subst hkl
        have := HSM.out
        rw [List.take_length] at this
        exact ⟨r, rfl, .inr ⟨hr0, by omega⟩, hb⟩

set_option maxRecDepth 100000 in
set_option maxHeartbeats 2000000 in
theorem toBank_any (w : World) (B : Nat) (A : Option Addr) (c : Nat) (l : List Cl) (hl : l.length ≤ 1048576) (hsm : SmallK l) (hB : B ≤ w.heap.size) (hS : KL w B A l) (hV : ∀ x ∈ l, CV w B x) :
    Calls Try.prog 38 #[.slice A l.length c] w fun e w' => ∃ (A' : Option Addr) (l' : List Cl), e = .returned (.slice A' l'.length l.length) ∧ l'.map cont = l.map cont ∧ BankAt w' w.heap.size w'.heap.size A' l' ∧ Below w.heap.size w w' := by
  have hmk : ∀ W : World, (Instr.makeSlice 70 (.int .i64 (l.length : Int)) (.int .i64 (l.length : Int))).run Try.prog W = .ok (.slice (some ⟨W.heap.size, 0, none⟩) l.length l.length) (W.alloc (.cells (madeCells #[.int .i64 0, .slice none 0 0, .slice none 0 0] (l.length * 3)) 114)) := by
    intro W
    obtain ⟨i, hi, hz0, hz1, hz2⟩ := info_parts colInfo
    have := run_make (P := Try.prog) W 70 114 i _ Try.underlying70 hi hz0 .i64 .i64 (l.length : Int) (l.length : Int) (by omega) (by omega) (by rw [hz2]; omega) (by omega)
    simpa [hz1, Value.cells] using this
  have HS := Lib.hid hS; have HV := Lib.hid hV; have HSM := Lib.hid hsm; clear hS hV hsm
  go_enter Try.func38, Try.ntmps38
  go_wp2
  go_loopw [4] (fun i wr => ∃ (k : Nat) (cs : Array Value) (l' : List Cl), k ≤ l.length ∧ i = .int .i64 k ∧ l'.length = k ∧ l'.map cont = (l.take k).map cont ∧ CopiedK wr w.heap.size cs l' l.length ∧ (∃ f, RowsSep wr (w.heap.size + 1) wr.heap.size l' f) ∧ Below w.heap.size w wr) (fun i _ => l.length - (intOf i).toNat)
  case atStart => exact ⟨0, _, [], Nat.zero_le _, rfl, rfl, rfl, ⟨has_new _ _ _, by simp [size_madeCells], fun j x hj => by simp at hj⟩, ⟨fun _ => (0, 0), ⟨fun k x h => by simp at h, fun j k _ hk => by simp at hk⟩⟩, balloc _ _⟩
  case round =>
    obtain ⟨k, cs, l', hk, rfl, hlk, hct, hcp, hro, hb⟩ := hrel
    have HC := Lib.hid hcp; have HCT := Lib.hid hct; have HRO := Lib.hid hro; clear hcp hct hro
    clear hmk
    have hsz := hb.size
    by_cases hlt : k < l.length
    · obtain ⟨b, off, x, rfl, hbB, hx, hc0, hc1, hc2⟩ := (HS.out.later hB hb).at_ hlt
      have hv := (HV.out x (List.mem_of_getElem? hx)).later hB hb
      have hs := HSM.out x (List.mem_of_getElem? hx)
      obtain ⟨z, AF, F, cF, AB, L, cB⟩ := x
      dsimp only at hc0 hc1 hc2 hs
      have HX := Lib.hid hx; have HVX := Lib.hid hv; have HSX := Lib.hid hs; clear hx hv hs
      have HLK := Lib.hid hlk; clear hlk
      go_wp2_with fail
      refine (toColumn_any wr B AF AB cF cB z F L HSX.out.1 HSX.out.2 (by omega) HVX.out.f HVX.out.b).mono ?_
      rintro e w1 ⟨A2, A3, n2, n3, rfl, ho2, ho3, hb1⟩
      have hz1 := hb1.size
      have hC1 : CopiedK w1 w.heap.size cs l' l.length := ⟨has_call HC.out.heap hb1, HC.out.size, HC.out.got⟩
      have hgl : w.heap.size < wr.heap.size := has_lt HC.out.heap
      have hst := hC1.step (by rw [HLK.out]; exact hlt) ⟨z, A2, F, n2, A3, L, n3⟩
      rw [HLK.out] at hst
      dsimp only at hst
      obtain ⟨f, hf⟩ := HRO.out
      have hsep := ((hf.call hb1).wider (Nat.le_refl _) (Nat.le_refl _)).snoc (x := ⟨z, A2, F, n2, A3, L, n3⟩) (a := wr.heap.size) (b := w1.heap.size) (Nat.le_refl _) hz1 (by omega) (OI.of_or ho2) (OI.of_or ho3)
      have hsep2 := ((hsep.setlow (p := ⟨w.heap.size, k * 3, none⟩) (Nat.lt_succ_self _) (.int .i64 z)).setlow (p := ⟨w.heap.size, k * 3 + 1, none⟩) (Nat.lt_succ_self _) (.slice A2 F.length n2)).setlow (p := ⟨w.heap.size, k * 3 + 2, none⟩) (Nat.lt_succ_self _) (.slice A3 L.length n3)
      obtain ⟨u0, hu0⟩ := hC1.cellAt (j := k * 3) (by omega)
      obtain ⟨u1, hu1⟩ := hC1.cellAt (j := k * 3 + 1) (by omega)
      obtain ⟨u2, hu2⟩ := hC1.cellAt (j := k * 3 + 2) (by omega)
      have hf0 := has_free hC1.heap (k * 3)
      have hf1 := has_free hC1.heap (k * 3 + 1)
      have hf2 := has_free hC1.heap (k * 3 + 2)
      have HST := Lib.hid hst; have HR1 := Lib.hid hsep2; clear hst hsep hsep2 hC1 ho2 ho3 hf
      go_wp2
      go_roundw
      case rel => exact ⟨k + 1, _, l' ++ [⟨z, A2, F, n2, A3, L, n3⟩], by omega, by go_num, by simp [HLK.out], cont_snoc HCT.out HX.out rfl, HST.out, ⟨_, HR1.out.wider (Nat.le_refl _) (by simp)⟩, (((hb.trans (hb1.mono hsz)).setCell (Nat.le_refl _) _).setCell (Nat.le_refl _) _).setCell (Nat.le_refl _) _⟩
      case measure => simp [intOf]; omega
    · go_wp2
      go_ret
      have hkl : k = l.length := by omega
      subst hkl
      have hct := HCT.out
      rw [List.take_length] at hct
      obtain ⟨f, hf⟩ := HRO.out
      exact ⟨some ⟨w.heap.size, 0, none⟩, l', by simp [hlk], hct, ⟨copiedK_oi HC.out (Nat.le_refl _) (has_lt HC.out.heap), f, hf.wider (Nat.le_succ _) (Nat.le_refl _)⟩, hb⟩

end Go.Proofs.Ytegomldlkbgemaa
namespace Go.Proofs.Ytegomldlkbgemaa
open Go.RowKit
set_option linter.unusedVariables false

def chainB : Int → List (Int × Int) → Int → Bool
  | _, [], _ => true
  | p, x :: r, most => if 0 ≤ x.1 then if x.1 < x.2 then if x.2 ≤ most then if p < x.1 then chainB x.2 r most else false else false else false else false
def prevOf (l : List (Int × Int)) : Nat → Int
  | 0 => -1
  | k + 1 => ((l[k]?).getD (0, 0)).2
def spansB (l : List (Int × Int)) (most : Int) : Bool := if l.length ≤ 20 then chainB (-1) l most else false
theorem chainB_drop (l : List (Int × Int)) (most p : Int) (k : Nat) (x : Int × Int) (hk : l[k]? = some x) : chainB p (l.drop k) most = if 0 ≤ x.1 then if x.1 < x.2 then if x.2 ≤ most then if p < x.1 then chainB x.2 (l.drop (k+1)) most else false else false else false else false := by
  have hlt : k < l.length := by
    rcases Nat.lt_or_ge k l.length with hh | hh
    · exact hh
    · rw [List.getElem?_eq_none hh] at hk; cases hk
  rw [List.drop_eq_getElem_cons hlt]
  have : l[k] = x := by rw [List.getElem?_eq_getElem hlt] at hk; injection hk
  rw [this]; rfl
theorem spans_long (l : List (Int × Int)) (most : Int) (h : 20 < l.length) : spansB l most = false := by
  unfold spansB; rw [if_neg (by omega)]
theorem spans_start (l : List (Int × Int)) (most : Int) (h : ¬ 20 < l.length) : spansB l most = chainB (prevOf l 0) (l.drop 0) most := by
  unfold spansB; rw [if_pos (by omega)]; rfl
theorem spans_bad (l : List (Int × Int)) (most : Int) (k : Nat) (x : Int × Int) (hk : l[k]? = some x) (h : spansB l most = chainB (prevOf l k) (l.drop k) most)
    (hbad : x.1 < 0 ∨ x.2 ≤ x.1 ∨ most < x.2 ∨ x.1 ≤ prevOf l k) : spansB l most = false := by
  rw [h, chainB_drop l most _ k x hk]
  rcases hbad with hb | hb | hb | hb
  · rw [if_neg (by omega)]
  · by_cases h1 : 0 ≤ x.1
    · rw [if_pos h1, if_neg (by omega)]
    · rw [if_neg h1]
  · by_cases h1 : 0 ≤ x.1
    · by_cases h2 : x.1 < x.2
      · rw [if_pos h1, if_pos h2, if_neg (by omega)]
      · rw [if_pos h1, if_neg h2]
    · rw [if_neg h1]
  · by_cases h1 : 0 ≤ x.1
    · by_cases h2 : x.1 < x.2
      · by_cases h3 : x.2 ≤ most
        · rw [if_pos h1, if_pos h2, if_pos h3, if_neg (by omega)]
        · rw [if_pos h1, if_pos h2, if_neg h3]
      · rw [if_pos h1, if_neg h2]
    · rw [if_neg h1]
theorem spans_good (l : List (Int × Int)) (most : Int) (k : Nat) (x : Int × Int) (hk : l[k]? = some x) (h : spansB l most = chainB (prevOf l k) (l.drop k) most)
    (h1 : 0 ≤ x.1) (h2 : x.1 < x.2) (h3 : x.2 ≤ most) (h4 : prevOf l k < x.1) : spansB l most = chainB (prevOf l (k+1)) (l.drop (k+1)) most := by
  rw [h, chainB_drop l most _ k x hk, if_pos h1, if_pos h2, if_pos h3, if_pos h4]
  simp [prevOf, hk]
theorem spans_end (l : List (Int × Int)) (most : Int) (h : spansB l most = chainB (prevOf l l.length) (l.drop l.length) most) : spansB l most = true := by
  rw [h, List.drop_length]; rfl
theorem prev_at (l : List (Int × Int)) (k : Nat) (x : Int × Int) (h : l[k]? = some x) : prevOf l (k+1) = x.2 := by simp [prevOf, h]

end Go.Proofs.Ytegomldlkbgemaa
namespace Go.Proofs.Ytegomldlkbgemaa
open Go.RowKit
set_option linter.unusedVariables false
set_option maxRecDepth 100000
end Go.Proofs.Ytegomldlkbgemaa
namespace Go.Proofs.Ytegomldlkbgemaa
open Go.RowKit
set_option linter.unusedVariables false
set_option maxRecDepth 100000

theorem SL.later {w w' : World} {B : Nat} {A : Option Addr} {l : List (Int × Int)} (h : SL w B A l) (hB : B ≤ w.heap.size) (hb : Below w.heap.size w w') : SL w' B A l := h.below (hb.mono hB)
theorem SL.set {w : World} {B : Nat} {A : Option Addr} {l : List (Int × Int)} (h : SL w B A l) {p : Addr} {u : Value} (hne : ∀ a, A = some a → a.block ≠ p.block) : SL (w.setCell p u) B A l := by
  rcases h with h | ⟨b, off, rfl, hlt, hc⟩
  · exact .inl h
  · refine .inr ⟨b, off, rfl, hlt, fun k x hx => ?_⟩
    have := hc k x hx
    have hn := hne _ rfl
    exact ⟨(World.cell?_setCell_other w p _ u (fun e => hn (by subst e; rfl))).trans this.1, (World.cell?_setCell_other w p _ u (fun e => hn (by subst e; rfl))).trans this.2⟩
theorem SL.more {w : World} {B B' : Nat} {A : Option Addr} {l : List (Int × Int)} (h : SL w B A l) (hB : B ≤ B') : SL w B' A l := by
  rcases h with h | ⟨b, off, rfl, hlt, hc⟩
  · exact .inl h
  · exact .inr ⟨b, off, rfl, by omega, hc⟩

def weekB (o c : List (Int × Int)) : Bool := if spansB o 168 = true then spansB c 20000 else false
theorem week_no (o c : List (Int × Int)) (h : spansB o 168 = false) : weekB o c = false := by simp [weekB, h]
theorem week_yes (o c : List (Int × Int)) (h : spansB o 168 = true) : weekB o c = spansB c 20000 := by simp [weekB, h]
theorem week_open {o c : List (Int × Int)} (h : weekB o c = true) : spansB o 168 = true ∧ spansB c 20000 = true := by
  cases h1 : spansB o 168
  · rw [week_no _ _ h1] at h; cases h
  · rw [week_yes _ _ h1] at h; exact ⟨rfl, h⟩

/-- in a list of spans that ascend, the first one that ends behind the hour decides -/
theorem chain_first (h : Int) (most : Int) : ∀ (l : List (Int × Int)) (p : Int), chainB p l most = true → firstB l h = withinB l h ∧ (∀ x ∈ l, p < x.1 ∧ x.1 < x.2)
  | [], p, _ => ⟨rfl, fun x hx => by simp at hx⟩
  | s :: r, p, hc => by
    unfold chainB at hc
    by_cases h1 : 0 ≤ s.1
    · by_cases h2 : s.1 < s.2
      · by_cases h3 : s.2 ≤ most
        · by_cases h4 : p < s.1
          · rw [if_pos h1, if_pos h2, if_pos h3, if_pos h4] at hc
            obtain ⟨ih, hall⟩ := chain_first h most r s.2 hc
            refine ⟨?_, fun x hx => ?_⟩
            · show (if h < s.2 then decide (s.1 ≤ h) else firstB r h) = (inSpan h s || withinB r h)
              by_cases hlt : h < s.2
              · rw [if_pos hlt]
                have hno : withinB r h = false := by
                  unfold withinB
                  rw [List.any_eq_false]
                  intro x hx
                  have := hall x hx
                  simp [inSpan]; omega
                rw [hno]; simp [inSpan, hlt]
              · rw [if_neg hlt, ih]; simp [inSpan, hlt]
            · rcases List.mem_cons.1 hx with rfl | hx
              · exact ⟨h4, h2⟩
              · have := hall x hx; exact ⟨by omega, this.2⟩
          · rw [if_pos h1, if_pos h2, if_pos h3, if_neg h4] at hc; cases hc
        · rw [if_pos h1, if_pos h2, if_neg h3] at hc; cases hc
      · rw [if_pos h1, if_neg h2] at hc; cases hc
    · rw [if_neg h1] at hc; cases hc
theorem first_within (l : List (Int × Int)) (most h : Int) (hs : spansB l most = true) : firstB l h = withinB l h := by
  unfold spansB at hs
  by_cases h20 : l.length ≤ 20
  · rw [if_pos h20] at hs; exact (chain_first h most l _ hs).1
  · rw [if_neg h20] at hs; cases hs

def openB (o c : List (Int × Int)) (h : Int) : Bool := if withinB o (h % 168) = true then !withinB c h else false
theorem open_no (o c : List (Int × Int)) (h : Int) (h1 : withinB o (h % 168) = false) : openB o c h = false := by simp [openB, h1]
theorem open_yes (o c : List (Int × Int)) (h : Int) (h1 : withinB o (h % 168) = true) : openB o c h = !withinB c h := by simp [openB, h1]

def timeB (h : Int) : Bool := decide (0 ≤ h) && decide (h ≤ 20000)
def isOpenB (o c : List (Int × Int)) (h : Int) : Bool := weekB o c && (inB h 0 19999 && openB o c h)
end Go.Proofs.Ytegomldlkbgemaa
namespace Go.Proofs.Ytegomldlkbgemaa
open Go.RowKit
set_option linter.unusedVariables false
set_option maxRecDepth 100000

end Go.Proofs.Ytegomldlkbgemaa
