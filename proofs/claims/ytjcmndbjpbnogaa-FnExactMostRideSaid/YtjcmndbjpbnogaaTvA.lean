/- Chapter 7: the drawing of rounds (gen_tva.py). -/
import Derived.Test.YtjcmndbjpbnogaaTouE
import Derived.Test.YtjcmndbjpbnogaaDraw
import Derived.Deep.DeepCutAuto
import Derived.RegionTactic
import Derived.OwnWalk
import Derived.Deep.AppendLies
import Derived.Deep.RegionHeld3
import Derived.Deep.DeepMust
import Derived.WalkLawsBesides
namespace Go.Proofs.Ytjcmndbjpbnogaa
open Go.RowKit
set_option linter.unusedVariables false

theorem own_o7 {w w' : World} {base g : Nat} {e : TypeId} {size n : Nat} {v : Value} {xs : List Value} (h : w.ownsRow base e size v n xs) (ho : Only w g w') (hg : g < base) : w'.ownsRow base e size v n xs :=
  h.kept (row := some g) ho (.inr fun e => by have := (h.lt _ e).1; omega)
theorem oi_draw {w w' : World} {lo hi g : Nat} {e : TypeId} {A : Option Addr} {xs : List Value} (h : OI w lo hi e A xs) (ho : Only w g w') (hg : g < lo) : OI w' lo hi e A xs := by
  rcases h with h | ⟨b, cur, h1, h2, h3, h4, h5⟩
  · exact .inl h
  · exact .inr ⟨b, cur, h1, h2, h3, has_onl h4 ho (by omega), h5⟩
theorem only_grow {w0 w w' : World} {g : Nat} {row : Option Nat} (h : Only w0 g w) (hg : w.grownBy w' row) (hr : ∀ b, row = some b → w0.heap.size ≤ b) : Only w0 g w' :=
  ⟨hg.os.trans h.os, hg.tape.trans h.tape, hg.output.trans h.output, Nat.le_trans h.size hg.size, fun k hk hne => (hg.block k (Nat.lt_of_lt_of_le hk h.size) (fun e => by have := hr k e.symm; omega)).trans (h.block k hk hne)⟩
theorem own_gt {w w' : World} {base : Nat} {e e' : TypeId} {size n : Nat} {v : Value} {xs : List Value} {row : Option Nat} (h : w.ownsRow base e size v n xs) (hg : w.grownBy w' row) (hrow : ∀ b, row = some b → ∃ cur, Has w b e' cur) (hne : e ≠ e') : w'.ownsRow base e size v n xs := by
  refine h.kept hg ?_
  cases hb : v.ownBlock with
  | none => exact .inl rfl
  | some b =>
    refine .inr (fun e2 => ?_)
    obtain ⟨_, cur, hc⟩ := own_has h b hb
    obtain ⟨cur', hc'⟩ := hrow b e2.symm
    exact has_ne hc hc' hne rfl
theorem oi_grow {w w' : World} {lo hi : Nat} {e : TypeId} {A : Option Addr} {xs : List Value} {row : Option Nat} (h : OI w lo hi e A xs) (hg : w.grownBy w' row) (hr : ∀ b, row = some b → hi ≤ b ∨ ∃ (t : TypeId) (cur : Array Value), Has w b t cur ∧ t ≠ e) : OI w' lo hi e A xs := by
  rcases h with h | ⟨b, cur, h1, h2, h3, h4, h5⟩
  · exact .inl h
  · refine .inr ⟨b, cur, h1, h2, h3, has_grown h4 hg (fun e2 => ?_), h5⟩
    rcases hr b e2.symm with h6 | ⟨t, cur', h6, h7⟩
    · omega
    · exact has_ne h6 h4 h7 rfl
theorem only_set7 {w0 w w' : World} {g z : Nat} (h : Only w0 g w) (ho : Only w z w') (h1 : w0.heap.size ≤ z) : Only w0 g w' :=
  ⟨ho.os.trans h.os, ho.tape.trans h.tape, ho.output.trans h.output, Nat.le_trans h.size ho.size, fun k hk hne => (ho.block k (Nat.lt_of_lt_of_le hk h.size) (fun e => by injection e with e; omega)).trans (h.block k hk hne)⟩
theorem oi_set {w w' : World} {lo hi z : Nat} {e T : TypeId} {A : Option Addr} {xs : List Value} {cs : Array Value} (h : OI w lo hi e A xs) (hz : Has w z T cs) (hne : e ≠ T) (ho : Only w z w') : OI w' lo hi e A xs := by
  rcases h with h | ⟨b, cur, h1, h2, h3, h4, h5⟩
  · exact .inl h
  · exact .inr ⟨b, cur, h1, h2, h3, has_onl h4 ho (has_ne h4 hz hne), h5⟩
theorem oi_wider {w : World} {lo hi lo' hi' : Nat} {e : TypeId} {A : Option Addr} {xs : List Value} (h : OI w lo hi e A xs) (h1 : lo' ≤ lo) (h2 : hi ≤ hi') : OI w lo' hi' e A xs := by
  rcases h with h | ⟨g, cur, e, h3, h4, h5, h6⟩
  · exact .inl h
  · exact .inr ⟨g, cur, e, by omega, by omega, h5, h6⟩
theorem oi_own {w : World} {base : Nat} {e : TypeId} {A : Option Addr} {xs : List Value} {size n c : Nat} (h : w.ownsRow base e size (.slice A n c) n xs) : OI w base w.heap.size e A xs := OI.of_or (or_own' h)
theorem oi_cell7 {w : World} {lo hi gp k : Nat} {P : List Int} {x : Int} (h : OI w lo hi 3 (some ⟨gp, 0, none⟩) (intV P)) (hx : P[k]? = some x) : w.cell? ⟨gp, k, none⟩ = some (.int .i64 x) := by
  rcases h with h | ⟨b, cur, h1, h2, h3, h4, h5⟩
  · have := intV_at hx; rw [h] at this; simp at this
  · injection h1 with h1; injection h1 with h1; subst h1; exact has_cell h4 k (h5 _ _ (intV_at hx))
def rwV (R : List Rw) : List Value := R.map fun x => .slice x.A x.l.length x.c
theorem rwV_snoc (R : List Rw) (x : Rw) : rwV (R ++ [x]) = rwV R ++ [.slice x.A x.l.length x.c] := by simp [rwV]
theorem issInf7 : (Try.prog.info? 27).map (fun i => (i.zero, i.size, i.bytes)) = some (some (.slice none 0 0), 1, 24) := by kernel_rfl
theorem stpInf7 : (Try.prog.info? 60).map (fun i => (i.zero, i.size, i.bytes)) = some (some (.agg #[.int .i64 0, .int .i64 0, .int .i64 0, .int .i64 0, .int .i64 0]), 5, 40) := by kernel_rfl
theorem src_rw {w : World} {g : Nat} {A : Option Addr} {n c : Nat} {t : TypeId} (h : Has w g t #[.slice A n c]) : Src w (some ⟨g, 0, none⟩) 1 1 [.slice A n c] := by
  refine ⟨rfl, by simp [Value.oneCell'], (fun e => by cases e), fun ad e j u hu => ?_⟩
  injection e with e; subst e
  match j with
  | 0 => simp at hu; subst hu; exact has_cell h 0 rfl
  | j + 1 => simp at hu
theorem src_sp {w : World} {g : Nat} {a b c d e : Int} {t : TypeId} (h : Has w g t #[.int .i64 a, .int .i64 b, .int .i64 c, .int .i64 d, .int .i64 e]) : Src w (some ⟨g, 0, none⟩) 1 5 (spC ⟨a, b, c, d, e⟩) := by
  refine ⟨rfl, by simp [Value.oneCell', spC], (fun e => by cases e), fun ad e j u hu => ?_⟩
  injection e with e; subst e
  rcases j with _ | _ | _ | _ | _ | j
  all_goals simp [spC] at hu
  all_goals (subst hu; first | exact has_cell h 0 rfl | exact has_cell h 1 rfl | exact has_cell h 2 rfl | exact has_cell h 3 rfl | exact has_cell h 4 rfl)
end Go.Proofs.Ytjcmndbjpbnogaa
