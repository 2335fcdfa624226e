/- Chapter 5: contracts of hasKey, inForce and giversTo. -/
import Derived.Test.YtdaeljjjcgpcoaaGraB
import Derived.Test.YtdaeljjjcgpcoaaMapI
import Derived.Test.YtdaeljjjcgpcoaaOwn
import Derived.Test.YtdaeljjjcgpcoaaGraK
import Derived.Deep.DeepMust
namespace Go.Proofs.Ytdaeljjjcgpcoaa
open Go.RowKit
set_option linter.unusedVariables false

theorem has_any (w : World) (b n : Nat) (f : PM) (k : Int) (h : MI w b n f) (hk : 0 ≤ k ∧ k ≤ 1000) :
    Calls Try.prog 20 #[.map (some b), .int .i64 k] w fun e w' => e = .returned (.bool (f k).isSome) ∧ w' = w := by
  go_enter Try.func20, Try.ntmps20
  go_wp2_with (at_lookup; refine mi_lookup_ok _ rfl _ _ rfl b n f rfl h k rfl hk ?_)
  go_ret
  exact ⟨rfl, rfl⟩
theorem src_box (w : World) (e : TypeId) (cs : Array Value) (size : Nat) (hs : cs.size = size) (h1 : ∀ u ∈ cs.toList, u.oneCell' = true) : Src (w.alloc (.cells cs e)) (some ⟨w.heap.size, 0, none⟩) 1 size cs.toList where
  len := by simp [hs]
  one := h1
  nil := fun e => by cases e
  at_ := fun ad e j u hu => by
    injection e with e; subst e
    rw [addr_gr, Nat.zero_add]
    exact has_cell (has_new w _ _) j (by simpa using hu)
theorem src_at (w : World) (e : TypeId) (H : Nat) (hH : w.heap.size = H) (cs : Array Value) (size : Nat) (hs : cs.size = size) (h1 : ∀ u ∈ cs.toList, u.oneCell' = true) : Src (w.alloc (.cells cs e)) (some ⟨H, 0, none⟩) 1 size cs.toList := by
  subst hH; exact src_box w e cs size hs h1
theorem own_or {w : World} {base size n c : Nat} {e : TypeId} {A : Option Addr} {xs : List Value} (h : w.ownsRow base e size (.slice A n c) n xs) : OR w base e A xs := by
  obtain ⟨A', c', e1, h1⟩ := or_own h
  injection e1 with e1 _ _; subst e1; exact h1
theorem own_kept {w w' : World} {base : Nat} {e : TypeId} {size n : Nat} {v : Value} {xs : List Value} (h : w.ownsRow base e size v n xs) (hb : Below w.heap.size w w') : w'.ownsRow base e size v n xs :=
  h.kept (row := none) ⟨hb.os, hb.tape, hb.output, hb.size, fun k hk _ => hb.block k hk⟩ (by cases v.ownBlock <;> simp)
/-- the first k are in force or zero, the others zero -/
def mixL (p t : Int) (l : List Gr) (k : Nat) : List Gr := (forceL p t l).take k ++ List.replicate (l.length - k) zeroG
theorem mix_len (p t : Int) (l : List Gr) {k : Nat} (hk : k ≤ l.length) : (mixL p t l k).length = l.length := by
  simp [mixL, forceL_len]; omega
theorem force_at {p t : Int} {l : List Gr} {k : Nat} {x : Gr} (hx : l[k]? = some x) : (forceL p t l)[k]? = some (if appB p t x then x else zeroG) := by simp [forceL, hx]
theorem mix_next {p t : Int} {l : List Gr} {k : Nat} {x : Gr} (hx : l[k]? = some x) : mixL p t l (k + 1) = (mixL p t l k).set k (if appB p t x then x else zeroG) := by
  have hk : k < l.length := (List.getElem?_eq_some_iff.1 hx).1
  unfold mixL
  have hl : ((forceL p t l).take k).length = k := by simp [forceL_len]; omega
  rw [List.set_append_right _ _ (by omega), hl, Nat.sub_self, List.take_add_one, force_at hx]
  obtain ⟨m, hm⟩ : ∃ m, l.length - k = m + 1 := ⟨l.length - k - 1, by omega⟩
  rw [hm, show l.length - (k + 1) = m by omega, List.replicate_succ, List.set_cons_zero]
  simp
theorem mix_stay {p t : Int} {l : List Gr} {k : Nat} {x : Gr} (hx : l[k]? = some x) (h : appB p t x = false) : mixL p t l (k + 1) = mixL p t l k := by
  rw [mix_next hx, h]
  have hk : k < l.length := (List.getElem?_eq_some_iff.1 hx).1
  have hg : (mixL p t l k)[k]? = some zeroG := by
    unfold mixL
    have hl : ((forceL p t l).take k).length = k := by simp [forceL_len]; omega
    rw [List.getElem?_append_right (by omega), hl, Nat.sub_self, List.getElem?_replicate, if_pos (by omega)]
  apply List.ext_getElem?
  intro j
  by_cases e : k = j
  · subst e; rw [List.getElem?_set_self (by rw [mix_len p t l (by omega)]; exact hk), hg]; rfl
  · rw [List.getElem?_set_ne e]
theorem mix_end (p t : Int) (l : List Gr) : mixL p t l l.length = forceL p t l := by
  unfold mixL; rw [Nat.sub_self, List.replicate_zero, List.append_nil, List.take_of_length_le (by rw [forceL_len]; exact Nat.le_refl _)]
theorem mix_zero (p t : Int) (l : List Gr) : mixL p t l 0 = List.replicate l.length zeroG := by simp [mixL]
theorem copied_zero (w : World) (m p t : Int) (l : List Gr) : Copiedgr (w.alloc (.cells (madeCells #[.int .i64 0, .int .i64 0, .int .i64 0, .int .i64 0, .int .i64 0, .int .i64 0, .bool false] (l.length * 7)) 35)) w.heap.size (madeCells #[.int .i64 0, .int .i64 0, .int .i64 0, .int .i64 0, .int .i64 0, .int .i64 0, .bool false] (l.length * 7)) (mixL p t l 0) (mixL p t l 0).length where
  heap := has_new _ _ _
  size := by rw [mix_len p t l (Nat.zero_le _)]; simp [size_madeCells]
  got := fun j x hj hx => by
    rw [mix_zero] at hx hj
    rw [List.length_replicate] at hj
    rw [List.getElem?_replicate, if_pos hj] at hx
    injection hx with hx; subst hx
    have e : ∀ i, i < 7 → (madeCells #[.int .i64 0, .int .i64 0, .int .i64 0, .int .i64 0, .int .i64 0, .int .i64 0, .bool false] (l.length * 7))[j * 7 + i]? = (#[.int .i64 0, .int .i64 0, .int .i64 0, .int .i64 0, .int .i64 0, .int .i64 0, .bool false] : Array Value)[i]? := by
      intro i hi
      have h1 : j * 7 + i < l.length * 7 := by omega
      have h2 : (j * 7 + i) % 7 = i := by omega
      simp [madeCells, h1, h2]
      rcases i with _ | _ | _ | _ | _ | _ | _ | i <;> first | rfl | omega
    exact ⟨by have := e 0 (by omega); rw [Nat.add_zero] at this; exact this, e 1 (by omega), e 2 (by omega), e 3 (by omega), e 4 (by omega), e 5 (by omega), e 6 (by omega)⟩
theorem givers_zero (F : List Gr) (y d : Int) : giversL (F.take 0) y d = [] := by simp [giversL]
theorem givers_hit {F : List Gr} {y d : Int} {k : Nat} {x : Gr} (hx : F[k]? = some x) (h1 : x.to = y) (h2 : d ≤ x.dep) : giversL (F.take (k + 1)) y d = giversL (F.take k) y d ++ [x.frm] := by
  unfold giversL; rw [List.take_add_one, hx]; simp [h1, h2]
theorem givers_miss {F : List Gr} {y d : Int} {k : Nat} {x : Gr} (hx : F[k]? = some x) (h : x.to ≠ y ∨ ¬ d ≤ x.dep) : giversL (F.take (k + 1)) y d = giversL (F.take k) y d := by
  unfold giversL; rw [List.take_add_one, hx]; rcases h with h | h <;> simp [h]
theorem givers_len (F : List Gr) (y d : Int) : (giversL F y d).length ≤ F.length := by
  unfold giversL; rw [List.length_map]; exact List.length_filter_le _ _
theorem givers_take (F : List Gr) (y d : Int) (k : Nat) : (giversL (F.take k) y d).length ≤ k := Nat.le_trans (givers_len _ _ _) (List.length_take_le _ _)
end Go.Proofs.Ytdaeljjjcgpcoaa
