/- Chapter 5: the walks of l05Short and of the model's ChainOf (gen_grv.py). -/
import Derived.Test.YtdaeljjjcgpcoaaGraU
namespace Go.Proofs.Ytdaeljjjcgpcoaa
open Go.RowKit
set_option linter.unusedVariables false
/-- the levels as they can be read -/
structure Reads (w : World) (b : Nat) (gs : List Nat) (l : List Gr) (p t sp who : Int) : Prop where
  out : ∀ j : Nat, j < 7 → ∃ g, gs[j]? = some g ∧ w.cell? ⟨b, j, none⟩ = some (.slice (some ⟨g, 0, none⟩) 41 41) ∧ b < w.heap.size ∧ g < w.heap.size ∧ ∀ x : Nat, x < 41 → w.cell? ⟨g, x, none⟩ = some (.bool (rhB l p t sp who j (x : Int)))
theorem reads_of {w w' : World} {base b cap : Nat} {gs : List Nat} {l : List Gr} {p t sp who : Int} (hgl : gs.length = 7) (h : w.ownsRow base 46 1 (.slice (some ⟨b, 0, none⟩) 7 cap) 7 (gs.map rowS)) (hl : Levels w base gs l p t sp who) : Reads w b gs l p t sp who := ⟨fun j hj => by
  have hg : gs[j]? = some gs[j] := List.getElem?_eq_getElem (by omega)
  have h1 := h.cellAt j (by omega)
  rw [List.getElem?_map, hg] at h1
  have h2 := (hl j _ hg).2
  obtain ⟨_, _, e, _, hlt⟩ := h.form (by omega)
  injection e with e _ _; injection e with e; injection e with e _ _; subst e
  exact ⟨gs[j], hg, h1, hlt, has_lt h2, fun x hx => has_cell h2 x (rowV_at _ hx)⟩⟩
theorem Reads.call {w w' : World} {b : Nat} {gs : List Nat} {l : List Gr} {p t sp who : Int} (h : Reads w b gs l p t sp who) (hb : Below w.heap.size w w') : Reads w' b gs l p t sp who := ⟨fun j hj => by
  obtain ⟨g, h1, h2, h3, h4, h5⟩ := h.out j hj
  have := hb.size
  exact ⟨g, h1, (bold hb _ _ h3).trans h2, by omega, by omega, fun x hx => (bold hb _ _ h4).trans (h5 x hx)⟩⟩
def shortI (o : Option Nat) : Int := match o with | some h => (h : Int) | none => -1
theorem short_hit {l : List Gr} {p t sp who owner : Int} {k : Nat} (hk : k < 7) (h : rhB l p t sp who k owner = true) (hno : ∀ j, j < k → rhB l p t sp who j owner = false) : shortB l p t sp who owner = some k := (find_range _ 7 k).2 ⟨hk, h, hno⟩
theorem short_none {l : List Gr} {p t sp who owner : Int} (hno : ∀ j, j < 7 → rhB l p t sp who j owner = false) : shortB l p t sp who owner = none := by
  unfold shortB; rw [List.find?_eq_none]; intro j hj; rw [hno j (by simpa using hj)]; simp
set_option maxRecDepth 100000 in
set_option maxHeartbeats 2000000 in
theorem short_any (w : World) (b cap : Nat) (gs : List Nat) (l : List Gr) (p t sp who owner : Int) (hR : Reads w b gs l p t sp who) (ho : 1 ≤ owner ∧ owner ≤ 40) :
    Calls Try.prog 24 #[.slice (some ⟨b, 0, none⟩) 7 cap, .int .i64 owner] w fun e w' => e = .returned (.int .i64 (shortI (shortB l p t sp who owner))) ∧ w' = w := by
  have HR := Lib.hid hR; clear hR
  obtain ⟨ko, rfl⟩ := Int.eq_ofNat_of_zero_le (show 0 ≤ owner by omega)
  have hko : ko < 41 := by omega
  go_enter Try.func24, Try.ntmps24
  go_wp2
  go_loop [5] (fun i => ∃ k : Nat, k ≤ 7 ∧ i = .int .i64 k ∧ ∀ j, j < k → rhB l p t sp who j (ko : Int) = false) (fun i => 7 - (intOf i).toNat)
  case atStart => exact ⟨0, by omega, rfl, (fun j hj => absurd hj (by omega))⟩
  case round =>
    obtain ⟨k, hk, rfl, hno⟩ := hrel
    have HNO := Lib.hid hno; clear hno
    by_cases hlt : k < 7
    · obtain ⟨g, h1, h2, h3, h4, h5⟩ := HR.out.out k hlt
      have h6 := h5 ko hko
      clear h1 h5
      cases hr : rhB l p t sp who k (ko : Int)
      · have HQ := Lib.hid hr
        rw [hr] at h6; clear hr
        go_wp2
        go_round
        case rel => exact ⟨k + 1, by omega, by go_num, fun j hj => by
          by_cases e : j = k
          · subst e; exact HQ.out
          · exact HNO.out j (by omega)⟩
        case measure => simp [intOf]; omega
      · have HQ := Lib.hid hr
        rw [hr] at h6; clear hr
        go_wp2
        go_ret
        exact ⟨rint (by rw [short_hit hlt HQ.out HNO.out]; rfl), rfl⟩
    · obtain rfl : k = 7 := by omega
      go_wp2
      go_ret
      exact ⟨rint (by rw [short_none HNO.out]; rfl), rfl⟩
end Go.Proofs.Ytdaeljjjcgpcoaa
