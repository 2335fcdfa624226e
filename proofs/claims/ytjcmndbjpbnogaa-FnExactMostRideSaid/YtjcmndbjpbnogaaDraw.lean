/- The drawing of inputs: contracts that say no more than the range of what is drawn. -/
import Derived.Test.YtjcmndbjpbnogaaMem
import Derived.Laws.BitsAllLaws
namespace Go.Proofs.Ytjcmndbjpbnogaa
open Go.RowKit
set_option linter.unusedVariables false

theorem mask255 (v : Int) : 0 ≤ bits .and .i64 v 255 ∧ bits .and .i64 v 255 ≤ 255 := by
  have h : bits .and .i64 v 255 = IntKind.i64.wrap ((BitVec.ofInt 64 v &&& BitVec.ofInt 64 255).toNat : Int) := rfl
  rw [h, BitVec.toNat_and, IntKind.wrap_i64]
  have : (BitVec.ofInt 64 v).toNat &&& (BitVec.ofInt 64 255).toNat ≤ (BitVec.ofInt 64 255).toNat := Nat.and_le_right
  have e : (BitVec.ofInt 64 255).toNat = 255 := by decide
  rw [e] at this ⊢
  omega

/-- bytes that can be read, below block B -/
def BS (w : World) (B : Nat) (A : Option Addr) (n : Nat) : Prop :=
  n = 0 ∨ ∃ b off, A = some ⟨b, off, none⟩ ∧ b < B ∧ ∀ k, k < n → ∃ u : Int, 0 ≤ u ∧ u ≤ 255 ∧ w.cell? ⟨b, off + k, none⟩ = some (.int .u8 u)
theorem BS.below {w w' : World} {B : Nat} {A : Option Addr} {n : Nat} (h : BS w B A n) (hb : Below B w w') : BS w' B A n := by
  rcases h with h | ⟨b, off, rfl, hlt, hc⟩
  · exact .inl h
  · refine .inr ⟨b, off, rfl, hlt, fun k hk => ?_⟩
    obtain ⟨u, h0, h1, h2⟩ := hc k hk
    exact ⟨u, h0, h1, (hb.cell (p := ⟨b, off + k, none⟩) hlt).trans h2⟩
theorem BS.below' {w : World} {B B' : Nat} {A : Option Addr} {n : Nat} (h : BS w B A n) (hB : B ≤ B') : BS w B' A n := by
  rcases h with h | ⟨b, off, rfl, hlt, hc⟩
  · exact .inl h
  · exact .inr ⟨b, off, rfl, by omega, hc⟩
theorem BS.kept {w w' : World} {B : Nat} {A : Option Addr} {n : Nat} (h : BS w B A n) (hk : ∀ p : Addr, p.block < B → w'.cell? p = w.cell? p) : BS w' B A n := by
  rcases h with h | ⟨b, off, rfl, hlt, hc⟩
  · exact .inl h
  · refine .inr ⟨b, off, rfl, hlt, fun k hk' => ?_⟩
    obtain ⟨u, h0, h1, h2⟩ := hc k hk'
    exact ⟨u, h0, h1, (hk _ hlt).trans h2⟩

theorem only_trans {a b c : World} {g : Nat} (h : Only a g b) (k : Only b g c) : Only a g c :=
  ⟨k.os.trans h.os, k.tape.trans h.tape, k.output.trans h.output, Nat.le_trans h.size k.size, fun i hi hne => (k.block i (Nat.lt_of_lt_of_le hi h.size) hne).trans (h.block i hi hne)⟩

theorem has_only {w w' : World} {g k : Nat} {t : TypeId} {cs : Array Value} (h : Has w k t cs) (ho : Only w g w') (hne : k ≠ g) : Has w' k t cs :=
  (ho.block k (has_lt h) (fun e => hne (by injection e))).trans h
theorem only_alloc {w : World} (g : Nat) (o : Obj) : Only w g (w.alloc o) :=
  ⟨rfl, rfl, rfl, (balloc w o).size, fun k hk _ => (balloc w o).block k hk⟩

end Go.Proofs.Ytjcmndbjpbnogaa
