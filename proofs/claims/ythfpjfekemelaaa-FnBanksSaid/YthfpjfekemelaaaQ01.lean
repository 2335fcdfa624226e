/- Blocks that are known whole: what holds of them behind new blocks, stores and calls that write nothing old. -/
import Derived.Test.YthfpjfekemelaaaChecked
import Derived.WalkKit
import Derived.Below
import Derived.Lib.Hide
import Derived.IntWalk
import Derived.Deep.QuietTactic
import Derived.BigQuiet
import Derived.Laws.BitsAllLaws
import Derived.ProofKit
import Derived.OpenShut
namespace Go.Proofs.Ythfpjfekemelaaa
open Go.RowKit
set_option linter.unusedVariables false

/-- block g holds just these cells, none of them shared with a string -/
def Has (w : World) (g : Nat) (t : TypeId) (cs : Array Value) : Prop := w.heap[g]? = some (.cells cs t (0, 0))
theorem has_lt {w : World} {g : Nat} {t : TypeId} {cs : Array Value} (h : Has w g t cs) : g < w.heap.size := by
  rcases Nat.lt_or_ge g w.heap.size with hlt | hge
  · exact hlt
  · unfold Has at h; rw [Array.getElem?_eq_none hge] at h; cases h
theorem has_cell {w : World} {g : Nat} {t : TypeId} {cs : Array Value} (h : Has w g t cs) (i : Nat) {v : Value} (hv : cs[i]? = some v) : w.cell? ⟨g, i, none⟩ = some v := (cell_of_row w g i cs t (0, 0) h).trans hv
theorem has_free {w : World} {g : Nat} {t : TypeId} {cs : Array Value} (h : Has w g t cs) (i : Nat) : w.frozen? ⟨g, i, none⟩ = false := by
  unfold Has at h; simp [World.frozen?, h]
theorem has_new (w : World) (t : TypeId) (cs : Array Value) : Has (w.alloc (.cells cs t)) w.heap.size t cs := heap_alloc_new w _
theorem has_alloc {w : World} {g : Nat} {t : TypeId} {cs : Array Value} (h : Has w g t cs) (o : Obj) : Has (w.alloc o) g t cs := (Below.heap_alloc w o g (has_lt h)).trans h
theorem has_below {w w' : World} {B g : Nat} {t : TypeId} {cs : Array Value} (h : Has w g t cs) (hb : Below B w w') (hg : g < B) : Has w' g t cs := (hb.block g hg).trans h
theorem has_call {w w' : World} {g : Nat} {t : TypeId} {cs : Array Value} (h : Has w g t cs) (hb : Below w.heap.size w w') : Has w' g t cs := has_below h hb (has_lt h)
theorem has_set {w : World} {g : Nat} {t : TypeId} {cs : Array Value} (h : Has w g t cs) (i : Nat) (v : Value) : Has (w.setCell ⟨g, i, none⟩ v) g t (cs.setIfInBounds i v) := by
  unfold Has at h ⊢
  simp [World.setCell, Array.getElem?_modify, h]
theorem has_far {w : World} {g : Nat} {t : TypeId} {cs : Array Value} (h : Has w g t cs) {p : Addr} (hp : g ≠ p.block) (v : Value) : Has (w.setCell p v) g t cs := (Below.heap_setCell w p v g hp).trans h
theorem has_drew {w : World} {g : Nat} {t : TypeId} {cs : Array Value} (h : Has w g t cs) : Has w.drew g t cs := h
theorem has_drewN {w : World} {g : Nat} {t : TypeId} {cs : Array Value} (h : Has w g t cs) (n : Nat) : Has (w.drewN n) g t cs := h
theorem bthen {a b c : World} (h : Below a.heap.size a b) (k : Below b.heap.size b c) : Below a.heap.size a c := h.trans (k.mono h.size)
theorem bold {W W1 : World} (hb : Below W.heap.size W W1) (b o : Nat) (h : b < W.heap.size) : W1.cell? ⟨b, o, none⟩ = W.cell? ⟨b, o, none⟩ := hb.cell (p := ⟨b, o, none⟩) h
theorem balloc (w : World) (o : Obj) : Below w.heap.size w (w.alloc o) := (Below.refl _ _).alloc (Nat.le_refl _) _
theorem size_set (w : World) (p : Addr) (u : Value) : (w.setCell p u).heap.size = w.heap.size := by simp [World.setCell]
/-- only the cursor's block has changed, and new ones have come -/
def Only (w : World) (g : Nat) (w' : World) : Prop := w.grownBy w' (some g)
theorem only_refl (w : World) (g : Nat) : Only w g w := World.grownBy.refl w _
theorem only_drew {a w : World} {g : Nat} (h : Only a g w) : Only a g w.drew := ⟨h.os, h.tape, h.output, h.size, h.block⟩
theorem only_drewN {a w : World} {g : Nat} (h : Only a g w) (n : Nat) : Only a g (w.drewN n) := ⟨h.os, h.tape, h.output, h.size, h.block⟩
theorem only_set {a w : World} {g : Nat} (h : Only a g w) (i : Nat) (u : Value) : Only a g (w.setCell ⟨g, i, none⟩ u) :=
  ⟨h.os, h.tape, h.output, by rw [size_set]; exact h.size, fun k hk hne => (Below.heap_setCell w ⟨g, i, none⟩ u k (fun e => hne (by rw [e]))).trans (h.block k hk hne)⟩
theorem only_below {a w : World} {g B : Nat} (h : Only a g w) (hB : B ≤ a.heap.size) (hg : B ≤ g) : Below B a w :=
  ⟨h.os, h.tape, h.output, h.size, fun k hk => h.block k (by omega) (fun e => by injection e; omega)⟩
theorem below_drewN {B : Nat} {a w : World} (h : Below B a w) (n : Nat) : Below B a (w.drewN n) := ⟨h.os, h.tape, h.output, h.size, h.block⟩
end Go.Proofs.Ythfpjfekemelaaa
namespace Go.Proofs.Ythfpjfekemelaaa
open Go.RowKit
set_option linter.unusedVariables false

theorem mask255 (v : Int) : 0 ≤ bits .and .i64 v 255 ∧ bits .and .i64 v 255 ≤ 255 := by
  have h : bits .and .i64 v 255 = IntKind.i64.wrap ((BitVec.ofInt 64 v &&& BitVec.ofInt 64 255).toNat : Int) := rfl
  rw [h, BitVec.toNat_and, IntKind.wrap_i64]
  have : (BitVec.ofInt 64 v).toNat &&& (BitVec.ofInt 64 255).toNat ≤ (BitVec.ofInt 64 255).toNat := Nat.and_le_right
  have e : (BitVec.ofInt 64 255).toNat = 255 := by decide
  rw [e] at this ⊢
  omega

/-- bytes that can be read, below block B -/
def BS (w : World) (B : Nat) (A : Option Addr) (n : Nat) : Prop :=
  n = 0 ∨ ∃ b off, A = some ⟨b, off, none⟩ ∧ b < B ∧ ∀ k, k < n → ∃ u : Int, 0 ≤ u ∧ u ≤ 255 ∧ w.cell? ⟨b, off + k, none⟩ = some (.int .u8 u)
theorem BS.below {w w' : World} {B : Nat} {A : Option Addr} {n : Nat} (h : BS w B A n) (hb : Below B w w') : BS w' B A n := by
  rcases h with h | ⟨b, off, rfl, hlt, hc⟩
  · exact .inl h
  · refine .inr ⟨b, off, rfl, hlt, fun k hk => ?_⟩
    obtain ⟨u, h0, h1, h2⟩ := hc k hk
    exact ⟨u, h0, h1, (hb.cell (p := ⟨b, off + k, none⟩) hlt).trans h2⟩
theorem BS.below' {w : World} {B B' : Nat} {A : Option Addr} {n : Nat} (h : BS w B A n) (hB : B ≤ B') : BS w B' A n := by
  rcases h with h | ⟨b, off, rfl, hlt, hc⟩
  · exact .inl h
  · exact .inr ⟨b, off, rfl, by omega, hc⟩
theorem BS.kept {w w' : World} {B : Nat} {A : Option Addr} {n : Nat} (h : BS w B A n) (hk : ∀ p : Addr, p.block < B → w'.cell? p = w.cell? p) : BS w' B A n := by
  rcases h with h | ⟨b, off, rfl, hlt, hc⟩
  · exact .inl h
  · refine .inr ⟨b, off, rfl, hlt, fun k hk' => ?_⟩
    obtain ⟨u, h0, h1, h2⟩ := hc k hk'
    exact ⟨u, h0, h1, (hk _ hlt).trans h2⟩

/-- the cursor lies in block g and reads bytes that lie below block B -/
def Cur (w : World) (B g : Nat) : Prop :=
  ∃ (A : Option Addr) (n c : Nat) (i h : Int), Has w g 76 #[.slice A n c, .int .i64 i, .int .i64 h] ∧ BS w B A n ∧ n ≤ maxLen ∧ 0 ≤ i ∧ i ≤ n ∧ B ≤ g

theorem only_trans {a b c : World} {g : Nat} (h : Only a g b) (k : Only b g c) : Only a g c :=
  ⟨k.os.trans h.os, k.tape.trans h.tape, k.output.trans h.output, Nat.le_trans h.size k.size, fun i hi hne => (k.block i (Nat.lt_of_lt_of_le hi h.size) hne).trans (h.block i hi hne)⟩

def Drawn (lo hi : Int) (w : World) (B g : Nat) (e : Ending) (w' : World) : Prop := ∃ x : Int, lo ≤ x ∧ x ≤ hi ∧ e = .returned (.int .i64 x) ∧ Cur w' B g ∧ Only w g w'

set_option maxHeartbeats 1000000 in
theorem byte_any (w : World) (B g : Nat) (hC : Cur w B g) :
    Calls Try.prog 52 #[.pointer (some ⟨g, 0, none⟩)] w (Drawn 0 255 w B g) := by
  obtain ⟨A, n, c, i, h, hH, hS, hn, h0, h1, hg⟩ := hC
  have hn63 : n ≤ 9223372036854775807 := by unfold maxLen at hn; omega
  have e0 := has_cell hH 0 rfl
  have e1 := has_cell hH 1 rfl
  have e2 := has_cell hH 2 rfl
  have f1 := has_free hH 1
  have f2 := has_free hH 2
  have HS := Lib.hid hS; clear hS
  have HH := Lib.hid hH; clear hH
  go_enter Try.func52, Try.ntmps52
  go_wp2
  generalize (wrap64 (wrap64 (h * 6364136223846793005) + 1442695040888963407)) = h'
  generalize hW1 : w.setCell ⟨g, 2, none⟩ (.int .i64 h') = w1
  have o1 : Only w g w1 := by rw [← hW1]; exact only_set (only_refl _ _) _ _
  have k1 : Has w1 g 76 #[.slice A n c, .int .i64 i, .int .i64 h'] := by rw [← hW1]; simpa using has_set HH.out 2 (.int .i64 h')
  have s1 : BS w1 B A n := HS.out.kept fun p hp => by
    rw [← hW1]
    exact World.cell?_setCell_other w _ _ _ (fun e => by subst e; simp at hp; omega)
  clear hW1 e0 e1 e2 f1 f2
  have e0 := has_cell k1 0 rfl
  have e1 := has_cell k1 1 rfl
  have e2 := has_cell k1 2 rfl
  have f1 := has_free k1 1
  have K1 := Lib.hid k1; clear k1
  generalize wrap64 (h * 6364136223846793005) = h''
  go_quiet (fail)
  generalize hx : bits .and .i64 _ 255 = x
  have bx : 0 ≤ x ∧ x ≤ 255 := by rw [← hx]; exact mask255 _
  clear hx
  obtain ⟨bx0, bx1⟩ := bx
  by_cases hlt : i < n
  · rcases s1 with s1 | ⟨b, off, rfl, hbB, hc⟩
    · omega
    obtain ⟨k, rfl⟩ := Int.eq_ofNat_of_zero_le h0
    obtain ⟨u, hu0, hu1, huc⟩ := hc k (by omega)
    have HC := Lib.hid hc; clear hc
    have hd : decide ((k : Int) < (n : Int)) = true := by simpa using hlt
    have hd' : decide (k < n) = true := by simpa using hlt
    go_wp2
    go_quiet (fail)
    go_wp2
    go_quiet (fail)
    generalize hy : bits .and .i64 _ 255 = y
    have bY : 0 ≤ y ∧ y ≤ 255 := by rw [← hy]; exact mask255 _
    clear hy
    go_wp2
    go_ret
    have kset : Has (w1.setCell ⟨g, 1, none⟩ (.int .i64 ((k : Int) + 1))) g 76 #[.slice (some ⟨b, off, none⟩) n c, .int .i64 ((k : Int) + 1), .int .i64 h'] := by simpa using has_set K1.out 1 (.int .i64 ((k : Int) + 1))
    have sset : BS (w1.setCell ⟨g, 1, none⟩ (.int .i64 ((k : Int) + 1))) B (some ⟨b, off, none⟩) n := BS.kept (.inr ⟨b, off, rfl, hbB, HC.out⟩) fun p hp => World.cell?_setCell_other w1 _ _ _ (fun e => by subst e; simp at hp; omega)
    exact ⟨y, bY.1, bY.2, rfl, ⟨some ⟨b, off, none⟩, n, c, (k : Int) + 1, h', kset, sset, hn, by omega, by omega, hg⟩, only_set (only_drewN o1 _) _ _⟩
  · have hd : decide (i < (n : Int)) = false := by simpa using hlt
    go_wp2
    go_quiet (fail)
    go_wp2
    go_ret
    exact ⟨x, bx0, bx1, rfl, ⟨A, n, c, i, h', has_drewN (has_drewN K1.out _) _, s1, hn, h0, h1, hg⟩, only_drewN (only_drewN o1 _) _⟩

theorem Cur.drew {w : World} {B g : Nat} (h : Cur w B g) : Cur w.drew B g := h

set_option maxHeartbeats 1000000 in
theorem below_any (w : World) (B g : Nat) (n : Int) (hn : 1 ≤ n) (hn2 : n ≤ 2147483648) (hC : Cur w B g) :
    Calls Try.prog 26 #[.pointer (some ⟨g, 0, none⟩), .int .i64 n] w (Drawn 0 (n - 1) w B g) := by
  have HC := Lib.hid hC; clear hC
  by_cases h256 : n ≤ 256
  · go_enter Try.func26, Try.ntmps26
    go_wp2_with fail
    refine (byte_any w B g HC.out).mono ?_
    rintro e w1 ⟨x, hx0, hx1, rfl, hC1, ho1⟩
    have h2 := Int.emod_nonneg x (show n ≠ 0 by omega)
    have h3 := Int.emod_lt_of_pos x (show 0 < n by omega)
    go_wp2_with fail
    go_ret
    exact ⟨_, h2, by omega, rfl, hC1, ho1⟩
  · go_enter Try.func26, Try.ntmps26
    go_wp2_with fail
    refine (byte_any w B g HC.out).mono ?_
    rintro e w1 ⟨x, hx0, hx1, rfl, hC1, ho1⟩
    have HC1 := Lib.hid hC1; clear hC1
    go_wp2_with fail
    refine (byte_any w1 B g HC1.out).mono ?_
    rintro e w2 ⟨y, hy0, hy1, rfl, hC2, ho2⟩
    have HC2 := Lib.hid hC2; clear hC2
    go_wp2_with fail
    refine (byte_any w2 B g HC2.out).mono ?_
    rintro e w3 ⟨z, hz0, hz1, rfl, hC3, ho3⟩
    have HC3 := Lib.hid hC3; clear hC3
    go_wp2_with fail
    refine (byte_any w3 B g HC3.out).mono ?_
    rintro e w4 ⟨u, hu0, hu1, rfl, hC4, ho4⟩
    have HC4 := Lib.hid hC4; clear hC4
    go_wp2_with fail
    go_ret
    have h2 := Int.emod_nonneg (x * 16777216 + y * 65536 + z * 256 + u) (show n ≠ 0 by omega)
    have h3 := Int.emod_lt_of_pos (x * 16777216 + y * 65536 + z * 256 + u) (show 0 < n by omega)
    exact ⟨_, h2, by omega, rfl, HC4.out, only_trans (only_trans (only_trans ho1 ho2) ho3) ho4⟩

def DrawnB (w : World) (B g : Nat) (e : Ending) (w' : World) : Prop := ∃ x : Bool, e = .returned (.bool x) ∧ Cur w' B g ∧ Only w g w'
theorem once_any (w : World) (B g : Nat) (n : Int) (hn : 1 ≤ n) (hn2 : n ≤ 2147483648) (hC : Cur w B g) :
    Calls Try.prog 81 #[.pointer (some ⟨g, 0, none⟩), .int .i64 n] w (DrawnB w B g) := by
  have HC := Lib.hid hC; clear hC
  go_enter Try.func81, Try.ntmps81
  go_wp2_with fail
  refine (below_any w B g n hn hn2 HC.out).mono ?_
  rintro e w1 ⟨x, hx0, hx1, rfl, hC1, ho1⟩
  go_wp2_with fail
  go_ret
  exact ⟨_, rfl, hC1, ho1⟩

set_option maxRecDepth 100000 in
set_option maxHeartbeats 400000 in
theorem new_any (w : World) (B : Nat) (A : Option Addr) (n c : Nat) (hn : n ≤ maxLen) (hB : B ≤ w.heap.size) (hS : BS w B A n) :
    Calls Try.prog 23 #[.slice A n c] w fun e w' => e = .returned (.pointer (some ⟨w.heap.size, 0, none⟩)) ∧ Cur w' B w.heap.size ∧ Below w.heap.size w w' := by
  unfold maxLen at hn
  have HS := Lib.hid hS; clear hS
  go_enter Try.func23, Try.ntmps23
  go_wp2
  generalize (wrap64 (33183 + (n : Int))) = h0
  go_loop [3, 4] (fun u i => ∃ (k : Nat) (h : Int), k ≤ n ∧ i = .int .i64 k ∧ u = .int .i64 h) (fun _ i => n - (intOf i).toNat)
  case atStart => exact ⟨0, h0, Nat.zero_le _, rfl, rfl⟩
  case round =>
    obtain ⟨k, h, hk, rfl, rfl⟩ := hrel
    by_cases hlt : k < n ∧ k < 4000
    · rcases HS.out with hs | ⟨b, off, rfl, hbB, hc⟩
      · omega
      obtain ⟨u, hu0, hu1, huc⟩ := hc k hlt.1
      clear hc
      obtain ⟨hl1, hl2⟩ := hlt
      go_wp2
      go_round
      case rel => exact ⟨k + 1, _, by omega, by go_num, rfl⟩
      case measure => simp [intOf]; omega
    · by_cases hl1 : k < n
      · have hl2 : ¬ k < 4000 := by omega
        go_wp2
        go_ret
        exact ⟨rfl, ⟨A, n, c, 0, h, has_new _ _ _, HS.out.below ((balloc w _).mono hB), by unfold maxLen; omega, by omega, by omega, hB⟩, balloc _ _⟩
      · go_wp2
        go_ret
        exact ⟨rfl, ⟨A, n, c, 0, h, has_new _ _ _, HS.out.below ((balloc w _).mono hB), by unfold maxLen; omega, by omega, by omega, hB⟩, balloc _ _⟩

set_option maxHeartbeats 400000 in
theorem big_any (w : World) (A : Option Addr) (n c : Nat) (hn : n ≤ maxLen) :
    Calls Try.prog 5 #[.slice A n c] w fun e w' => e = .returned (.bool (decide ((1048576 : Int) < n))) ∧ w' = w := by
  go_enter Try.func5, Try.ntmps5
  go_wp2
  go_ret
  exact ⟨rfl, rfl⟩

theorem has_only {w w' : World} {g k : Nat} {t : TypeId} {cs : Array Value} (h : Has w k t cs) (ho : Only w g w') (hne : k ≠ g) : Has w' k t cs :=
  (ho.block k (has_lt h) (fun e => hne (by injection e))).trans h
theorem Cur.alloc {w : World} {B g : Nat} (h : Cur w B g) (hB : B ≤ w.heap.size) (o : Obj) : Cur (w.alloc o) B g := by
  obtain ⟨A, n, c, i, hh, hH, hS, r⟩ := h
  exact ⟨A, n, c, i, hh, has_alloc hH o, hS.below ((balloc w o).mono hB), r⟩
theorem Cur.lt {w : World} {B g : Nat} (h : Cur w B g) : B ≤ w.heap.size ∧ g < w.heap.size := by
  obtain ⟨A, n, c, i, hh, hH, hS, _, _, _, hg⟩ := h
  have := has_lt hH
  omega
theorem only_alloc {w : World} (g : Nat) (o : Obj) : Only w g (w.alloc o) :=
  ⟨rfl, rfl, rfl, (balloc w o).size, fun k hk _ => (balloc w o).block k hk⟩

set_option maxHeartbeats 400000 in
theorem pickInt_any (w : World) (B g gl m : Nat) (cs : Array Value) (lo hi : Int) (hC : Cur w B g) (hL : Has w gl 3 cs) (hm : cs.size = m) (h1 : 1 ≤ m) (h2 : m ≤ 1000) (hne : gl ≠ g)
    (hall : ∀ k, k < m → ∃ x : Int, lo ≤ x ∧ x ≤ hi ∧ cs[k]? = some (.int .i64 x)) :
    Calls Try.prog 25 #[.pointer (some ⟨g, 0, none⟩), .slice (some ⟨gl, 0, none⟩) m m] w (Drawn lo hi w B g) := by
  have HC := Lib.hid hC; clear hC
  have HL := Lib.hid hL; clear hL
  have HA := Lib.hid hall; clear hall
  go_enter Try.func25, Try.ntmps25
  go_wp2_with fail
  refine (below_any w B g m (by omega) (by omega) HC.out).mono ?_
  rintro e w1 ⟨x, hx0, hx1, rfl, hC1, ho1⟩
  have HC1 := Lib.hid hC1; clear hC1
  have k1 := has_only HL.out ho1 hne
  obtain ⟨k, rfl⟩ := Int.eq_ofNat_of_zero_le hx0
  obtain ⟨y, hy0, hy1, hyc⟩ := HA.out k (by omega)
  have e1 := has_cell k1 k hyc
  clear k1 hyc
  go_wp2_with fail
  go_ret
  exact ⟨y, hy0, hy1, rfl, HC1.out, ho1⟩

end Go.Proofs.Ythfpjfekemelaaa
namespace Go.Proofs.Ythfpjfekemelaaa
open Go.RowKit Go.ChangeShapes Go.WideShapes
set_option linter.unusedVariables false
theorem cell_block_lt {w : World} {a : Addr} {v : Value} (h : w.cell? a = some v) : a.block < w.heap.size := by
  rcases Nat.lt_or_ge a.block w.heap.size with hlt | hge
  · exact hlt
  · unfold World.cell? at h
    rw [Array.getElem?_eq_none hge] at h
    simp at h
theorem add_at (b off i : Nat) : (Addr.mk b off none).add i = ⟨b, off + i, none⟩ := by
  unfold Addr.add
  split
  · rename_i h; subst h; rfl
  · rfl
section
variable {H : Type} {enc : TypeId × Value → H} {P : Program} {w : World} {base : Nat} {spare : Nat → Bool} {held : Bool}
theorem open_bytes_arg {r : Reach} {b0 : Nat} {t e : TypeId} {v : Value} {d : DataW H} {p : List MemPlace} (ht : P.underlying t = some (.slice e)) (he : P.underlying e = some (.int .u8)) (hC : P.cellsOf e = 1)
    (hv : Value.okWide P w r b0 t v) (h : DataW.Trod enc P w base spare held t v d p) :
    ∃ (A : Option Addr) (n c : Nat), v = .slice A n c ∧ n ≤ maxLen ∧ BS w w.heap.size A n := by
  obtain ⟨a, len, cap, rfl⟩ := okWide_slice ht hv
  obtain ⟨fuel, hf⟩ := h
  refine ⟨a, len, cap, rfl, ?_⟩
  rcases open_ints ht he hC hf with ⟨hcs, _⟩ | ⟨x, l, c, zs, hcs, _, hl, hm, hz, _, hcell, hwz⟩
  · simp [Value.cells] at hcs
    obtain ⟨rfl, rfl, rfl⟩ := hcs
    exact ⟨Nat.zero_le _, .inl rfl⟩
  · simp [Value.cells] at hcs
    obtain ⟨rfl, rfl, rfl⟩ := hcs
    refine ⟨Nat.le_trans hl hm, ?_⟩
    rcases Nat.eq_zero_or_pos len with h0 | h0
    · exact .inl h0
    · have hlz : len ≤ zs.length := by rw [hz]; split <;> omega
      have hc0 := hcell 0 (by omega)
      have hb : x.block < w.heap.size := by have := cell_block_lt hc0; simpa [Addr.add] using this
      have hsp : x.spot = none := by simpa [Addr.add] using World.cell?_spot hc0
      obtain ⟨b, off, sp⟩ := x
      simp only at hsp hb
      subst hsp
      refine .inr ⟨b, off, rfl, hb, fun k hk => ?_⟩
      have hk' := hcell k (by omega)
      rw [add_at] at hk'
      have hm : zs.getD k 0 ∈ zs := by
        rw [List.getD_eq_getElem?_getD, List.getElem?_eq_getElem (by omega)]
        exact List.getElem_mem _
      have hbd := bounds_u8 (hwz _ hm)
      exact ⟨_, hbd.1, hbd.2, hk'⟩
end
end Go.Proofs.Ythfpjfekemelaaa
namespace Go.Proofs.Ythfpjfekemelaaa
open Go.RowKit
set_option linter.unusedVariables false

structure Bx where
  low : Int
  size : Int
  par : Int
  jam : Bool
def lowAt (L : List Bx) (k : Nat) : Int := ((L.take k).map Bx.size).sum
theorem lowAt_zero (L : List Bx) : lowAt L 0 = 0 := rfl
theorem lowAt_succ {L : List Bx} {k : Nat} {x : Bx} (h : L[k]? = some x) : lowAt L (k + 1) = lowAt L k + x.size := by
  unfold lowAt; rw [List.take_add_one, h]; simp
def BoxAt (L : List Bx) (k : Nat) (x : Bx) : Prop := x.low = lowAt L k ∧ 1 ≤ x.size ∧ 0 ≤ x.par ∧ x.par ≤ 999
def BoxesTo (L : List Bx) (n : Nat) : Prop := ∀ k x, k < n → L[k]? = some x → BoxAt L k x
theorem boxesTo_succ {L : List Bx} {n : Nat} {x : Bx} (h : BoxesTo L n) (hx : L[n]? = some x) (hb : BoxAt L n x) : BoxesTo L (n + 1) := fun k y hk hy => by
  by_cases e : k = n
  · subst e; rw [hx] at hy; injection hy with hy; subst hy; exact hb
  · exact h k y (by omega) hy
/-- the lowest units ascend -/
theorem lowAt_mono {L : List Bx} {n : Nat} (h : BoxesTo L n) : ∀ d i, i + d ≤ n → n ≤ L.length → lowAt L i + d ≤ lowAt L (i + d)
  | 0, i, _, _ => by simp
  | d + 1, i, hi, hn => by
    have ih := lowAt_mono h d i (by omega) hn
    have hx : L[i + d]? = some L[i + d] := List.getElem?_eq_getElem (by omega)
    have := (h (i + d) _ (by omega) hx).2.1
    have := lowAt_succ hx
    rw [← Nat.add_assoc]; push_cast; omega
structure FixOk (h : Int) (F : List Int) : Prop where
  lo : 1 ≤ h
  hi : h ≤ 24
  fix : ∀ (k : Nat) (x : Int), F[k]? = some x → 1 ≤ x ∧ x < h
  asc : ∀ (k : Nat) (x y : Int), F[k]? = some x → F[k + 1]? = some y → x < y
/-- no parcel above 0 stands twice -/
def Dis (P : List Int) : Prop := P.Pairwise fun a b => 0 < b → a ≠ b
theorem dis_snoc (P : List Int) (p : Int) : Dis (P ++ [p]) ↔ Dis P ∧ (0 < p → p ∉ P) := by
  unfold Dis
  rw [List.pairwise_append]
  simp only [List.pairwise_cons, List.not_mem_nil, false_implies, implies_true, List.Pairwise.nil, and_true, true_and, List.mem_singleton, forall_eq]
  constructor
  · rintro ⟨h1, h2⟩; exact ⟨h1, fun hp hm => h2 p hm hp rfl⟩
  · rintro ⟨h1, h2⟩; exact ⟨h1, fun a ha hp e => h2 hp (e ▸ ha)⟩
theorem dis_init {P Q : List Int} (h : Dis (P ++ Q)) : Dis P := by
  unfold Dis at *; exact (List.pairwise_append.1 h).1
structure ColOk (h : Int) (F : List Int) (L : List Bx) : Prop where
  fix : FixOk h F
  box : BoxesTo L L.length
  top : lowAt L L.length = h
  wall : ∀ x ∈ F, ∃ b ∈ L, b.low = x
  diff : Dis (L.map Bx.par)
theorem asc_lt {F : List Int} (h : ∀ (k : Nat) (x y : Int), F[k]? = some x → F[k + 1]? = some y → x < y) : ∀ (d i : Nat) (x y : Int), F[i]? = some x → F[i + (d + 1)]? = some y → x < y
  | 0, i, x, y, hx, hy => h i x y hx hy
  | d + 1, i, x, y, hx, hy => by
    have hl : i + (d + 1 + 1) < F.length := (List.getElem?_eq_some_iff.1 hy).1
    have hm : F[i + (d + 1)]? = some F[i + (d + 1)] := List.getElem?_eq_getElem (by omega)
    have h1 := asc_lt h d i x _ hx hm
    have h2 := h (i + (d + 1)) _ y hm (by rw [← hy]; congr 1)
    omega
theorem asc_nodup {F : List Int} (h : ∀ (k : Nat) (x y : Int), F[k]? = some x → F[k + 1]? = some y → x < y) : F.Nodup := by
  rw [List.nodup_iff_pairwise_ne, List.pairwise_iff_getElem]
  intro i j hi hj hij
  have := asc_lt h (j - i - 1) i F[i] F[j] (List.getElem?_eq_getElem hi) (by rw [← List.getElem?_eq_getElem hj]; congr 1; omega)
  omega
/-- how many of the numbers are in the other list -/
def cntIn (F : List Int) (X : List Int) : Nat := X.countP (fun x => F.contains x)
theorem cntIn_le : ∀ (X F : List Int), X.Nodup → F.Nodup → cntIn F X ≤ F.length ∧ (cntIn F X = F.length ↔ ∀ x ∈ F, x ∈ X)
  | [], F, _, _ => by
    refine ⟨Nat.zero_le _, ?_⟩
    constructor
    · intro h x hx
      have : F.length = 0 := h.symm
      rw [List.eq_nil_of_length_eq_zero this] at hx; cases hx
    · intro h
      rcases F with _ | ⟨a, r⟩
      · rfl
      · exact absurd (h a List.mem_cons_self) (by simp)
  | a :: X, F, hX, hF => by
    have ha : a ∉ X := (List.nodup_cons.1 hX).1
    have hX' := (List.nodup_cons.1 hX).2
    by_cases hm : a ∈ F
    · have ih := cntIn_le X (F.erase a) hX' (hF.erase a)
      have e1 : cntIn F (a :: X) = cntIn (F.erase a) X + 1 := by
        unfold cntIn
        rw [List.countP_cons_of_pos (by simpa using hm)]
        congr 1
        apply List.countP_congr
        intro x hx
        have hne : x ≠ a := fun e => ha (e ▸ hx)
        simp [List.mem_erase_of_ne hne]
      have e2 : (F.erase a).length = F.length - 1 := List.length_erase_of_mem hm
      have e3 : 0 < F.length := List.length_pos_of_mem hm
      refine ⟨by omega, ?_⟩
      rw [e1]
      constructor
      · intro h x hx
        by_cases hxa : x = a
        · rw [hxa]; exact List.mem_cons_self
        · exact List.mem_cons_of_mem _ (ih.2.1 (by omega) x ((List.mem_erase_of_ne hxa).2 hx))
      · intro h
        have := ih.2.2 fun x hx => by
          have hxF := List.mem_of_mem_erase hx
          have hne : x ≠ a := fun e => by subst e; exact (List.Nodup.not_mem_erase hF) hx
          rcases List.mem_cons.1 (h x hxF) with e | e
          · exact absurd e hne
          · exact e
        omega
    · have ih := cntIn_le X F hX' hF
      have e1 : cntIn F (a :: X) = cntIn F X := by
        unfold cntIn
        rw [List.countP_cons_of_neg (by simpa using hm)]
      rw [e1]
      refine ⟨ih.1, ih.2.trans ?_⟩
      constructor
      · intro h x hx; exact List.mem_cons_of_mem _ (h x hx)
      · intro h x hx
        rcases List.mem_cons.1 (h x hx) with e | e
        · exact absurd (e ▸ hx) hm
        · exact e
/-- the walls: as many boxes have their lowest unit in the list as it has numbers -/
def wallsTo (F : List Int) (L : List Bx) (k : Nat) : Nat := cntIn F ((L.take k).map Bx.low)
theorem wallsTo_succ {F : List Int} {L : List Bx} {k : Nat} {x : Bx} (h : L[k]? = some x) : wallsTo F L (k + 1) = wallsTo F L k + if F.contains x.low then 1 else 0 := by
  unfold wallsTo cntIn; rw [List.take_add_one, h]; simp [List.countP_append, List.countP_cons]
theorem walls_iff {h : Int} {F : List Int} {L : List Bx} (hF : FixOk h F) (hb : BoxesTo L L.length) : wallsTo F L L.length = F.length ↔ ∀ x ∈ F, ∃ b ∈ L, b.low = x := by
  unfold wallsTo
  rw [List.take_length]
  have hn : (L.map Bx.low).Nodup := by
    rw [List.nodup_iff_pairwise_ne, List.pairwise_iff_getElem]
    intro i j hi hj hij
    simp only [List.length_map] at hi hj
    simp only [List.getElem_map]
    rw [(hb i _ hi (List.getElem?_eq_getElem hi)).1, (hb j _ hj (List.getElem?_eq_getElem hj)).1]
    have := lowAt_mono hb (j - i) i (by omega) (Nat.le_refl _)
    rw [show i + (j - i) = j by omega] at this
    omega
  rw [(cntIn_le _ F hn (asc_nodup hF.asc)).2]
  simp
theorem size_le {L : List Bx} {h : Int} (hb : BoxesTo L L.length) (ht : lowAt L L.length = h) {k : Nat} {x : Bx} (hx : L[k]? = some x) : lowAt L (k + 1) ≤ h ∧ x.size ≤ h ∧ 0 ≤ lowAt L k := by
  have hk : k < L.length := (List.getElem?_eq_some_iff.1 hx).1
  have h1 := lowAt_mono hb (L.length - (k + 1)) (k + 1) (by omega) (Nat.le_refl _)
  rw [show k + 1 + (L.length - (k + 1)) = L.length by omega, ht] at h1
  have h2 := lowAt_mono hb k 0 (by omega) (Nat.le_refl _)
  rw [Nat.zero_add, lowAt_zero] at h2
  have h3 := lowAt_succ hx
  omega
theorem pars_succ {L : List Bx} {k : Nat} {x : Bx} (hx : L[k]? = some x) : (L.take (k + 1)).map Bx.par = (L.take k).map Bx.par ++ [x.par] := by
  rw [List.take_add_one, hx]; simp
theorem dis_take {L : List Bx} (h : Dis (L.map Bx.par)) (k : Nat) : Dis ((L.take k).map Bx.par) := by
  have : L.map Bx.par = (L.take k).map Bx.par ++ (L.drop k).map Bx.par := by rw [← List.map_append, List.take_append_drop]
  rw [this] at h; exact dis_init h

/-- a slice of numbers reads as the list, below block B -/
def IL (w : World) (B : Nat) (A : Option Addr) (l : List Int) : Prop :=
  l = [] ∨ ∃ b off, A = some ⟨b, off, none⟩ ∧ b < B ∧ ∀ k x, l[k]? = some x → w.cell? ⟨b, off + k, none⟩ = some (.int .i64 x)
theorem IL.below {w w' : World} {B : Nat} {A : Option Addr} {l : List Int} (h : IL w B A l) (hb : Below B w w') : IL w' B A l := by
  rcases h with h | ⟨b, off, rfl, hlt, hc⟩
  · exact .inl h
  · exact .inr ⟨b, off, rfl, hlt, fun k x hx => (hb.cell (p := ⟨b, off + k, none⟩) hlt).trans (hc k x hx)⟩
theorem IL.at_ {w : World} {B : Nat} {A : Option Addr} {l : List Int} (h : IL w B A l) {k : Nat} (hk : k < l.length) :
    ∃ b off x, A = some ⟨b, off, none⟩ ∧ b < B ∧ l[k]? = some x ∧ w.cell? ⟨b, off + k, none⟩ = some (.int .i64 x) := by
  rcases h with h | ⟨b, off, rfl, hlt, hc⟩
  · subst h; simp at hk
  · exact ⟨b, off, _, rfl, hlt, List.getElem?_eq_getElem hk, hc k _ (List.getElem?_eq_getElem hk)⟩
theorem IL.later {w w' : World} {B : Nat} {A : Option Addr} {l : List Int} (h : IL w B A l) (hB : B ≤ w.heap.size) (hb : Below w.heap.size w w') : IL w' B A l := h.below (hb.mono hB)
theorem IL.more {w : World} {B B' : Nat} {A : Option Addr} {l : List Int} (h : IL w B A l) (hB : B ≤ B') : IL w B' A l := by
  rcases h with h | ⟨b, off, rfl, hlt, hc⟩
  · exact .inl h
  · exact .inr ⟨b, off, rfl, by omega, hc⟩
/-- a slice of boxes reads as the list, below block B -/
def XL (w : World) (B : Nat) (A : Option Addr) (l : List Bx) : Prop :=
  l = [] ∨ ∃ b off, A = some ⟨b, off, none⟩ ∧ b < B ∧ ∀ k x, l[k]? = some x → w.cell? ⟨b, off + k * 4, none⟩ = some (.int .i64 x.low) ∧ w.cell? ⟨b, off + k * 4 + 1, none⟩ = some (.int .i64 x.size) ∧ w.cell? ⟨b, off + k * 4 + 2, none⟩ = some (.int .i64 x.par) ∧ w.cell? ⟨b, off + k * 4 + 3, none⟩ = some (.bool x.jam)
theorem XL.below {w w' : World} {B : Nat} {A : Option Addr} {l : List Bx} (h : XL w B A l) (hb : Below B w w') : XL w' B A l := by
  rcases h with h | ⟨b, off, rfl, hlt, hc⟩
  · exact .inl h
  · refine .inr ⟨b, off, rfl, hlt, fun k x hx => ?_⟩
    have := hc k x hx
    exact ⟨(hb.cell (p := ⟨b, off + k * 4, none⟩) hlt).trans this.1, (hb.cell (p := ⟨b, off + k * 4 + 1, none⟩) hlt).trans this.2.1, (hb.cell (p := ⟨b, off + k * 4 + 2, none⟩) hlt).trans this.2.2.1, (hb.cell (p := ⟨b, off + k * 4 + 3, none⟩) hlt).trans this.2.2.2⟩
theorem XL.at_ {w : World} {B : Nat} {A : Option Addr} {l : List Bx} (h : XL w B A l) {k : Nat} (hk : k < l.length) :
    ∃ b off x, A = some ⟨b, off, none⟩ ∧ b < B ∧ l[k]? = some x ∧ w.cell? ⟨b, off + k * 4, none⟩ = some (.int .i64 x.low) ∧ w.cell? ⟨b, off + k * 4 + 1, none⟩ = some (.int .i64 x.size) ∧ w.cell? ⟨b, off + k * 4 + 2, none⟩ = some (.int .i64 x.par) ∧ w.cell? ⟨b, off + k * 4 + 3, none⟩ = some (.bool x.jam) := by
  rcases h with h | ⟨b, off, rfl, hlt, hc⟩
  · subst h; simp at hk
  · exact ⟨b, off, _, rfl, hlt, List.getElem?_eq_getElem hk, hc k _ (List.getElem?_eq_getElem hk)⟩
theorem XL.later {w w' : World} {B : Nat} {A : Option Addr} {l : List Bx} (h : XL w B A l) (hB : B ≤ w.heap.size) (hb : Below w.heap.size w w') : XL w' B A l := h.below (hb.mono hB)
theorem XL.more {w : World} {B B' : Nat} {A : Option Addr} {l : List Bx} (h : XL w B A l) (hB : B ≤ B') : XL w B' A l := by
  rcases h with h | ⟨b, off, rfl, hlt, hc⟩
  · exact .inl h
  · exact .inr ⟨b, off, rfl, by omega, hc⟩
/-- the answer is a test whose truth is p -/
def Tells (p : Prop) (w : World) (e : Ending) (w' : World) : Prop := ∃ b : Bool, e = .returned (.bool b) ∧ (b = true ↔ p) ∧ Below w.heap.size w w'
theorem tells_yes {p : Prop} {w w' : World} (h : p) (hb : Below w.heap.size w w') : Tells p w (.returned (.bool true)) w' := ⟨true, rfl, by simp [h], hb⟩
theorem tells_no {p : Prop} {w w' : World} (h : ¬ p) (hb : Below w.heap.size w w') : Tells p w (.returned (.bool false)) w' := ⟨false, rfl, by simp [h], hb⟩
end Go.Proofs.Ythfpjfekemelaaa
