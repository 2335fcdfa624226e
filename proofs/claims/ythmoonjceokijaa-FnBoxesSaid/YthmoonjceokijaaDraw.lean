/- The drawing of inputs: contracts that say no more than the range of what is drawn. -/
import Derived.Test.YthmoonjceokijaaMem
import Derived.Laws.BitsAllLaws
namespace Go.Proofs.Ythmoonjceokijaa
open Go.RowKit
set_option linter.unusedVariables false

theorem mask255 (v : Int) : 0 ≤ bits .and .i64 v 255 ∧ bits .and .i64 v 255 ≤ 255 := by
  have h : bits .and .i64 v 255 = IntKind.i64.wrap ((BitVec.ofInt 64 v &&& BitVec.ofInt 64 255).toNat : Int) := rfl
  rw [h, BitVec.toNat_and, IntKind.wrap_i64]
  have : (BitVec.ofInt 64 v).toNat &&& (BitVec.ofInt 64 255).toNat ≤ (BitVec.ofInt 64 255).toNat := Nat.and_le_right
  have e : (BitVec.ofInt 64 255).toNat = 255 := by decide
  rw [e] at this ⊢
  omega

/-- bytes that can be read, below block B -/
def BS (w : World) (B : Nat) (A : Option Addr) (n : Nat) : Prop :=
  n = 0 ∨ ∃ b off, A = some ⟨b, off, none⟩ ∧ b < B ∧ ∀ k, k < n → ∃ u : Int, 0 ≤ u ∧ u ≤ 255 ∧ w.cell? ⟨b, off + k, none⟩ = some (.int .u8 u)
theorem BS.below {w w' : World} {B : Nat} {A : Option Addr} {n : Nat} (h : BS w B A n) (hb : Below B w w') : BS w' B A n := by
  rcases h with h | ⟨b, off, rfl, hlt, hc⟩
  · exact .inl h
  · refine .inr ⟨b, off, rfl, hlt, fun k hk => ?_⟩
    obtain ⟨u, h0, h1, h2⟩ := hc k hk
    exact ⟨u, h0, h1, (hb.cell (p := ⟨b, off + k, none⟩) hlt).trans h2⟩
theorem BS.below' {w : World} {B B' : Nat} {A : Option Addr} {n : Nat} (h : BS w B A n) (hB : B ≤ B') : BS w B' A n := by
  rcases h with h | ⟨b, off, rfl, hlt, hc⟩
  · exact .inl h
  · exact .inr ⟨b, off, rfl, by omega, hc⟩
theorem BS.kept {w w' : World} {B : Nat} {A : Option Addr} {n : Nat} (h : BS w B A n) (hk : ∀ p : Addr, p.block < B → w'.cell? p = w.cell? p) : BS w' B A n := by
  rcases h with h | ⟨b, off, rfl, hlt, hc⟩
  · exact .inl h
  · refine .inr ⟨b, off, rfl, hlt, fun k hk' => ?_⟩
    obtain ⟨u, h0, h1, h2⟩ := hc k hk'
    exact ⟨u, h0, h1, (hk _ hlt).trans h2⟩

/-- the cursor lies in block g and reads bytes that lie below block B -/
def Cur (w : World) (B g : Nat) : Prop :=
  ∃ (A : Option Addr) (n c : Nat) (i h : Int), Has w g 74 #[.slice A n c, .int .i64 i, .int .i64 h] ∧ BS w B A n ∧ n ≤ maxLen ∧ 0 ≤ i ∧ i ≤ n ∧ B ≤ g

theorem only_trans {a b c : World} {g : Nat} (h : Only a g b) (k : Only b g c) : Only a g c :=
  ⟨k.os.trans h.os, k.tape.trans h.tape, k.output.trans h.output, Nat.le_trans h.size k.size, fun i hi hne => (k.block i (Nat.lt_of_lt_of_le hi h.size) hne).trans (h.block i hi hne)⟩

def Drawn (lo hi : Int) (w : World) (B g : Nat) (e : Ending) (w' : World) : Prop := ∃ x : Int, lo ≤ x ∧ x ≤ hi ∧ e = .returned (.int .i64 x) ∧ Cur w' B g ∧ Only w g w'

set_option maxHeartbeats 1000000 in
theorem byte_any (w : World) (B g : Nat) (hC : Cur w B g) :
    Calls Try.prog 49 #[.pointer (some ⟨g, 0, none⟩)] w (Drawn 0 255 w B g) := by
  obtain ⟨A, n, c, i, h, hH, hS, hn, h0, h1, hg⟩ := hC
  have hn63 : n ≤ 9223372036854775807 := by unfold maxLen at hn; omega
  have e0 := has_cell hH 0 rfl
  have e1 := has_cell hH 1 rfl
  have e2 := has_cell hH 2 rfl
  have f1 := has_free hH 1
  have f2 := has_free hH 2
  have HS := Lib.hid hS; clear hS
  have HH := Lib.hid hH; clear hH
  go_enter Try.func49, Try.ntmps49
  go_wp2
  generalize (wrap64 (wrap64 (h * 6364136223846793005) + 1442695040888963407)) = h'
  generalize hW1 : w.setCell ⟨g, 2, none⟩ (.int .i64 h') = w1
  have o1 : Only w g w1 := by rw [← hW1]; exact only_set (only_refl _ _) _ _
  have k1 : Has w1 g 74 #[.slice A n c, .int .i64 i, .int .i64 h'] := by rw [← hW1]; simpa using has_set HH.out 2 (.int .i64 h')
  have s1 : BS w1 B A n := HS.out.kept fun p hp => by
    rw [← hW1]
    exact World.cell?_setCell_other w _ _ _ (fun e => by subst e; simp at hp; omega)
  clear hW1 e0 e1 e2 f1 f2
  have e0 := has_cell k1 0 rfl
  have e1 := has_cell k1 1 rfl
  have e2 := has_cell k1 2 rfl
  have f1 := has_free k1 1
  have K1 := Lib.hid k1; clear k1
  generalize wrap64 (h * 6364136223846793005) = h''
  go_quiet (fail)
  generalize hx : bits .and .i64 _ 255 = x
  have bx : 0 ≤ x ∧ x ≤ 255 := by rw [← hx]; exact mask255 _
  clear hx
  obtain ⟨bx0, bx1⟩ := bx
  by_cases hlt : i < n
  · rcases s1 with s1 | ⟨b, off, rfl, hbB, hc⟩
    · omega
    obtain ⟨k, rfl⟩ := Int.eq_ofNat_of_zero_le h0
    obtain ⟨u, hu0, hu1, huc⟩ := hc k (by omega)
    have HC := Lib.hid hc; clear hc
    have hd : decide ((k : Int) < (n : Int)) = true := by simpa using hlt
    have hd' : decide (k < n) = true := by simpa using hlt
    go_wp2
    go_quiet (fail)
    go_wp2
    go_quiet (fail)
    generalize hy : bits .and .i64 _ 255 = y
    have bY : 0 ≤ y ∧ y ≤ 255 := by rw [← hy]; exact mask255 _
    clear hy
    go_wp2
    go_ret
    have kset : Has (w1.setCell ⟨g, 1, none⟩ (.int .i64 ((k : Int) + 1))) g 74 #[.slice (some ⟨b, off, none⟩) n c, .int .i64 ((k : Int) + 1), .int .i64 h'] := by simpa using has_set K1.out 1 (.int .i64 ((k : Int) + 1))
    have sset : BS (w1.setCell ⟨g, 1, none⟩ (.int .i64 ((k : Int) + 1))) B (some ⟨b, off, none⟩) n := BS.kept (.inr ⟨b, off, rfl, hbB, HC.out⟩) fun p hp => World.cell?_setCell_other w1 _ _ _ (fun e => by subst e; simp at hp; omega)
    exact ⟨y, bY.1, bY.2, rfl, ⟨some ⟨b, off, none⟩, n, c, (k : Int) + 1, h', kset, sset, hn, by omega, by omega, hg⟩, only_set (only_drewN o1 _) _ _⟩
  · have hd : decide (i < (n : Int)) = false := by simpa using hlt
    go_wp2
    go_quiet (fail)
    go_wp2
    go_ret
    exact ⟨x, bx0, bx1, rfl, ⟨A, n, c, i, h', has_drewN (has_drewN K1.out _) _, s1, hn, h0, h1, hg⟩, only_drewN (only_drewN o1 _) _⟩

theorem Cur.drew {w : World} {B g : Nat} (h : Cur w B g) : Cur w.drew B g := h

set_option maxHeartbeats 1000000 in
theorem below_any (w : World) (B g : Nat) (n : Int) (hn : 1 ≤ n) (hn2 : n ≤ 2147483648) (hC : Cur w B g) :
    Calls Try.prog 24 #[.pointer (some ⟨g, 0, none⟩), .int .i64 n] w (Drawn 0 (n - 1) w B g) := by
  have HC := Lib.hid hC; clear hC
  by_cases h256 : n ≤ 256
  · go_enter Try.func24, Try.ntmps24
    go_wp2_with fail
    refine (byte_any w B g HC.out).mono ?_
    rintro e w1 ⟨x, hx0, hx1, rfl, hC1, ho1⟩
    have h2 := Int.emod_nonneg x (show n ≠ 0 by omega)
    have h3 := Int.emod_lt_of_pos x (show 0 < n by omega)
    go_wp2_with fail
    go_ret
    exact ⟨_, h2, by omega, rfl, hC1, ho1⟩
  · go_enter Try.func24, Try.ntmps24
    go_wp2_with fail
    refine (byte_any w B g HC.out).mono ?_
    rintro e w1 ⟨x, hx0, hx1, rfl, hC1, ho1⟩
    have HC1 := Lib.hid hC1; clear hC1
    go_wp2_with fail
    refine (byte_any w1 B g HC1.out).mono ?_
    rintro e w2 ⟨y, hy0, hy1, rfl, hC2, ho2⟩
    have HC2 := Lib.hid hC2; clear hC2
    go_wp2_with fail
    refine (byte_any w2 B g HC2.out).mono ?_
    rintro e w3 ⟨z, hz0, hz1, rfl, hC3, ho3⟩
    have HC3 := Lib.hid hC3; clear hC3
    go_wp2_with fail
    refine (byte_any w3 B g HC3.out).mono ?_
    rintro e w4 ⟨u, hu0, hu1, rfl, hC4, ho4⟩
    have HC4 := Lib.hid hC4; clear hC4
    go_wp2_with fail
    go_ret
    have h2 := Int.emod_nonneg (x * 16777216 + y * 65536 + z * 256 + u) (show n ≠ 0 by omega)
    have h3 := Int.emod_lt_of_pos (x * 16777216 + y * 65536 + z * 256 + u) (show 0 < n by omega)
    exact ⟨_, h2, by omega, rfl, HC4.out, only_trans (only_trans (only_trans ho1 ho2) ho3) ho4⟩

def DrawnB (w : World) (B g : Nat) (e : Ending) (w' : World) : Prop := ∃ x : Bool, e = .returned (.bool x) ∧ Cur w' B g ∧ Only w g w'
theorem once_any (w : World) (B g : Nat) (n : Int) (hn : 1 ≤ n) (hn2 : n ≤ 2147483648) (hC : Cur w B g) :
    Calls Try.prog 59 #[.pointer (some ⟨g, 0, none⟩), .int .i64 n] w (DrawnB w B g) := by
  have HC := Lib.hid hC; clear hC
  go_enter Try.func59, Try.ntmps59
  go_wp2_with fail
  refine (below_any w B g n hn hn2 HC.out).mono ?_
  rintro e w1 ⟨x, hx0, hx1, rfl, hC1, ho1⟩
  go_wp2_with fail
  go_ret
  exact ⟨_, rfl, hC1, ho1⟩

set_option maxRecDepth 100000 in
set_option maxHeartbeats 400000 in
theorem new_any (w : World) (B : Nat) (A : Option Addr) (n c : Nat) (hn : n ≤ maxLen) (hB : B ≤ w.heap.size) (hS : BS w B A n) :
    Calls Try.prog 21 #[.slice A n c] w fun e w' => e = .returned (.pointer (some ⟨w.heap.size, 0, none⟩)) ∧ Cur w' B w.heap.size ∧ Below w.heap.size w w' := by
  unfold maxLen at hn
  have HS := Lib.hid hS; clear hS
  go_enter Try.func21, Try.ntmps21
  go_wp2
  generalize (wrap64 (33183 + (n : Int))) = h0
  go_loop [3, 4] (fun u i => ∃ (k : Nat) (h : Int), k ≤ n ∧ i = .int .i64 k ∧ u = .int .i64 h) (fun _ i => n - (intOf i).toNat)
  case atStart => exact ⟨0, h0, Nat.zero_le _, rfl, rfl⟩
  case round =>
    obtain ⟨k, h, hk, rfl, rfl⟩ := hrel
    by_cases hlt : k < n ∧ k < 4000
    · rcases HS.out with hs | ⟨b, off, rfl, hbB, hc⟩
      · omega
      obtain ⟨u, hu0, hu1, huc⟩ := hc k hlt.1
      clear hc
      obtain ⟨hl1, hl2⟩ := hlt
      go_wp2
      go_round
      case rel => exact ⟨k + 1, _, by omega, by go_num, rfl⟩
      case measure => simp [intOf]; omega
    · by_cases hl1 : k < n
      · have hl2 : ¬ k < 4000 := by omega
        go_wp2
        go_ret
        exact ⟨rfl, ⟨A, n, c, 0, h, has_new _ _ _, HS.out.below ((balloc w _).mono hB), by unfold maxLen; omega, by omega, by omega, hB⟩, balloc _ _⟩
      · go_wp2
        go_ret
        exact ⟨rfl, ⟨A, n, c, 0, h, has_new _ _ _, HS.out.below ((balloc w _).mono hB), by unfold maxLen; omega, by omega, by omega, hB⟩, balloc _ _⟩

set_option maxHeartbeats 400000 in
theorem big_any (w : World) (A : Option Addr) (n c : Nat) (hn : n ≤ maxLen) :
    Calls Try.prog 5 #[.slice A n c] w fun e w' => e = .returned (.bool (decide ((1048576 : Int) < n))) ∧ w' = w := by
  go_enter Try.func5, Try.ntmps5
  go_wp2
  go_ret
  exact ⟨rfl, rfl⟩

theorem has_only {w w' : World} {g k : Nat} {t : TypeId} {cs : Array Value} (h : Has w k t cs) (ho : Only w g w') (hne : k ≠ g) : Has w' k t cs :=
  (ho.block k (has_lt h) (fun e => hne (by injection e))).trans h
theorem Cur.alloc {w : World} {B g : Nat} (h : Cur w B g) (hB : B ≤ w.heap.size) (o : Obj) : Cur (w.alloc o) B g := by
  obtain ⟨A, n, c, i, hh, hH, hS, r⟩ := h
  exact ⟨A, n, c, i, hh, has_alloc hH o, hS.below ((balloc w o).mono hB), r⟩
theorem Cur.lt {w : World} {B g : Nat} (h : Cur w B g) : B ≤ w.heap.size ∧ g < w.heap.size := by
  obtain ⟨A, n, c, i, hh, hH, hS, _, _, _, hg⟩ := h
  have := has_lt hH
  omega
theorem only_alloc {w : World} (g : Nat) (o : Obj) : Only w g (w.alloc o) :=
  ⟨rfl, rfl, rfl, (balloc w o).size, fun k hk _ => (balloc w o).block k hk⟩

set_option maxHeartbeats 400000 in
theorem pickInt_any (w : World) (B g gl m : Nat) (cs : Array Value) (lo hi : Int) (hC : Cur w B g) (hL : Has w gl 3 cs) (hm : cs.size = m) (h1 : 1 ≤ m) (h2 : m ≤ 1000) (hne : gl ≠ g)
    (hall : ∀ k, k < m → ∃ x : Int, lo ≤ x ∧ x ≤ hi ∧ cs[k]? = some (.int .i64 x)) :
    Calls Try.prog 23 #[.pointer (some ⟨g, 0, none⟩), .slice (some ⟨gl, 0, none⟩) m m] w (Drawn lo hi w B g) := by
  have HC := Lib.hid hC; clear hC
  have HL := Lib.hid hL; clear hL
  have HA := Lib.hid hall; clear hall
  go_enter Try.func23, Try.ntmps23
  go_wp2_with fail
  refine (below_any w B g m (by omega) (by omega) HC.out).mono ?_
  rintro e w1 ⟨x, hx0, hx1, rfl, hC1, ho1⟩
  have HC1 := Lib.hid hC1; clear hC1
  have k1 := has_only HL.out ho1 hne
  obtain ⟨k, rfl⟩ := Int.eq_ofNat_of_zero_le hx0
  obtain ⟨y, hy0, hy1, hyc⟩ := HA.out k (by omega)
  have e1 := has_cell k1 k hyc
  clear k1 hyc
  go_wp2_with fail
  go_ret
  exact ⟨y, hy0, hy1, rfl, HC1.out, ho1⟩

end Go.Proofs.Ythmoonjceokijaa
