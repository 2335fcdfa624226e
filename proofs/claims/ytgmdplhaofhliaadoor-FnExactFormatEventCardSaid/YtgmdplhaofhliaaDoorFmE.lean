/- Chapter 8: how an event is written: plain facts; the word of a kind (gen_fme.py). -/
import Derived.Test.YtgmdplhaofhliaaDoorFmtD
import Derived.Test.YtgmdplhaofhliaaDoorEvB
import Derived.Test.YtgmdplhaofhliaaDoorAny
namespace Go.Proofs.YtgmdplhaofhliaaDoor
open Go.RowKit
set_option linter.unusedVariables false
def fmI (n : Int) : ByteArray := strOfNums (decZ n)
def kindS (k : Int) : ByteArray := if k = 1 then (⟨#[112, 108, 97, 99, 101, 100]⟩ : ByteArray) else if k = 2 then (⟨#[101, 120, 116, 101, 110, 100, 101, 100]⟩ : ByteArray) else if k = 3 then (⟨#[116, 97, 107, 101, 110]⟩ : ByteArray) else if k = 4 then (⟨#[102, 101, 116, 99, 104, 101, 100]⟩ : ByteArray) else ⟨#[]⟩
def fmX (e : Ev) : ByteArray := fmI e.nod ++ (⟨#[46]⟩ : ByteArray) ++ fmI e.seq ++ (⟨#[64]⟩ : ByteArray) ++ fmI e.stm ++ (⟨#[32]⟩ : ByteArray) ++ kindS e.knd ++ (⟨#[32]⟩ : ByteArray) ++ fmI e.par
def fmE (e : Ev) : ByteArray := if evB e then (if e.knd = 2 then fmX e else fmX e ++ (⟨#[32]⟩ : ByteArray) ++ fmI e.aa ++ (⟨#[32]⟩ : ByteArray) ++ fmI e.bb) else ⟨#[]⟩
theorem decR_len8 : ∀ (f n : Nat), (decR f n).length ≤ f
  | 0, n => by simp [decR]
  | f + 1, n => by
    rw [decR]; split
    · simp
    · have := decR_len8 f (n / 10); simp; omega
theorem decZ_len8 (n : Int) : (decZ n).length ≤ 21 := by
  have h : (decN n.natAbs).length ≤ 20 := by
    unfold decN; split
    · simp
    · exact decR_len8 20 _
  unfold decZ; split
  · simp; omega
  · omega
theorem fmI_len (n : Int) : (fmI n).size ≤ 21 := by unfold fmI; rw [strOfNums_size]; exact decZ_len8 n
theorem kindS_len (k : Int) : (kindS k).size ≤ 8 := by unfold kindS; repeat (first | split | decide)
theorem cat_len (a b : ByteArray) : (a ++ b).size = a.size + b.size := ByteArray.size_append
theorem cat1 (a : ByteArray) (c : UInt8) : (a ++ (⟨#[c]⟩ : ByteArray)).size = a.size + 1 := by rw [cat_len]; rfl
theorem fmE_bad {e : Ev} (h : evB e = false) : fmE e = ⟨#[]⟩ := by unfold fmE; rw [h]; rfl
theorem fmE_ext {e : Ev} (h : evB e = true) (h2 : e.knd = 2) : fmE e = fmX e := by unfold fmE; rw [h, if_pos rfl, if_pos h2]
theorem fmE_all {e : Ev} (h : evB e = true) (h2 : e.knd ≠ 2) : fmE e = fmX e ++ (⟨#[32]⟩ : ByteArray) ++ fmI e.aa ++ (⟨#[32]⟩ : ByteArray) ++ fmI e.bb := by unfold fmE; rw [h, if_pos rfl, if_neg h2]
def Tab8 (w : World) : Prop := Lib.TabIs Tryd.prog w "internal/strconv.uint64pow10" .u64 Lib.pow10Tab
theorem Tab8.lt {w : World} (h : Tab8 w) : 1 < w.heap.size := World.block_lt_of_cell? _ _ (Lib.TabIs.cell h gPow 0 (by decide))
theorem Tab8.below {w w' : World} (h : Tab8 w) (hb : Below w.heap.size w w') : Tab8 w' := var?_below hb gPow h.lt h
theorem fmtP8 (w : World) (n : Int) (h0 : 0 ≤ n) (h1 : n ≤ 100000) (ht : Tab8 w) : Calls Tryd.prog 24 #[.int .i64 n] w fun e w' => e = .returned (.string (fmI n)) ∧ Below w.heap.size w w' := fmtP_all w n (by omega) (by omega) ht
theorem fmtS8 (w : World) (n : Int) (h0 : 0 ≤ n) (h1 : n ≤ 100000) : Calls Tryd.prog 22 #[.int .i64 n] w fun e w' => e = .returned (.string (fmI n)) ∧ Below w.heap.size w w' := fmt_all w n (by omega) (by omega)
set_option maxRecDepth 100000 in
theorem kindW_any (w : World) (k : Int) (h0 : 1 ≤ k) (h1 : k ≤ 4) : Calls Tryd.prog 25 #[.int .i64 k] w fun e w' => e = .returned (.string (kindS k)) ∧ Below w.heap.size w w' := by
  have hc : k = 1 ∨ k = 2 ∨ k = 3 ∨ k = 4 := by omega
  rcases hc with rfl | rfl | rfl | rfl
  all_goals
    go_enter Tryd.func25, Tryd.ntmps25
    go_wp2
    go_ret
    exact ⟨rfl, Below.refl _ _⟩
end Go.Proofs.YtgmdplhaofhliaaDoor
