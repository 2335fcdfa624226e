/- Chapter 5: contracts of AddGrant, both sides (gen_grc.py). -/
import Derived.Test.YtphdmpjmhocfhaaGraB
import Derived.Test.YtphdmpjmhocfhaaGraK
import Derived.Test.YtphdmpjmhocfhaaOwn
import Derived.Deep.Onto
namespace Go.Proofs.Ytphdmpjmhocfhaa
open Go.RowKit
set_option linter.unusedVariables false
/-- the answer is a list of grants and a flag -/
def AnsG (R : List Gr × Bool) (w : World) (e : Ending) (w' : World) : Prop := ∃ A' c', e = .returned (.tuple #[.slice A' R.1.length c', .bool R.2]) ∧ OR w' w.heap.size 29 A' (grV R.1) ∧ Below w.heap.size w w'
def addG (l : List Gr) (g : Gr) : List Gr × Bool := if grantsB l && (l.length != 30) && grantB g && !g.off then (l ++ [g], true) else (l, false)
theorem own_or {w : World} {base size n c : Nat} {e : TypeId} {A : Option Addr} {xs : List Value} (h : w.ownsRow base e size (.slice A n c) n xs) : OR w base e A xs := by
  obtain ⟨A', c', e1, h1⟩ := or_own h
  injection e1 with e1 _ _; subst e1; exact h1
theorem src_gr {w : World} {B : Nat} {A : Option Addr} {l : List Gr} (h : grL w B A l) : Src w A l.length 7 (grV l) where
  len := by rw [grV_len]; omega
  one := gr_one
  nil := fun e => by subst e; rw [gr_none h]; rfl
  at_ := fun ad e j u hu => by subst e; exact gr_news h j u hu
theorem src_box (w : World) (e : TypeId) (cs : Array Value) (size : Nat) (hs : cs.size = size) (h1 : ∀ u ∈ cs.toList, u.oneCell' = true) : Src (w.alloc (.cells cs e)) (some ⟨w.heap.size, 0, none⟩) 1 size cs.toList where
  len := by simp [hs]
  one := h1
  nil := fun e => by cases e
  at_ := fun ad e j u hu => by
    injection e with e; subst e
    rw [addr_gr, Nat.zero_add]
    exact has_cell (has_new w _ _) j (by simpa using hu)
theorem own_kept {w w' : World} {base : Nat} {e : TypeId} {size n : Nat} {v : Value} {xs : List Value} (h : w.ownsRow base e size v n xs) (hb : Below w.heap.size w w') : w'.ownsRow base e size v n xs :=
  h.kept (row := none) ⟨hb.os, hb.tape, hb.output, hb.size, fun k hk _ => hb.block k hk⟩ (by cases v.ownBlock <;> simp)
theorem addG_no {l : List Gr} {g : Gr} (h : grantsB l = false ∨ l.length = 30 ∨ grantB g = false ∨ g.off = true) : addG l g = (l, false) := by
  unfold addG; rw [if_neg]; rcases h with h | h | h | h <;> simp [h]
theorem addG_yes {l : List Gr} {g : Gr} (h1 : grantsB l = true) (h2 : l.length ≠ 30) (h3 : grantB g = true) (h4 : g.off = false) : addG l g = (l ++ [g], true) := by
  unfold addG; rw [if_pos]; simp [h1, h2, h3, h4]

set_option maxRecDepth 100000 in
set_option maxHeartbeats 2000000 in
theorem addI_a (w : World) (B : Nat) (A : Option Addr) (c : Nat) (l : List Gr) (f t p d s u : Int) (o : Bool) (hl : l.length ≤ 1048576) (hB : B ≤ w.heap.size) (hS : grL w B A l) (hq : grantsB l = false) : Calls Try.prog 7 #[.slice A l.length c, .agg #[.int .i64 f, .int .i64 t, .int .i64 p, .int .i64 d, .int .i64 s, .int .i64 u, .bool o]] w (AnsG (addG l ⟨f, t, p, d, s, u, o⟩) w) := by
  have HS := Lib.hid hS; have HQ := Lib.hid hq; clear hS hq
  have hlm : l.length ≤ maxLen := by unfold maxLen; omega
  go_enter Try.func7, Try.ntmps7
  go_wp2_with fail
  generalize hW0 : (w.alloc (.cells #[.int .i64 f, .int .i64 t, .int .i64 p, .int .i64 d, .int .i64 s, .int .i64 u, .bool o] 29)) = w0
  have b0 : Below w.heap.size w w0 := by rw [← hW0]; exact balloc _ _
  have k0 : Has w0 w.heap.size 29 #[.int .i64 f, .int .i64 t, .int .i64 p, .int .i64 d, .int .i64 s, .int .i64 u, .bool o] := by rw [← hW0]; exact has_new _ _ _
  clear hW0
  refine (cloneGrant_any w0 B A c l hl (by have := b0.size; omega) (HS.out.later hB b0)).mono ?_
  rintro e w1 ⟨A1, c1, rfl, hown, hb⟩
  replace k0 := has_call k0 hb; have b1 := bthen b0 hb; have OW := Lib.hid (hown.mono (base' := w.heap.size) b0.size); clear hown hb b0
  have K0 := Lib.hid k0; have B1 := Lib.hid b1; have hs1 := b1.size; clear k0 b1
  go_wp2_with fail
  refine (grantsI_any w1 B A c l hlm (by omega) (HS.out.later hB B1.out)).mono ?_
  rintro e w2 ⟨rfl, hb⟩
  rw [HQ.out]
  have k0 := has_call K0.out hb; have b1 := bthen B1.out hb; have OW2 := Lib.hid (own_kept OW.out hb); clear OW K0 B1 hb
  have K0 := Lib.hid k0; have B1 := Lib.hid b1; have hs2 := b1.size; clear k0 b1
  go_wp2_with fail
  go_ret2
  rw [addG_no (.inl HQ.out)]
  exact ⟨A1, c1, rfl, own_or OW2.out, B1.out⟩
set_option maxRecDepth 100000 in
set_option maxHeartbeats 2000000 in
theorem addI_b (w : World) (B : Nat) (A : Option Addr) (c : Nat) (l : List Gr) (f t p d s u : Int) (o : Bool) (hl : l.length ≤ 1048576) (hB : B ≤ w.heap.size) (hS : grL w B A l) (hq : grantsB l = true) (h30 : l.length = 30) : Calls Try.prog 7 #[.slice A l.length c, .agg #[.int .i64 f, .int .i64 t, .int .i64 p, .int .i64 d, .int .i64 s, .int .i64 u, .bool o]] w (AnsG (addG l ⟨f, t, p, d, s, u, o⟩) w) := by
  have HS := Lib.hid hS; have HQ := Lib.hid hq; clear hS hq
  have e30 : ((l.length : Int) == 30) = true := by simp [h30]
  have H30 := Lib.hid h30; clear h30
  have E30 := Lib.hid e30; clear e30
  have hlm : l.length ≤ maxLen := by unfold maxLen; omega
  go_enter Try.func7, Try.ntmps7
  go_wp2_with fail
  generalize hW0 : (w.alloc (.cells #[.int .i64 f, .int .i64 t, .int .i64 p, .int .i64 d, .int .i64 s, .int .i64 u, .bool o] 29)) = w0
  have b0 : Below w.heap.size w w0 := by rw [← hW0]; exact balloc _ _
  have k0 : Has w0 w.heap.size 29 #[.int .i64 f, .int .i64 t, .int .i64 p, .int .i64 d, .int .i64 s, .int .i64 u, .bool o] := by rw [← hW0]; exact has_new _ _ _
  clear hW0
  refine (cloneGrant_any w0 B A c l hl (by have := b0.size; omega) (HS.out.later hB b0)).mono ?_
  rintro e w1 ⟨A1, c1, rfl, hown, hb⟩
  replace k0 := has_call k0 hb; have b1 := bthen b0 hb; have OW := Lib.hid (hown.mono (base' := w.heap.size) b0.size); clear hown hb b0
  have K0 := Lib.hid k0; have B1 := Lib.hid b1; have hs1 := b1.size; clear k0 b1
  go_wp2_with fail
  refine (grantsI_any w1 B A c l hlm (by omega) (HS.out.later hB B1.out)).mono ?_
  rintro e w2 ⟨rfl, hb⟩
  rw [HQ.out]
  have k0 := has_call K0.out hb; have b1 := bthen B1.out hb; have OW2 := Lib.hid (own_kept OW.out hb); clear OW K0 B1 hb
  have K0 := Lib.hid k0; have B1 := Lib.hid b1; have hs2 := b1.size; clear k0 b1
  have e30 := E30.out
  go_wp2_with fail
  go_ret2
  rw [addG_no (.inr (.inl H30.out))]
  exact ⟨A1, c1, rfl, own_or OW2.out, B1.out⟩
set_option maxRecDepth 100000 in
set_option maxHeartbeats 2000000 in
theorem addI_c (w : World) (B : Nat) (A : Option Addr) (c : Nat) (l : List Gr) (f t p d s u : Int) (o : Bool) (hl : l.length ≤ 1048576) (hB : B ≤ w.heap.size) (hS : grL w B A l) (hq : grantsB l = true) (h30 : ¬ l.length = 30) (hg : grantB ⟨f, t, p, d, s, u, o⟩ = false) : Calls Try.prog 7 #[.slice A l.length c, .agg #[.int .i64 f, .int .i64 t, .int .i64 p, .int .i64 d, .int .i64 s, .int .i64 u, .bool o]] w (AnsG (addG l ⟨f, t, p, d, s, u, o⟩) w) := by
  have HS := Lib.hid hS; have HQ := Lib.hid hq; clear hS hq
  have e30 : ((l.length : Int) == 30) = false := by simp; omega
  have H30 := Lib.hid h30; clear h30
  have HG := Lib.hid hg; clear hg
  have E30 := Lib.hid e30; clear e30
  have hlm : l.length ≤ maxLen := by unfold maxLen; omega
  go_enter Try.func7, Try.ntmps7
  go_wp2_with fail
  generalize hW0 : (w.alloc (.cells #[.int .i64 f, .int .i64 t, .int .i64 p, .int .i64 d, .int .i64 s, .int .i64 u, .bool o] 29)) = w0
  have b0 : Below w.heap.size w w0 := by rw [← hW0]; exact balloc _ _
  have k0 : Has w0 w.heap.size 29 #[.int .i64 f, .int .i64 t, .int .i64 p, .int .i64 d, .int .i64 s, .int .i64 u, .bool o] := by rw [← hW0]; exact has_new _ _ _
  clear hW0
  refine (cloneGrant_any w0 B A c l hl (by have := b0.size; omega) (HS.out.later hB b0)).mono ?_
  rintro e w1 ⟨A1, c1, rfl, hown, hb⟩
  replace k0 := has_call k0 hb; have b1 := bthen b0 hb; have OW := Lib.hid (hown.mono (base' := w.heap.size) b0.size); clear hown hb b0
  have K0 := Lib.hid k0; have B1 := Lib.hid b1; have hs1 := b1.size; clear k0 b1
  go_wp2_with fail
  refine (grantsI_any w1 B A c l hlm (by omega) (HS.out.later hB B1.out)).mono ?_
  rintro e w2 ⟨rfl, hb⟩
  rw [HQ.out]
  have k0 := has_call K0.out hb; have b1 := bthen B1.out hb; have OW2 := Lib.hid (own_kept OW.out hb); clear OW K0 B1 hb
  have K0 := Lib.hid k0; have B1 := Lib.hid b1; have hs2 := b1.size; clear k0 b1
  have e30 := E30.out
  have q0 := has_cell K0.out 0 rfl; have q1 := has_cell K0.out 1 rfl; have q2 := has_cell K0.out 2 rfl; have q3 := has_cell K0.out 3 rfl; have q4 := has_cell K0.out 4 rfl; have q5 := has_cell K0.out 5 rfl; have q6 := has_cell K0.out 6 rfl
  go_wp2_with fail
  refine (grantI_any w2 f t p d s u o).mono ?_
  rintro e w3 ⟨rfl, hb⟩
  rw [HG.out]
  clear q0 q1 q2 q3 q4 q5 q6 e30
  have k0 := has_call K0.out hb; have b1 := bthen B1.out hb; have OW3 := Lib.hid (own_kept OW2.out hb); clear OW2 K0 B1 hb
  have K0 := Lib.hid k0; have B1 := Lib.hid b1; have hs3 := b1.size; clear k0 b1
  go_wp2_with fail
  go_ret2
  rw [addG_no (.inr (.inr (.inl HG.out)))]
  exact ⟨A1, c1, rfl, own_or OW3.out, B1.out⟩
set_option maxRecDepth 100000 in
set_option maxHeartbeats 2000000 in
theorem addI_d (w : World) (B : Nat) (A : Option Addr) (c : Nat) (l : List Gr) (f t p d s u : Int) (hl : l.length ≤ 1048576) (hB : B ≤ w.heap.size) (hS : grL w B A l) (hq : grantsB l = true) (h30 : ¬ l.length = 30) (hg : grantB ⟨f, t, p, d, s, u, true⟩ = true) : Calls Try.prog 7 #[.slice A l.length c, .agg #[.int .i64 f, .int .i64 t, .int .i64 p, .int .i64 d, .int .i64 s, .int .i64 u, .bool true]] w (AnsG (addG l ⟨f, t, p, d, s, u, true⟩) w) := by
  have HS := Lib.hid hS; have HQ := Lib.hid hq; clear hS hq
  have e30 : ((l.length : Int) == 30) = false := by simp; omega
  have H30 := Lib.hid h30; clear h30
  have HG := Lib.hid hg; clear hg
  have E30 := Lib.hid e30; clear e30
  have hlm : l.length ≤ maxLen := by unfold maxLen; omega
  go_enter Try.func7, Try.ntmps7
  go_wp2_with fail
  generalize hW0 : (w.alloc (.cells #[.int .i64 f, .int .i64 t, .int .i64 p, .int .i64 d, .int .i64 s, .int .i64 u, .bool true] 29)) = w0
  have b0 : Below w.heap.size w w0 := by rw [← hW0]; exact balloc _ _
  have k0 : Has w0 w.heap.size 29 #[.int .i64 f, .int .i64 t, .int .i64 p, .int .i64 d, .int .i64 s, .int .i64 u, .bool true] := by rw [← hW0]; exact has_new _ _ _
  clear hW0
  refine (cloneGrant_any w0 B A c l hl (by have := b0.size; omega) (HS.out.later hB b0)).mono ?_
  rintro e w1 ⟨A1, c1, rfl, hown, hb⟩
  replace k0 := has_call k0 hb; have b1 := bthen b0 hb; have OW := Lib.hid (hown.mono (base' := w.heap.size) b0.size); clear hown hb b0
  have K0 := Lib.hid k0; have B1 := Lib.hid b1; have hs1 := b1.size; clear k0 b1
  go_wp2_with fail
  refine (grantsI_any w1 B A c l hlm (by omega) (HS.out.later hB B1.out)).mono ?_
  rintro e w2 ⟨rfl, hb⟩
  rw [HQ.out]
  have k0 := has_call K0.out hb; have b1 := bthen B1.out hb; have OW2 := Lib.hid (own_kept OW.out hb); clear OW K0 B1 hb
  have K0 := Lib.hid k0; have B1 := Lib.hid b1; have hs2 := b1.size; clear k0 b1
  have e30 := E30.out
  have q0 := has_cell K0.out 0 rfl; have q1 := has_cell K0.out 1 rfl; have q2 := has_cell K0.out 2 rfl; have q3 := has_cell K0.out 3 rfl; have q4 := has_cell K0.out 4 rfl; have q5 := has_cell K0.out 5 rfl; have q6 := has_cell K0.out 6 rfl
  go_wp2_with fail
  refine (grantI_any w2 f t p d s u true).mono ?_
  rintro e w3 ⟨rfl, hb⟩
  rw [HG.out]
  clear q0 q1 q2 q3 q4 q5 q6 e30
  have k0 := has_call K0.out hb; have b1 := bthen B1.out hb; have OW3 := Lib.hid (own_kept OW2.out hb); clear OW2 K0 B1 hb
  have K0 := Lib.hid k0; have B1 := Lib.hid b1; have hs3 := b1.size; clear k0 b1
  have q0 := has_cell K0.out 0 rfl; have q1 := has_cell K0.out 1 rfl; have q2 := has_cell K0.out 2 rfl; have q3 := has_cell K0.out 3 rfl; have q4 := has_cell K0.out 4 rfl; have q5 := has_cell K0.out 5 rfl; have q6 := has_cell K0.out 6 rfl
  go_wp2_with fail
  go_ret2
  rw [addG_no (.inr (.inr (.inr rfl)))]
  exact ⟨A1, c1, rfl, own_or OW3.out, B1.out⟩
set_option maxRecDepth 100000 in
set_option maxHeartbeats 2000000 in
theorem addI_e (w : World) (B : Nat) (A : Option Addr) (c : Nat) (l : List Gr) (f t p d s u : Int) (hl : l.length ≤ 1048576) (hB : B ≤ w.heap.size) (hS : grL w B A l) (hq : grantsB l = true) (h30 : ¬ l.length = 30) (hg : grantB ⟨f, t, p, d, s, u, false⟩ = true) : Calls Try.prog 7 #[.slice A l.length c, .agg #[.int .i64 f, .int .i64 t, .int .i64 p, .int .i64 d, .int .i64 s, .int .i64 u, .bool false]] w (AnsG (addG l ⟨f, t, p, d, s, u, false⟩) w) := by
  have HS := Lib.hid hS; have HQ := Lib.hid hq; clear hS hq
  have e30 : ((l.length : Int) == 30) = false := by simp; omega
  have H30 := Lib.hid h30; clear h30
  have HG := Lib.hid hg; clear hg
  have E30 := Lib.hid e30; clear e30
  have hlm : l.length ≤ maxLen := by unfold maxLen; omega
  go_enter Try.func7, Try.ntmps7
  go_wp2_with fail
  generalize hW0 : (w.alloc (.cells #[.int .i64 f, .int .i64 t, .int .i64 p, .int .i64 d, .int .i64 s, .int .i64 u, .bool false] 29)) = w0
  have b0 : Below w.heap.size w w0 := by rw [← hW0]; exact balloc _ _
  have k0 : Has w0 w.heap.size 29 #[.int .i64 f, .int .i64 t, .int .i64 p, .int .i64 d, .int .i64 s, .int .i64 u, .bool false] := by rw [← hW0]; exact has_new _ _ _
  clear hW0
  refine (cloneGrant_any w0 B A c l hl (by have := b0.size; omega) (HS.out.later hB b0)).mono ?_
  rintro e w1 ⟨A1, c1, rfl, hown, hb⟩
  replace k0 := has_call k0 hb; have b1 := bthen b0 hb; have OW := Lib.hid (hown.mono (base' := w.heap.size) b0.size); clear hown hb b0
  have K0 := Lib.hid k0; have B1 := Lib.hid b1; have hs1 := b1.size; clear k0 b1
  go_wp2_with fail
  refine (grantsI_any w1 B A c l hlm (by omega) (HS.out.later hB B1.out)).mono ?_
  rintro e w2 ⟨rfl, hb⟩
  rw [HQ.out]
  have k0 := has_call K0.out hb; have b1 := bthen B1.out hb; have OW2 := Lib.hid (own_kept OW.out hb); clear OW K0 B1 hb
  have K0 := Lib.hid k0; have B1 := Lib.hid b1; have hs2 := b1.size; clear k0 b1
  have e30 := E30.out
  have q0 := has_cell K0.out 0 rfl; have q1 := has_cell K0.out 1 rfl; have q2 := has_cell K0.out 2 rfl; have q3 := has_cell K0.out 3 rfl; have q4 := has_cell K0.out 4 rfl; have q5 := has_cell K0.out 5 rfl; have q6 := has_cell K0.out 6 rfl
  go_wp2_with fail
  refine (grantI_any w2 f t p d s u false).mono ?_
  rintro e w3 ⟨rfl, hb⟩
  rw [HG.out]
  clear q0 q1 q2 q3 q4 q5 q6 e30
  have k0 := has_call K0.out hb; have b1 := bthen B1.out hb; have OW3 := Lib.hid (own_kept OW2.out hb); clear OW2 K0 B1 hb
  have K0 := Lib.hid k0; have B1 := Lib.hid b1; have hs3 := b1.size; clear k0 b1
  have q0 := has_cell K0.out 0 rfl; have q1 := has_cell K0.out 1 rfl; have q2 := has_cell K0.out 2 rfl; have q3 := has_cell K0.out 3 rfl; have q4 := has_cell K0.out 4 rfl; have q5 := has_cell K0.out 5 rfl; have q6 := has_cell K0.out 6 rfl
  obtain ⟨i0, hi0, hz0, hz1, hz2⟩ := info_parts grInfo
  have I0 := Lib.hid hi0; have Z0 := Lib.hid hz0; have Z1 := Lib.hid hz1; have Z2 := Lib.hid hz2; clear hi0 hz0 hz1 hz2
  go_wp2_with (at_builtin; go_must (refine list_app rfl _ _ 24 rfl w.heap.size 29 i0 (.agg #[.int .i64 0, .int .i64 0, .int .i64 0, .int .i64 0, .int .i64 0, .int .i64 0, .bool false]) 7 56 Try.underlying24 I0.out Z0.out Z1.out Z2.out rfl (by decide) _ l.length (grV l) rfl (OW3.out.alloc _) _ 1 1 #[.int .i64 f, .int .i64 t, .int .i64 p, .int .i64 d, .int .i64 s, .int .i64 u, .bool false].toList rfl (src_box w3 _ #[.int .i64 f, .int .i64 t, .int .i64 p, .int .i64 d, .int .i64 s, .int .i64 u, .bool false] 7 rfl (by simp [Value.oneCell'])) (by unfold maxLen; omega) (by omega) (by simp; omega) ?_))
  intro A2 c2 w4 hown hgrow _
  have hb4 : Below w.heap.size w w4 := (B1.out.alloc hs3 _).grown hgrow (by simp; omega) (fun k hk => ((OW3.out.lt k hk).1))
  have OW4 := Lib.hid hown; have HB4 := Lib.hid hb4; clear hown hgrow hb4 q0 q1 q2 q3 q4 q5 q6
  go_wp2_with fail
  go_ret2
  rw [addG_yes HQ.out H30.out HG.out rfl]
  exact ⟨A2, c2, by simp, by rw [grV_app, grV_one]; exact own_or OW4.out, HB4.out⟩
theorem addI_any (w : World) (B : Nat) (A : Option Addr) (c : Nat) (l : List Gr) (f t p d s u : Int) (o : Bool) (hl : l.length ≤ 1048576) (hB : B ≤ w.heap.size) (hS : grL w B A l) : Calls Try.prog 7 #[.slice A l.length c, .agg #[.int .i64 f, .int .i64 t, .int .i64 p, .int .i64 d, .int .i64 s, .int .i64 u, .bool o]] w (AnsG (addG l ⟨f, t, p, d, s, u, o⟩) w) := by
  cases hq : grantsB l
  · exact addI_a w B A c l f t p d s u o hl hB hS hq
  by_cases h30 : l.length = 30
  · exact addI_b w B A c l f t p d s u o hl hB hS hq h30
  cases o
  · cases hg : grantB ⟨f, t, p, d, s, u, false⟩
    · exact addI_c w B A c l f t p d s u false hl hB hS hq h30 hg
    · exact addI_e w B A c l f t p d s u hl hB hS hq h30 hg
  · cases hg : grantB ⟨f, t, p, d, s, u, true⟩
    · exact addI_c w B A c l f t p d s u true hl hB hS hq h30 hg
    · exact addI_d w B A c l f t p d s u hl hB hS hq h30 hg
set_option maxRecDepth 100000 in
set_option maxHeartbeats 2000000 in
theorem addS_a (w : World) (B : Nat) (A : Option Addr) (c : Nat) (l : List Gr) (f t p d s u : Int) (o : Bool) (hl : l.length ≤ 1048576) (hB : B ≤ w.heap.size) (hS : grL w B A l) (hq : grantsB l = false) : Calls Try.prog 8 #[.slice A l.length c, .agg #[.int .i64 f, .int .i64 t, .int .i64 p, .int .i64 d, .int .i64 s, .int .i64 u, .bool o]] w (AnsG (addG l ⟨f, t, p, d, s, u, o⟩) w) := by
  have HS := Lib.hid hS; have HQ := Lib.hid hq; clear hS hq
  have hlm : l.length ≤ maxLen := by unfold maxLen; omega
  obtain ⟨i0, hi0, hz0, hz1, hz2⟩ := info_parts grInfo
  have I0 := Lib.hid hi0; have Z0 := Lib.hid hz0; have Z1 := Lib.hid hz1; have Z2 := Lib.hid hz2; clear hi0 hz0 hz1 hz2
  go_enter Try.func8, Try.ntmps8
  go_wp2_with (at_builtin; go_must (refine list_app rfl _ _ 24 rfl (w.heap.size + 1) 29 i0 (.agg #[.int .i64 0, .int .i64 0, .int .i64 0, .int .i64 0, .int .i64 0, .int .i64 0, .bool false]) 7 56 Try.underlying24 I0.out Z0.out Z1.out Z2.out rfl (by decide) _ 0 [] rfl (owns_at _ _ _ _ (w.heap.size + 1) (by simp) (Nat.le_refl _)) A l.length c (grV l) rfl (src_gr ((HS.out.below (bthen (balloc _ _) (balloc _ _) |>.mono hB)))) (by unfold maxLen; omega) (by omega) (by simp) ?_))
  intro A1 c1 w1 hown hgrow _
  have hbz : Below (w.heap.size + 1) (w.alloc (.cells #[.int .i64 f, .int .i64 t, .int .i64 p, .int .i64 d, .int .i64 s, .int .i64 u, .bool o] 29)) w1 := by
    have := (balloc (w.alloc (.cells #[.int .i64 f, .int .i64 t, .int .i64 p, .int .i64 d, .int .i64 s, .int .i64 u, .bool o] 29)) (.cells #[] 29)).grown hgrow (by simp) (fun k hk => by simp [Value.ownBlock] at hk ⊢; omega)
    simpa using this
  have k0 : Has w1 w.heap.size 29 #[.int .i64 f, .int .i64 t, .int .i64 p, .int .i64 d, .int .i64 s, .int .i64 u, .bool o] := has_below (has_new w _ _) hbz (by omega)
  have b1 : Below w.heap.size w w1 := (balloc w _).trans (hbz.mono (by omega))
  have OW := Lib.hid (hown.mono (base' := w.heap.size) (by omega)); clear hown hgrow hbz
  have K0 := Lib.hid k0; have B1 := Lib.hid b1; have hs1 := b1.size; clear k0 b1
  go_wp2_with fail
  refine (grantsS_any w1 B A c l hlm (by omega) (HS.out.later hB B1.out)).mono ?_
  rintro e w2 ⟨rfl, hb⟩
  rw [HQ.out]
  have k0 := has_call K0.out hb; have b1 := bthen B1.out hb; have OW2 := Lib.hid (own_kept OW.out hb); clear OW K0 B1 hb
  have K0 := Lib.hid k0; have B1 := Lib.hid b1; have hs2 := b1.size; clear k0 b1
  go_wp2_with fail
  go_ret2
  rw [addG_no (.inl HQ.out)]
  exact ⟨A1, c1, rfl, own_or OW2.out, B1.out⟩
set_option maxRecDepth 100000 in
set_option maxHeartbeats 2000000 in
theorem addS_b (w : World) (B : Nat) (A : Option Addr) (c : Nat) (l : List Gr) (f t p d s u : Int) (o : Bool) (hl : l.length ≤ 1048576) (hB : B ≤ w.heap.size) (hS : grL w B A l) (hq : grantsB l = true) (h30 : l.length = 30) : Calls Try.prog 8 #[.slice A l.length c, .agg #[.int .i64 f, .int .i64 t, .int .i64 p, .int .i64 d, .int .i64 s, .int .i64 u, .bool o]] w (AnsG (addG l ⟨f, t, p, d, s, u, o⟩) w) := by
  have HS := Lib.hid hS; have HQ := Lib.hid hq; clear hS hq
  have e30 : ((l.length : Int) == 30) = true := by simp [h30]
  have H30 := Lib.hid h30; clear h30
  have E30 := Lib.hid e30; clear e30
  have hlm : l.length ≤ maxLen := by unfold maxLen; omega
  obtain ⟨i0, hi0, hz0, hz1, hz2⟩ := info_parts grInfo
  have I0 := Lib.hid hi0; have Z0 := Lib.hid hz0; have Z1 := Lib.hid hz1; have Z2 := Lib.hid hz2; clear hi0 hz0 hz1 hz2
  go_enter Try.func8, Try.ntmps8
  go_wp2_with (at_builtin; go_must (refine list_app rfl _ _ 24 rfl (w.heap.size + 1) 29 i0 (.agg #[.int .i64 0, .int .i64 0, .int .i64 0, .int .i64 0, .int .i64 0, .int .i64 0, .bool false]) 7 56 Try.underlying24 I0.out Z0.out Z1.out Z2.out rfl (by decide) _ 0 [] rfl (owns_at _ _ _ _ (w.heap.size + 1) (by simp) (Nat.le_refl _)) A l.length c (grV l) rfl (src_gr ((HS.out.below (bthen (balloc _ _) (balloc _ _) |>.mono hB)))) (by unfold maxLen; omega) (by omega) (by simp) ?_))
  intro A1 c1 w1 hown hgrow _
  have hbz : Below (w.heap.size + 1) (w.alloc (.cells #[.int .i64 f, .int .i64 t, .int .i64 p, .int .i64 d, .int .i64 s, .int .i64 u, .bool o] 29)) w1 := by
    have := (balloc (w.alloc (.cells #[.int .i64 f, .int .i64 t, .int .i64 p, .int .i64 d, .int .i64 s, .int .i64 u, .bool o] 29)) (.cells #[] 29)).grown hgrow (by simp) (fun k hk => by simp [Value.ownBlock] at hk ⊢; omega)
    simpa using this
  have k0 : Has w1 w.heap.size 29 #[.int .i64 f, .int .i64 t, .int .i64 p, .int .i64 d, .int .i64 s, .int .i64 u, .bool o] := has_below (has_new w _ _) hbz (by omega)
  have b1 : Below w.heap.size w w1 := (balloc w _).trans (hbz.mono (by omega))
  have OW := Lib.hid (hown.mono (base' := w.heap.size) (by omega)); clear hown hgrow hbz
  have K0 := Lib.hid k0; have B1 := Lib.hid b1; have hs1 := b1.size; clear k0 b1
  go_wp2_with fail
  refine (grantsS_any w1 B A c l hlm (by omega) (HS.out.later hB B1.out)).mono ?_
  rintro e w2 ⟨rfl, hb⟩
  rw [HQ.out]
  have k0 := has_call K0.out hb; have b1 := bthen B1.out hb; have OW2 := Lib.hid (own_kept OW.out hb); clear OW K0 B1 hb
  have K0 := Lib.hid k0; have B1 := Lib.hid b1; have hs2 := b1.size; clear k0 b1
  have e30 := E30.out
  go_wp2_with fail
  go_ret2
  rw [addG_no (.inr (.inl H30.out))]
  exact ⟨A1, c1, rfl, own_or OW2.out, B1.out⟩
set_option maxRecDepth 100000 in
set_option maxHeartbeats 2000000 in
theorem addS_c (w : World) (B : Nat) (A : Option Addr) (c : Nat) (l : List Gr) (f t p d s u : Int) (o : Bool) (hl : l.length ≤ 1048576) (hB : B ≤ w.heap.size) (hS : grL w B A l) (hq : grantsB l = true) (h30 : ¬ l.length = 30) (hg : grantB ⟨f, t, p, d, s, u, o⟩ = false) : Calls Try.prog 8 #[.slice A l.length c, .agg #[.int .i64 f, .int .i64 t, .int .i64 p, .int .i64 d, .int .i64 s, .int .i64 u, .bool o]] w (AnsG (addG l ⟨f, t, p, d, s, u, o⟩) w) := by
  have HS := Lib.hid hS; have HQ := Lib.hid hq; clear hS hq
  have e30 : ((l.length : Int) == 30) = false := by simp; omega
  have H30 := Lib.hid h30; clear h30
  have HG := Lib.hid hg; clear hg
  have E30 := Lib.hid e30; clear e30
  have hlm : l.length ≤ maxLen := by unfold maxLen; omega
  obtain ⟨i0, hi0, hz0, hz1, hz2⟩ := info_parts grInfo
  have I0 := Lib.hid hi0; have Z0 := Lib.hid hz0; have Z1 := Lib.hid hz1; have Z2 := Lib.hid hz2; clear hi0 hz0 hz1 hz2
  go_enter Try.func8, Try.ntmps8
  go_wp2_with (at_builtin; go_must (refine list_app rfl _ _ 24 rfl (w.heap.size + 1) 29 i0 (.agg #[.int .i64 0, .int .i64 0, .int .i64 0, .int .i64 0, .int .i64 0, .int .i64 0, .bool false]) 7 56 Try.underlying24 I0.out Z0.out Z1.out Z2.out rfl (by decide) _ 0 [] rfl (owns_at _ _ _ _ (w.heap.size + 1) (by simp) (Nat.le_refl _)) A l.length c (grV l) rfl (src_gr ((HS.out.below (bthen (balloc _ _) (balloc _ _) |>.mono hB)))) (by unfold maxLen; omega) (by omega) (by simp) ?_))
  intro A1 c1 w1 hown hgrow _
  have hbz : Below (w.heap.size + 1) (w.alloc (.cells #[.int .i64 f, .int .i64 t, .int .i64 p, .int .i64 d, .int .i64 s, .int .i64 u, .bool o] 29)) w1 := by
    have := (balloc (w.alloc (.cells #[.int .i64 f, .int .i64 t, .int .i64 p, .int .i64 d, .int .i64 s, .int .i64 u, .bool o] 29)) (.cells #[] 29)).grown hgrow (by simp) (fun k hk => by simp [Value.ownBlock] at hk ⊢; omega)
    simpa using this
  have k0 : Has w1 w.heap.size 29 #[.int .i64 f, .int .i64 t, .int .i64 p, .int .i64 d, .int .i64 s, .int .i64 u, .bool o] := has_below (has_new w _ _) hbz (by omega)
  have b1 : Below w.heap.size w w1 := (balloc w _).trans (hbz.mono (by omega))
  have OW := Lib.hid (hown.mono (base' := w.heap.size) (by omega)); clear hown hgrow hbz
  have K0 := Lib.hid k0; have B1 := Lib.hid b1; have hs1 := b1.size; clear k0 b1
  go_wp2_with fail
  refine (grantsS_any w1 B A c l hlm (by omega) (HS.out.later hB B1.out)).mono ?_
  rintro e w2 ⟨rfl, hb⟩
  rw [HQ.out]
  have k0 := has_call K0.out hb; have b1 := bthen B1.out hb; have OW2 := Lib.hid (own_kept OW.out hb); clear OW K0 B1 hb
  have K0 := Lib.hid k0; have B1 := Lib.hid b1; have hs2 := b1.size; clear k0 b1
  have e30 := E30.out
  have q0 := has_cell K0.out 0 rfl; have q1 := has_cell K0.out 1 rfl; have q2 := has_cell K0.out 2 rfl; have q3 := has_cell K0.out 3 rfl; have q4 := has_cell K0.out 4 rfl; have q5 := has_cell K0.out 5 rfl; have q6 := has_cell K0.out 6 rfl
  go_wp2_with fail
  refine (grantS_any w2 f t p d s u o).mono ?_
  rintro e w3 ⟨rfl, hb⟩
  rw [HG.out]
  clear q0 q1 q2 q3 q4 q5 q6 e30
  have k0 := has_call K0.out hb; have b1 := bthen B1.out hb; have OW3 := Lib.hid (own_kept OW2.out hb); clear OW2 K0 B1 hb
  have K0 := Lib.hid k0; have B1 := Lib.hid b1; have hs3 := b1.size; clear k0 b1
  go_wp2_with fail
  go_ret2
  rw [addG_no (.inr (.inr (.inl HG.out)))]
  exact ⟨A1, c1, rfl, own_or OW3.out, B1.out⟩
set_option maxRecDepth 100000 in
set_option maxHeartbeats 2000000 in
theorem addS_d (w : World) (B : Nat) (A : Option Addr) (c : Nat) (l : List Gr) (f t p d s u : Int) (hl : l.length ≤ 1048576) (hB : B ≤ w.heap.size) (hS : grL w B A l) (hq : grantsB l = true) (h30 : ¬ l.length = 30) (hg : grantB ⟨f, t, p, d, s, u, true⟩ = true) : Calls Try.prog 8 #[.slice A l.length c, .agg #[.int .i64 f, .int .i64 t, .int .i64 p, .int .i64 d, .int .i64 s, .int .i64 u, .bool true]] w (AnsG (addG l ⟨f, t, p, d, s, u, true⟩) w) := by
  have HS := Lib.hid hS; have HQ := Lib.hid hq; clear hS hq
  have e30 : ((l.length : Int) == 30) = false := by simp; omega
  have H30 := Lib.hid h30; clear h30
  have HG := Lib.hid hg; clear hg
  have E30 := Lib.hid e30; clear e30
  have hlm : l.length ≤ maxLen := by unfold maxLen; omega
  obtain ⟨i0, hi0, hz0, hz1, hz2⟩ := info_parts grInfo
  have I0 := Lib.hid hi0; have Z0 := Lib.hid hz0; have Z1 := Lib.hid hz1; have Z2 := Lib.hid hz2; clear hi0 hz0 hz1 hz2
  go_enter Try.func8, Try.ntmps8
  go_wp2_with (at_builtin; go_must (refine list_app rfl _ _ 24 rfl (w.heap.size + 1) 29 i0 (.agg #[.int .i64 0, .int .i64 0, .int .i64 0, .int .i64 0, .int .i64 0, .int .i64 0, .bool false]) 7 56 Try.underlying24 I0.out Z0.out Z1.out Z2.out rfl (by decide) _ 0 [] rfl (owns_at _ _ _ _ (w.heap.size + 1) (by simp) (Nat.le_refl _)) A l.length c (grV l) rfl (src_gr ((HS.out.below (bthen (balloc _ _) (balloc _ _) |>.mono hB)))) (by unfold maxLen; omega) (by omega) (by simp) ?_))
  intro A1 c1 w1 hown hgrow _
  have hbz : Below (w.heap.size + 1) (w.alloc (.cells #[.int .i64 f, .int .i64 t, .int .i64 p, .int .i64 d, .int .i64 s, .int .i64 u, .bool true] 29)) w1 := by
    have := (balloc (w.alloc (.cells #[.int .i64 f, .int .i64 t, .int .i64 p, .int .i64 d, .int .i64 s, .int .i64 u, .bool true] 29)) (.cells #[] 29)).grown hgrow (by simp) (fun k hk => by simp [Value.ownBlock] at hk ⊢; omega)
    simpa using this
  have k0 : Has w1 w.heap.size 29 #[.int .i64 f, .int .i64 t, .int .i64 p, .int .i64 d, .int .i64 s, .int .i64 u, .bool true] := has_below (has_new w _ _) hbz (by omega)
  have b1 : Below w.heap.size w w1 := (balloc w _).trans (hbz.mono (by omega))
  have OW := Lib.hid (hown.mono (base' := w.heap.size) (by omega)); clear hown hgrow hbz
  have K0 := Lib.hid k0; have B1 := Lib.hid b1; have hs1 := b1.size; clear k0 b1
  go_wp2_with fail
  refine (grantsS_any w1 B A c l hlm (by omega) (HS.out.later hB B1.out)).mono ?_
  rintro e w2 ⟨rfl, hb⟩
  rw [HQ.out]
  have k0 := has_call K0.out hb; have b1 := bthen B1.out hb; have OW2 := Lib.hid (own_kept OW.out hb); clear OW K0 B1 hb
  have K0 := Lib.hid k0; have B1 := Lib.hid b1; have hs2 := b1.size; clear k0 b1
  have e30 := E30.out
  have q0 := has_cell K0.out 0 rfl; have q1 := has_cell K0.out 1 rfl; have q2 := has_cell K0.out 2 rfl; have q3 := has_cell K0.out 3 rfl; have q4 := has_cell K0.out 4 rfl; have q5 := has_cell K0.out 5 rfl; have q6 := has_cell K0.out 6 rfl
  go_wp2_with fail
  refine (grantS_any w2 f t p d s u true).mono ?_
  rintro e w3 ⟨rfl, hb⟩
  rw [HG.out]
  clear q0 q1 q2 q3 q4 q5 q6 e30
  have k0 := has_call K0.out hb; have b1 := bthen B1.out hb; have OW3 := Lib.hid (own_kept OW2.out hb); clear OW2 K0 B1 hb
  have K0 := Lib.hid k0; have B1 := Lib.hid b1; have hs3 := b1.size; clear k0 b1
  have q0 := has_cell K0.out 0 rfl; have q1 := has_cell K0.out 1 rfl; have q2 := has_cell K0.out 2 rfl; have q3 := has_cell K0.out 3 rfl; have q4 := has_cell K0.out 4 rfl; have q5 := has_cell K0.out 5 rfl; have q6 := has_cell K0.out 6 rfl
  go_wp2_with fail
  go_ret2
  rw [addG_no (.inr (.inr (.inr rfl)))]
  exact ⟨A1, c1, rfl, own_or OW3.out, B1.out⟩
set_option maxRecDepth 100000 in
set_option maxHeartbeats 2000000 in
theorem addS_e (w : World) (B : Nat) (A : Option Addr) (c : Nat) (l : List Gr) (f t p d s u : Int) (hl : l.length ≤ 1048576) (hB : B ≤ w.heap.size) (hS : grL w B A l) (hq : grantsB l = true) (h30 : ¬ l.length = 30) (hg : grantB ⟨f, t, p, d, s, u, false⟩ = true) : Calls Try.prog 8 #[.slice A l.length c, .agg #[.int .i64 f, .int .i64 t, .int .i64 p, .int .i64 d, .int .i64 s, .int .i64 u, .bool false]] w (AnsG (addG l ⟨f, t, p, d, s, u, false⟩) w) := by
  have HS := Lib.hid hS; have HQ := Lib.hid hq; clear hS hq
  have e30 : ((l.length : Int) == 30) = false := by simp; omega
  have H30 := Lib.hid h30; clear h30
  have HG := Lib.hid hg; clear hg
  have E30 := Lib.hid e30; clear e30
  have hlm : l.length ≤ maxLen := by unfold maxLen; omega
  obtain ⟨i0, hi0, hz0, hz1, hz2⟩ := info_parts grInfo
  have I0 := Lib.hid hi0; have Z0 := Lib.hid hz0; have Z1 := Lib.hid hz1; have Z2 := Lib.hid hz2; clear hi0 hz0 hz1 hz2
  go_enter Try.func8, Try.ntmps8
  go_wp2_with (at_builtin; go_must (refine list_app rfl _ _ 24 rfl (w.heap.size + 1) 29 i0 (.agg #[.int .i64 0, .int .i64 0, .int .i64 0, .int .i64 0, .int .i64 0, .int .i64 0, .bool false]) 7 56 Try.underlying24 I0.out Z0.out Z1.out Z2.out rfl (by decide) _ 0 [] rfl (owns_at _ _ _ _ (w.heap.size + 1) (by simp) (Nat.le_refl _)) A l.length c (grV l) rfl (src_gr ((HS.out.below (bthen (balloc _ _) (balloc _ _) |>.mono hB)))) (by unfold maxLen; omega) (by omega) (by simp) ?_))
  intro A1 c1 w1 hown hgrow _
  have hbz : Below (w.heap.size + 1) (w.alloc (.cells #[.int .i64 f, .int .i64 t, .int .i64 p, .int .i64 d, .int .i64 s, .int .i64 u, .bool false] 29)) w1 := by
    have := (balloc (w.alloc (.cells #[.int .i64 f, .int .i64 t, .int .i64 p, .int .i64 d, .int .i64 s, .int .i64 u, .bool false] 29)) (.cells #[] 29)).grown hgrow (by simp) (fun k hk => by simp [Value.ownBlock] at hk ⊢; omega)
    simpa using this
  have k0 : Has w1 w.heap.size 29 #[.int .i64 f, .int .i64 t, .int .i64 p, .int .i64 d, .int .i64 s, .int .i64 u, .bool false] := has_below (has_new w _ _) hbz (by omega)
  have b1 : Below w.heap.size w w1 := (balloc w _).trans (hbz.mono (by omega))
  have OW := Lib.hid (hown.mono (base' := w.heap.size) (by omega)); clear hown hgrow hbz
  have K0 := Lib.hid k0; have B1 := Lib.hid b1; have hs1 := b1.size; clear k0 b1
  go_wp2_with fail
  refine (grantsS_any w1 B A c l hlm (by omega) (HS.out.later hB B1.out)).mono ?_
  rintro e w2 ⟨rfl, hb⟩
  rw [HQ.out]
  have k0 := has_call K0.out hb; have b1 := bthen B1.out hb; have OW2 := Lib.hid (own_kept OW.out hb); clear OW K0 B1 hb
  have K0 := Lib.hid k0; have B1 := Lib.hid b1; have hs2 := b1.size; clear k0 b1
  have e30 := E30.out
  have q0 := has_cell K0.out 0 rfl; have q1 := has_cell K0.out 1 rfl; have q2 := has_cell K0.out 2 rfl; have q3 := has_cell K0.out 3 rfl; have q4 := has_cell K0.out 4 rfl; have q5 := has_cell K0.out 5 rfl; have q6 := has_cell K0.out 6 rfl
  go_wp2_with fail
  refine (grantS_any w2 f t p d s u false).mono ?_
  rintro e w3 ⟨rfl, hb⟩
  rw [HG.out]
  clear q0 q1 q2 q3 q4 q5 q6 e30
  have k0 := has_call K0.out hb; have b1 := bthen B1.out hb; have OW3 := Lib.hid (own_kept OW2.out hb); clear OW2 K0 B1 hb
  have K0 := Lib.hid k0; have B1 := Lib.hid b1; have hs3 := b1.size; clear k0 b1
  have q0 := has_cell K0.out 0 rfl; have q1 := has_cell K0.out 1 rfl; have q2 := has_cell K0.out 2 rfl; have q3 := has_cell K0.out 3 rfl; have q4 := has_cell K0.out 4 rfl; have q5 := has_cell K0.out 5 rfl; have q6 := has_cell K0.out 6 rfl
  go_wp2_with (at_builtin; go_must (refine list_app rfl _ _ 24 rfl w.heap.size 29 i0 (.agg #[.int .i64 0, .int .i64 0, .int .i64 0, .int .i64 0, .int .i64 0, .int .i64 0, .bool false]) 7 56 Try.underlying24 I0.out Z0.out Z1.out Z2.out rfl (by decide) _ l.length (grV l) rfl (OW3.out.alloc _) _ 1 1 #[.int .i64 f, .int .i64 t, .int .i64 p, .int .i64 d, .int .i64 s, .int .i64 u, .bool false].toList rfl (src_box w3 _ #[.int .i64 f, .int .i64 t, .int .i64 p, .int .i64 d, .int .i64 s, .int .i64 u, .bool false] 7 rfl (by simp [Value.oneCell'])) (by unfold maxLen; omega) (by omega) (by simp; omega) ?_))
  intro A2 c2 w4 hown hgrow _
  have hb4 : Below w.heap.size w w4 := (B1.out.alloc hs3 _).grown hgrow (by simp; omega) (fun k hk => ((OW3.out.lt k hk).1))
  have OW4 := Lib.hid hown; have HB4 := Lib.hid hb4; clear hown hgrow hb4 q0 q1 q2 q3 q4 q5 q6
  go_wp2_with fail
  go_ret2
  rw [addG_yes HQ.out H30.out HG.out rfl]
  exact ⟨A2, c2, by simp, by rw [grV_app, grV_one]; exact own_or OW4.out, HB4.out⟩
theorem addS_any (w : World) (B : Nat) (A : Option Addr) (c : Nat) (l : List Gr) (f t p d s u : Int) (o : Bool) (hl : l.length ≤ 1048576) (hB : B ≤ w.heap.size) (hS : grL w B A l) : Calls Try.prog 8 #[.slice A l.length c, .agg #[.int .i64 f, .int .i64 t, .int .i64 p, .int .i64 d, .int .i64 s, .int .i64 u, .bool o]] w (AnsG (addG l ⟨f, t, p, d, s, u, o⟩) w) := by
  cases hq : grantsB l
  · exact addS_a w B A c l f t p d s u o hl hB hS hq
  by_cases h30 : l.length = 30
  · exact addS_b w B A c l f t p d s u o hl hB hS hq h30
  cases o
  · cases hg : grantB ⟨f, t, p, d, s, u, false⟩
    · exact addS_c w B A c l f t p d s u false hl hB hS hq h30 hg
    · exact addS_e w B A c l f t p d s u hl hB hS hq h30 hg
  · cases hg : grantB ⟨f, t, p, d, s, u, true⟩
    · exact addS_c w B A c l f t p d s u true hl hB hS hq h30 hg
    · exact addS_d w B A c l f t p d s u hl hB hS hq h30 hg
end Go.Proofs.Ytphdmpjmhocfhaa
