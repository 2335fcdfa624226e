/- Chapter 2: the program's gapsIn, GapsOf. -/
import Derived.Test.YthmoonjceokijaaGapA
import Derived.Test.YthmoonjceokijaaOwn
import Derived.Test.YthmoonjceokijaaColK
namespace Go.Proofs.Ythmoonjceokijaa
open Go.RowKit
set_option linter.unusedVariables false

theorem TL.same {w : World} : ∀ {l l' : List Tr} {lo lo' : Nat} {p : Option Addr} {gs gs' : List Nat}, TL w lo p gs l → TL w lo' p gs' l' → l.length = l'.length
  | [], [], _, _, _, _, _, _, _ => rfl
  | [], t :: r, _, _, _, _, _, h, h' => by
    obtain ⟨rfl, rfl⟩ := h.nil_inv
    obtain ⟨g, g2, rfl, e, _⟩ := h'.cons_inv
    cases e
  | t :: r, [], _, _, _, _, _, h, h' => by
    obtain ⟨rfl, rfl⟩ := h'.nil_inv
    obtain ⟨g, g2, rfl, e, _⟩ := h.cons_inv
    cases e
  | t :: r, t' :: r', _, _, _, _, _, h, h' => by
    obtain ⟨g, g2, rfl, e, _, _, q, hH, hT⟩ := h.cons_inv
    obtain ⟨g', g2', rfl, e', _, _, q', hH', hT'⟩ := h'.cons_inv
    rw [e] at e'; injection e' with e'; injection e' with e'; subst e'
    have := hH.symm.trans hH'
    injection this with this; injection this with this
    have hq : q = q' := by
      have := congrArg (fun c : Array Value => c[5]?) this
      simpa [tierC] using this
    subst hq
    simp [hT.same hT']
/-- how many tiers hang on a pointer -/
noncomputable def tlLen (w : World) (v : Value) : Nat := by
  classical exact if h : ∃ n, ∃ lo q gs l, v = .pointer q ∧ TL w lo q gs l ∧ l.length = n then h.choose else 0
theorem tlLen_eq {w : World} {lo : Nat} {q : Option Addr} {gs : List Nat} {l : List Tr} (h : TL w lo q gs l) : tlLen w (.pointer q) = l.length := by
  have hx : ∃ n, ∃ lo q' gs l, Value.pointer q = .pointer q' ∧ TL w lo q' gs l ∧ l.length = n := ⟨_, lo, q, gs, l, rfl, h, rfl⟩
  unfold tlLen
  rw [dif_pos hx]
  obtain ⟨lo', q', gs', l', e, h', hl⟩ := hx.choose_spec
  injection e with e; subst e
  rw [← hl]; exact (h.same h').symm
/-- an append to a row of cells of another type leaves the tiers alone -/
theorem TL.app {w w' : World} {lo base : Nat} {e : TypeId} {gs : List Nat} {p : Option Addr} {l : List Tr} {row : Option Nat} (h : TL w lo p gs l) (hg : w.grownBy w' row) (hr : ∀ b, row = some b → base ≤ b ∧ ∃ cur, Has w b e cur) (hne : e ≠ 68) : TL w' lo p gs l :=
  h.kept fun g _ cs hh => has_grown hh hg (fun eq => by
    obtain ⟨_, cur, hc⟩ := hr g eq.symm
    have := hh.symm.trans hc
    injection this with this; injection this with _ this _
    exact hne this.symm)
theorem own_callG {w w' : World} {base : Nat} {e : TypeId} {size n : Nat} {v : Value} {xs : List Value} (h : w.ownsRow base e size v n xs) (hb : Below w.heap.size w w') : w'.ownsRow base e size v n xs :=
  h.kept (row := none) ⟨hb.os, hb.tape, hb.output, hb.size, fun k hk _ => hb.block k hk⟩ (by cases hv : v.ownBlock; exact .inl rfl; exact .inr (by simp))
theorem col_sum {z : Int} {F : List Int} {L : List Bx} (h : ColOk z F L) : (∀ y ∈ L, 1 ≤ y.size) ∧ sumZ L ≤ 24 ∧ L.length ≤ 24 := by
  have hs : ∀ y ∈ L, 1 ≤ y.size := fun y hy => by
    obtain ⟨k, hk⟩ := List.getElem?_of_mem hy
    exact (h.box k y (List.getElem?_eq_some_iff.1 hk).1 hk).2.1
  have h1 : sumZ L = z := by have := h.top; unfold lowAt at this; rwa [List.take_length] at this
  have h2 := h.fix.hi
  refine ⟨hs, by omega, ?_⟩
  have hl : ∀ l : List Bx, (∀ y ∈ l, 1 ≤ y.size) → (l.length : Int) ≤ sumZ l := by
    intro l
    induction l with
    | nil => simp [sumZ]
    | cons a r ih => intro hh; rw [sumZ_cons]; have := hh a List.mem_cons_self; have := ih fun y hy => hh y (List.mem_cons_of_mem _ hy); simp; omega
  have := hl L hs
  omega
theorem sumZ_drop {L : List Bx} (h : ∀ y ∈ L, 1 ≤ y.size) (n : Nat) : sumZ (L.drop n) ≤ sumZ L := by
  induction n generalizing L with
  | zero => simp
  | succ n ih =>
    cases L with
    | nil => simp
    | cons x r => rw [List.drop_succ_cons, sumZ_cons]; have := ih (L := r) fun y hy => h y (List.mem_cons_of_mem _ hy); have := h x List.mem_cons_self; omega
theorem gpV_snoc (L : List Gp) (x : Gp) : gpV (L ++ [x]) = gpV L ++ gpC x := by simp [gpV]
theorem src_gp {w : World} {g : Nat} {x : Gp} {t : TypeId} (h : Has w g t #[.int .i64 x.col, .int .i64 x.low, .int .i64 x.size]) : Src w (some ⟨g, 0, none⟩) 1 3 (gpC x) := by
  refine ⟨rfl, fun u hu => ?_, (fun e => by cases e), fun ad e j u hu => ?_⟩
  · simp [gpC] at hu
    rcases hu with rfl | rfl | rfl <;> rfl
  · injection e with e; subst e
    rw [addrK, Nat.zero_add, cell_of_row w g j _ t (0, 0) h]
    simpa [gpC] using hu

set_option maxRecDepth 100000 in
set_option maxHeartbeats 2000000 in
theorem gapsIn_any (w : World) (B : Nat) (x : Cl) (c : Int) (hB : B ≤ w.heap.size) (hV : CV w B x) (hok : ColOk x.z x.F x.L) :
    Calls Try.prog 42 #[.agg #[.int .i64 x.z, .slice x.AF x.F.length x.cF, .slice x.AB x.L.length x.cB], .int .i64 c] w fun e w' => ∃ A' c', e = .returned (.slice A' (gapsL x.F c x.L).length c') ∧ OR w' w.heap.size 36 A' (gpV (gapsL x.F c x.L)) ∧ Below w.heap.size w w' := by
  obtain ⟨j0, hj0, hy0, hy1, hy2⟩ := info_parts gpInfo
  obtain ⟨hcs, hc24, hcl⟩ := col_sum hok
  have hgl := gapsL_len x.F c x.L
  have HV := Lib.hid hV; have HCS := Lib.hid hcs; clear hV hcs hok
  go_enter Try.func42, Try.ntmps42
  go_wp2_with fail
  generalize hW1 : ((w.alloc (.cells #[.int .i64 x.z, .slice x.AF x.F.length x.cF, .slice x.AB x.L.length x.cB] 27)).alloc (.cells #[] 36)) = w1
  have b1 : Below w.heap.size w w1 := by rw [← hW1]; exact bthen (balloc _ _) (balloc _ _)
  have own1 : w1.ownsRow w.heap.size 36 3 (.slice (some ⟨w.heap.size + 1, 0, none⟩) 0 0) 0 [] := by rw [← hW1]; exact owns_at _ _ _ _ _ (by simp) (by omega)
  clear hW1
  have OW1 := Lib.hid own1; clear own1
  refine (stack_any w1 B x (by have := b1.size; omega) (HV.out.later hB b1)).mono ?_
  rintro e w2 ⟨p, gs, rfl, hT, hb2⟩
  have hz1 := b1.size
  have c2 := bthen b1 hb2
  have OW2 := Lib.hid (own_callG OW1.out hb2); have HT := Lib.hid hT; have C2 := Lib.hid c2; clear hT c2
  have hz2 := hb2.size
  clear hb2 OW1 hz1 b1
  go_wp2_with fail
  go_loopw [5, 6] (fun gv tv wr => ∃ (R : List Bx) (gs' : List Nat) (p : Option Addr) (A' : Option Addr) (c' : Nat) (D : List Gp), gv = .slice A' D.length c' ∧ tv = .pointer p ∧ TL wr w1.heap.size p gs' (R.map (trOf x.F)) ∧ wr.ownsRow w.heap.size 36 3 (.slice A' D.length c') D.length (gpV D) ∧ D ++ gapsL x.F c R = gapsL x.F c x.L ∧ (∀ y ∈ R, 1 ≤ y.size) ∧ sumZ R ≤ 24 ∧ Below w.heap.size w wr) (fun _ tv wr => tlLen wr tv)
  case atStart => exact ⟨x.L, gs, p, some ⟨w.heap.size + 1, 0, none⟩, 0, [], rfl, rfl, HT.out, OW2.out, rfl, HCS.out, hc24, C2.out⟩
  case round =>
    obtain ⟨R, gs', p, A', c', D, rfl, rfl, hT, how, hD, hs6, hs5, hb⟩ := hrel
    have hDl : D.length + (gapsL x.F c R).length ≤ 24 := by have := congrArg List.length hD; simp only [List.length_append] at this; omega
    have HDD := Lib.hid hD; have HOW := Lib.hid how; have HBB := Lib.hid hb; clear hD how
    have hsz := hb.size
    clear hb
    rcases R with _ | ⟨⟨y0, y1, y2, y3⟩, r⟩
    · obtain ⟨rfl, rfl⟩ := hT.nil_inv
      clear hT hs6
      go_wp2
      go_ret
      have hD := HDD.out
      have e : D = gapsL x.F c x.L := by rw [← hD]; simp [gapsL, gapsC]
      subst e
      exact ⟨A', c', rfl, or_of HOW.out, HBB.out⟩
    · obtain ⟨g2, gs2, rfl, rfl, hlo, hni, q2, hH2, hT2⟩ := hT.cons_inv
      have hln := tlLen_eq hT
      have hy := hs6 _ List.mem_cons_self
      have hs7 : ∀ y ∈ r, 1 ≤ y.size := fun y hy => hs6 y (List.mem_cons_of_mem _ hy)
      rw [sumZ_cons] at hs5
      have hsp := sumZ_pos hs7
      dsimp only at hy hs5
      have HS6 := Lib.hid hs7; have HT2 := Lib.hid hT2; have HH2 := Lib.hid hH2; have HLN := Lib.hid hln; clear hs6 hs7 hT hT2 hln
      have hl2 := has_lt hH2
      have d0 : wr.cell? ⟨g2, 0, none⟩ = some (.int .i64 y0) := has_cell hH2 0 rfl
      have d5 : wr.cell? ⟨g2, 5, none⟩ = some (.pointer q2) := has_cell hH2 5 rfl
      clear hH2
      obtain ⟨op, hop⟩ : ∃ op, op = opn ⟨y0, y1, y2, y3⟩ := ⟨_, rfl⟩
      have HOP := Lib.hid hop; clear hop
      cases op
      · go_wp2_with (go_at_call 44; refine (isFree_any wr g2 ⟨y0, y1, y2, y3⟩ _ q2 HH2.out).mono ?_; rintro e w' ⟨rfl, hw⟩; rw [hw, ← HOP.out]; clear hw)
        go_roundw
        case rel =>
          refine ⟨r, gs2, q2, A', c', D, rfl, rfl, HT2.out, HOW.out, ?_, HS6.out, by omega, HBB.out⟩
          rw [← gapsL_shut (F := x.F) (c := c) HOP.out.symm]; exact HDD.out
        case measure =>
          have h1 := tlLen_eq HT2.out
          have h2 := HLN.out
          simp [h1, h2]
      · go_wp2_with (go_at_call 44; refine (isFree_any wr g2 ⟨y0, y1, y2, y3⟩ _ q2 HH2.out).mono ?_; rintro e w' ⟨rfl, hw⟩; rw [hw, ← HOP.out]; clear hw)
        refine (tgap_any wr w1.heap.size g2 gs2 ⟨y0, y1, y2, y3⟩ _ q2 x.F r HH2.out HT2.out HS6.out hy (by dsimp only; omega)).mono ?_
        rintro e w' ⟨p3, rfl, hT3, n3, rfl⟩
        dsimp only
        have hz3 : wr.heap.size ≤ (wr.drewN n3).heap.size := Nat.le_refl _
        have e0 : (wr.drewN n3).cell? ⟨g2, 0, none⟩ = some (.int .i64 y0) := has_cell (has_drewN HH2.out n3) 0 rfl
        have OW3 := Lib.hid (show (wr.drewN n3).ownsRow w.heap.size 36 3 (.slice A' D.length c') D.length (gpV D) from HOW.out)
        have HT3 := Lib.hid (hT3.kept (w' := wr.drewN n3) fun g _ cs hh => has_drewN hh n3); have HB3 := Lib.hid (below_drewN HBB.out n3); have HH3 := Lib.hid (has_drewN HH2.out n3); clear hT3 d0 d5
        generalize wr.drewN n3 = w3 at *
        have hGL := gapsL_open (F := x.F) (c := c) (r := r) HOP.out.symm
        dsimp only at hGL
        have hDl2 : D.length + 1 ≤ 24 := by rw [hGL] at hDl; simp at hDl; omega
        have hsn : gpV (D ++ [⟨c, y0, y1 + runZ x.F r⟩]) = gpV D ++ gpC ⟨c, y0, y1 + runZ x.F r⟩ := gpV_snoc _ _
        have HGL := Lib.hid hGL; have HSN := Lib.hid hsn; clear hGL hsn
        go_wp2_with (at_builtin; go_must (refine list_app rfl _ _ 41 rfl w.heap.size 36 j0 (.agg #[.int .i64 0, .int .i64 0, .int .i64 0]) 3 24 Try.underlying41 hj0 hy0 hy1 hy2 rfl (by decide) _ D.length _ rfl (OW3.out.alloc _) (some ⟨w3.heap.size, 0, none⟩) 1 1 (gpC ⟨c, y0, y1 + runZ x.F r⟩) rfl (src_gp (has_new _ _ _)) (by unfold maxLen; omega) (by omega) (by simp; omega) ?_))
        intro A4 c4 w4 hown4 hgrow4 hrow4
        have hT4 := (HT3.out.call (balloc w3 (.cells #[.int .i64 c, .int .i64 y0, .int .i64 (y1 + runZ x.F r)] 36))).app hgrow4 hrow4 (by decide)
        have hb4 : Below w.heap.size w w4 := (HB3.out.alloc (by omega) _).grown hgrow4 (by simp; omega) (fun b hb => (hrow4 b hb).1)
        have HT4 := Lib.hid hT4; have HB4 := Lib.hid hb4; have OW4 := Lib.hid hown4; clear hT4 hb4 hown4 hgrow4 hrow4
        go_wp2
        go_roundw
        case rel =>
          refine ⟨r.drop (runN x.F r), gs2.drop (runN x.F r), p3, A4, c4, D ++ [⟨c, y0, y1 + runZ x.F r⟩], by rw [List.length_append]; rfl, rfl, HT4.out, ?_, ?_, fun y hy => HS6.out y (List.mem_of_mem_drop hy), ?_, HB4.out⟩
          · rw [HSN.out, List.length_append]; exact OW4.out
          · rw [List.append_assoc]
            have := HDD.out
            rw [HGL.out] at this
            exact this
          · have := sumZ_drop HS6.out (runN x.F r); omega
        case measure =>
          have h1 := tlLen_eq HT4.out
          have h2 := HLN.out
          simp [h1, h2]
          try omega
end Go.Proofs.Ythmoonjceokijaa
