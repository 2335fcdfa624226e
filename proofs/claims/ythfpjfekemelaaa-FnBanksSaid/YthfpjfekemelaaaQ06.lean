/- Chapter 2: the program's gapsIn, GapsOf. -/
import Derived.Test.YthfpjfekemelaaaQ05
import Derived.Test.YthfpjfekemelaaaQ03
import Derived.Test.YthfpjfekemelaaaQ04
namespace Go.Proofs.Ythfpjfekemelaaa
open Go.RowKit
set_option linter.unusedVariables false

theorem TL.same {w : World} : ∀ {l l' : List Tr} {lo lo' : Nat} {p : Option Addr} {gs gs' : List Nat}, TL w lo p gs l → TL w lo' p gs' l' → l.length = l'.length
  | [], [], _, _, _, _, _, _, _ => rfl
  | [], t :: r, _, _, _, _, _, h, h' => by
    obtain ⟨rfl, rfl⟩ := h.nil_inv
    obtain ⟨g, g2, rfl, e, _⟩ := h'.cons_inv
    cases e
  | t :: r, [], _, _, _, _, _, h, h' => by
    obtain ⟨rfl, rfl⟩ := h'.nil_inv
    obtain ⟨g, g2, rfl, e, _⟩ := h.cons_inv
    cases e
  | t :: r, t' :: r', _, _, _, _, _, h, h' => by
    obtain ⟨g, g2, rfl, e, _, _, q, hH, hT⟩ := h.cons_inv
    obtain ⟨g', g2', rfl, e', _, _, q', hH', hT'⟩ := h'.cons_inv
    rw [e] at e'; injection e' with e'; injection e' with e'; subst e'
    have := hH.symm.trans hH'
    injection this with this; injection this with this
    have hq : q = q' := by
      have := congrArg (fun c : Array Value => c[5]?) this
      simpa [tierC] using this
    subst hq
    simp [hT.same hT']
/-- how many tiers hang on a pointer -/
noncomputable def tlLen (w : World) (v : Value) : Nat := by
  classical exact if h : ∃ n, ∃ lo q gs l, v = .pointer q ∧ TL w lo q gs l ∧ l.length = n then h.choose else 0
theorem tlLen_eq {w : World} {lo : Nat} {q : Option Addr} {gs : List Nat} {l : List Tr} (h : TL w lo q gs l) : tlLen w (.pointer q) = l.length := by
  have hx : ∃ n, ∃ lo q' gs l, Value.pointer q = .pointer q' ∧ TL w lo q' gs l ∧ l.length = n := ⟨_, lo, q, gs, l, rfl, h, rfl⟩
  unfold tlLen
  rw [dif_pos hx]
  obtain ⟨lo', q', gs', l', e, h', hl⟩ := hx.choose_spec
  injection e with e; subst e
  rw [← hl]; exact (h.same h').symm
/-- an append to a row of cells of another type leaves the tiers alone -/
theorem TL.app {w w' : World} {lo base : Nat} {e : TypeId} {gs : List Nat} {p : Option Addr} {l : List Tr} {row : Option Nat} (h : TL w lo p gs l) (hg : w.grownBy w' row) (hr : ∀ b, row = some b → base ≤ b ∧ ∃ cur, Has w b e cur) (hne : e ≠ 85) : TL w' lo p gs l :=
  h.kept fun g _ cs hh => has_grown hh hg (fun eq => by
    obtain ⟨_, cur, hc⟩ := hr g eq.symm
    have := hh.symm.trans hc
    injection this with this; injection this with _ this _
    exact hne this.symm)
theorem own_callG {w w' : World} {base : Nat} {e : TypeId} {size n : Nat} {v : Value} {xs : List Value} (h : w.ownsRow base e size v n xs) (hb : Below w.heap.size w w') : w'.ownsRow base e size v n xs :=
  h.kept (row := none) ⟨hb.os, hb.tape, hb.output, hb.size, fun k hk _ => hb.block k hk⟩ (by cases hv : v.ownBlock; exact .inl rfl; exact .inr (by simp))
theorem col_sum {z : Int} {F : List Int} {L : List Bx} (h : ColOk z F L) : (∀ y ∈ L, 1 ≤ y.size) ∧ sumZ L ≤ 24 ∧ L.length ≤ 24 := by
  have hs : ∀ y ∈ L, 1 ≤ y.size := fun y hy => by
    obtain ⟨k, hk⟩ := List.getElem?_of_mem hy
    exact (h.box k y (List.getElem?_eq_some_iff.1 hk).1 hk).2.1
  have h1 : sumZ L = z := by have := h.top; unfold lowAt at this; rwa [List.take_length] at this
  have h2 := h.fix.hi
  refine ⟨hs, by omega, ?_⟩
  have hl : ∀ l : List Bx, (∀ y ∈ l, 1 ≤ y.size) → (l.length : Int) ≤ sumZ l := by
    intro l
    induction l with
    | nil => simp [sumZ]
    | cons a r ih => intro hh; rw [sumZ_cons]; have := hh a List.mem_cons_self; have := ih fun y hy => hh y (List.mem_cons_of_mem _ hy); simp; omega
  have := hl L hs
  omega
theorem sumZ_drop {L : List Bx} (h : ∀ y ∈ L, 1 ≤ y.size) (n : Nat) : sumZ (L.drop n) ≤ sumZ L := by
  induction n generalizing L with
  | zero => simp
  | succ n ih =>
    cases L with
    | nil => simp
    | cons x r => rw [List.drop_succ_cons, sumZ_cons]; have := ih (L := r) fun y hy => h y (List.mem_cons_of_mem _ hy); have := h x List.mem_cons_self; omega
theorem gpV_snoc (L : List Gp) (x : Gp) : gpV (L ++ [x]) = gpV L ++ gpC x := by simp [gpV]
theorem src_gp {w : World} {g : Nat} {x : Gp} {t : TypeId} (h : Has w g t #[.int .i64 x.col, .int .i64 x.low, .int .i64 x.size]) : Src w (some ⟨g, 0, none⟩) 1 3 (gpC x) := by
  refine ⟨rfl, fun u hu => ?_, (fun e => by cases e), fun ad e j u hu => ?_⟩
  · simp [gpC] at hu
    rcases hu with rfl | rfl | rfl <;> rfl
  · injection e with e; subst e
    rw [addrK, Nat.zero_add, cell_of_row w g j _ t (0, 0) h]
    simpa [gpC] using hu

set_option maxRecDepth 100000 in
set_option maxHeartbeats 2000000 in
theorem gapsIn_any (w : World) (B : Nat) (x : Cl) (c : Int) (hB : B ≤ w.heap.size) (hV : CV w B x) (hok : ColOk x.z x.F x.L) :
    Calls Try.prog 42 #[.agg #[.int .i64 x.z, .slice x.AF x.F.length x.cF, .slice x.AB x.L.length x.cB], .int .i64 c] w fun e w' => ∃ A' c', e = .returned (.slice A' (gapsL x.F c x.L).length c') ∧ OR w' w.heap.size 28 A' (gpV (gapsL x.F c x.L)) ∧ Below w.heap.size w w' := by
  obtain ⟨j0, hj0, hy0, hy1, hy2⟩ := info_parts gpInfo
  obtain ⟨hcs, hc24, hcl⟩ := col_sum hok
  have hgl := gapsL_len x.F c x.L
  have HV := Lib.hid hV; have HCS := Lib.hid hcs; clear hV hcs hok
  go_enter Try.func42, Try.ntmps42
  go_wp2_with fail
  generalize hW1 : ((w.alloc (.cells #[.int .i64 x.z, .slice x.AF x.F.length x.cF, .slice x.AB x.L.length x.cB] 57)).alloc (.cells #[] 28)) = w1
  have b1 : Below w.heap.size w w1 := by rw [← hW1]; exact bthen (balloc _ _) (balloc _ _)
  have own1 : w1.ownsRow w.heap.size 28 3 (.slice (some ⟨w.heap.size + 1, 0, none⟩) 0 0) 0 [] := by rw [← hW1]; exact owns_at _ _ _ _ _ (by simp) (by omega)
  clear hW1
  have OW1 := Lib.hid own1; clear own1
  refine (stack_any w1 B x (by have := b1.size; omega) (HV.out.later hB b1)).mono ?_
  rintro e w2 ⟨p, gs, rfl, hT, hb2⟩
  have hz1 := b1.size
  have c2 := bthen b1 hb2
  have OW2 := Lib.hid (own_callG OW1.out hb2); have HT := Lib.hid hT; have C2 := Lib.hid c2; clear hT c2
  have hz2 := hb2.size
  clear hb2 OW1 hz1 b1
  go_wp2_with fail
  go_loopw [5, 6] (fun gv tv wr => ∃ (R : List Bx) (gs' : List Nat) (p : Option Addr) (A' : Option Addr) (c' : Nat) (D : List Gp), gv = .slice A' D.length c' ∧ tv = .pointer p ∧ TL wr w1.heap.size p gs' (R.map (trOf x.F)) ∧ wr.ownsRow w.heap.size 28 3 (.slice A' D.length c') D.length (gpV D) ∧ D ++ gapsL x.F c R = gapsL x.F c x.L ∧ (∀ y ∈ R, 1 ≤ y.size) ∧ sumZ R ≤ 24 ∧ Below w.heap.size w wr) (fun _ tv wr => tlLen wr tv)
  case atStart => exact ⟨x.L, gs, p, some ⟨w.heap.size + 1, 0, none⟩, 0, [], rfl, rfl, HT.out, OW2.out, rfl, HCS.out, hc24, C2.out⟩
  case round =>
    obtain ⟨R, gs', p, A', c', D, rfl, rfl, hT, how, hD, hs6, hs5, hb⟩ := hrel
    have hDl : D.length + (gapsL x.F c R).length ≤ 24 := by have := congrArg List.length hD; simp only [List.length_append] at this; omega
    have HDD := Lib.hid hD; have HOW := Lib.hid how; have HBB := Lib.hid hb; clear hD how
    have hsz := hb.size
    clear hb
    rcases R with _ | ⟨⟨y0, y1, y2, y3⟩, r⟩
    · obtain ⟨rfl, rfl⟩ := hT.nil_inv
      clear hT hs6
      go_wp2
      go_ret
      have hD := HDD.out
      have e : D = gapsL x.F c x.L := by rw [← hD]; simp [gapsL, gapsC]
      subst e
      exact ⟨A', c', rfl, or_of HOW.out, HBB.out⟩
    · obtain ⟨g2, gs2, rfl, rfl, hlo, hni, q2, hH2, hT2⟩ := hT.cons_inv
      have hln := tlLen_eq hT
      have hy := hs6 _ List.mem_cons_self
      have hs7 : ∀ y ∈ r, 1 ≤ y.size := fun y hy => hs6 y (List.mem_cons_of_mem _ hy)
      rw [sumZ_cons] at hs5
      have hsp := sumZ_pos hs7
      dsimp only at hy hs5
      have HS6 := Lib.hid hs7; have HT2 := Lib.hid hT2; have HH2 := Lib.hid hH2; have HLN := Lib.hid hln; clear hs6 hs7 hT hT2 hln
      have hl2 := has_lt hH2
      have d0 : wr.cell? ⟨g2, 0, none⟩ = some (.int .i64 y0) := has_cell hH2 0 rfl
      have d5 : wr.cell? ⟨g2, 5, none⟩ = some (.pointer q2) := has_cell hH2 5 rfl
      clear hH2
      obtain ⟨op, hop⟩ : ∃ op, op = opn ⟨y0, y1, y2, y3⟩ := ⟨_, rfl⟩
      have HOP := Lib.hid hop; clear hop
      cases op
      · go_wp2_with (go_at_call 66; refine (isFree_any wr g2 ⟨y0, y1, y2, y3⟩ _ q2 HH2.out).mono ?_; rintro e w' ⟨rfl, hw⟩; rw [hw, ← HOP.out]; clear hw)
        go_roundw
        case rel =>
          refine ⟨r, gs2, q2, A', c', D, rfl, rfl, HT2.out, HOW.out, ?_, HS6.out, by omega, HBB.out⟩
          rw [← gapsL_shut (F := x.F) (c := c) HOP.out.symm]; exact HDD.out
        case measure =>
          have h1 := tlLen_eq HT2.out
          have h2 := HLN.out
          simp [h1, h2]
      · go_wp2_with (go_at_call 66; refine (isFree_any wr g2 ⟨y0, y1, y2, y3⟩ _ q2 HH2.out).mono ?_; rintro e w' ⟨rfl, hw⟩; rw [hw, ← HOP.out]; clear hw)
        refine (tgap_any wr w1.heap.size g2 gs2 ⟨y0, y1, y2, y3⟩ _ q2 x.F r HH2.out HT2.out HS6.out hy (by dsimp only; omega)).mono ?_
        rintro e w' ⟨p3, rfl, hT3, n3, rfl⟩
        dsimp only
        have hz3 : wr.heap.size ≤ (wr.drewN n3).heap.size := Nat.le_refl _
        have e0 : (wr.drewN n3).cell? ⟨g2, 0, none⟩ = some (.int .i64 y0) := has_cell (has_drewN HH2.out n3) 0 rfl
        have OW3 := Lib.hid (show (wr.drewN n3).ownsRow w.heap.size 28 3 (.slice A' D.length c') D.length (gpV D) from HOW.out)
        have HT3 := Lib.hid (hT3.kept (w' := wr.drewN n3) fun g _ cs hh => has_drewN hh n3); have HB3 := Lib.hid (below_drewN HBB.out n3); have HH3 := Lib.hid (has_drewN HH2.out n3); clear hT3 d0 d5
        generalize wr.drewN n3 = w3 at *
        have hGL := gapsL_open (F := x.F) (c := c) (r := r) HOP.out.symm
        dsimp only at hGL
        have hDl2 : D.length + 1 ≤ 24 := by rw [hGL] at hDl; simp at hDl; omega
        have hsn : gpV (D ++ [⟨c, y0, y1 + runZ x.F r⟩]) = gpV D ++ gpC ⟨c, y0, y1 + runZ x.F r⟩ := gpV_snoc _ _
        have HGL := Lib.hid hGL; have HSN := Lib.hid hsn; clear hGL hsn
        go_wp2_with (at_builtin; go_must (refine list_app rfl _ _ 35 rfl w.heap.size 28 j0 (.agg #[.int .i64 0, .int .i64 0, .int .i64 0]) 3 24 Try.underlying35 hj0 hy0 hy1 hy2 rfl (by decide) _ D.length _ rfl (OW3.out.alloc _) (some ⟨w3.heap.size, 0, none⟩) 1 1 (gpC ⟨c, y0, y1 + runZ x.F r⟩) rfl (src_gp (has_new _ _ _)) (by unfold maxLen; omega) (by omega) (by simp; omega) ?_))
        intro A4 c4 w4 hown4 hgrow4 hrow4
        have hT4 := (HT3.out.call (balloc w3 (.cells #[.int .i64 c, .int .i64 y0, .int .i64 (y1 + runZ x.F r)] 28))).app hgrow4 hrow4 (by decide)
        have hb4 : Below w.heap.size w w4 := (HB3.out.alloc (by omega) _).grown hgrow4 (by simp; omega) (fun b hb => (hrow4 b hb).1)
        have HT4 := Lib.hid hT4; have HB4 := Lib.hid hb4; have OW4 := Lib.hid hown4; clear hT4 hb4 hown4 hgrow4 hrow4
        go_wp2
        go_roundw
        case rel =>
          refine ⟨r.drop (runN x.F r), gs2.drop (runN x.F r), p3, A4, c4, D ++ [⟨c, y0, y1 + runZ x.F r⟩], by rw [List.length_append]; rfl, rfl, HT4.out, ?_, ?_, fun y hy => HS6.out y (List.mem_of_mem_drop hy), ?_, HB4.out⟩
          · rw [HSN.out, List.length_append]; exact OW4.out
          · rw [List.append_assoc]
            have := HDD.out
            rw [HGL.out] at this
            exact this
          · have := sumZ_drop HS6.out (runN x.F r); omega
        case measure =>
          have h1 := tlLen_eq HT4.out
          have h2 := HLN.out
          simp [h1, h2]
          try omega
end Go.Proofs.Ythfpjfekemelaaa
namespace Go.Proofs.Ythfpjfekemelaaa
open Go.RowKit
set_option linter.unusedVariables false

/-- boxes that lie one above the other, from a unit on -/
def Con : Int → List Bx → Prop
  | _, [] => True
  | a, x :: r => x.low = a ∧ 1 ≤ x.size ∧ Con (a + x.size) r
theorem con_of {L : List Bx} {n : Nat} (h : BoxesTo L L.length) (hn : n ≤ L.length) : Con (lowAt L n) (L.drop n) := by
  obtain ⟨d, hd⟩ : ∃ d, d = L.length - n := ⟨_, rfl⟩
  induction d generalizing n with
  | zero => rw [List.drop_eq_nil_of_le (by omega)]; trivial
  | succ d ih =>
    have hlt : n < L.length := by omega
    have hx := List.getElem?_eq_getElem hlt
    obtain ⟨h1, h2, _⟩ := h n _ hlt hx
    rw [List.drop_eq_getElem_cons hlt]
    exact ⟨h1, h2, by rw [← lowAt_succ hx]; exact ih (by omega) (by omega)⟩
theorem con_all {L : List Bx} (h : BoxesTo L L.length) : Con 0 L := by have := con_of h (Nat.zero_le _); simpa [lowAt] using this
theorem con_low : ∀ {L : List Bx} {a : Int}, Con a L → ∀ x ∈ L, a ≤ x.low ∧ x.low < a + sumZ L
  | [], _, _, x, hx => by cases hx
  | y :: r, a, h, x, hx => by
    obtain ⟨h1, h2, h3⟩ := h
    rw [sumZ_cons]
    have h0 : ∀ {l : List Bx} {b : Int}, Con b l → 0 ≤ sumZ l := by
      intro l
      induction l with
      | nil => intro b _; simp [sumZ]
      | cons z s ih => intro b hb; rw [sumZ_cons]; have := ih hb.2.2; have := hb.2.1; omega
    have h4 := h0 h3
    rcases List.mem_cons.1 hx with rfl | hm
    · omega
    · have := con_low h3 x hm; omega
theorem con_app : ∀ {L R : List Bx} {a : Int}, Con a (L ++ R) ↔ Con a L ∧ Con (a + sumZ L) R
  | [], R, a => by simp [Con, sumZ]
  | x :: r, R, a => by
    simp only [List.cons_append, Con, sumZ_cons]
    rw [con_app (L := r), ← Int.add_assoc]
    constructor
    · rintro ⟨h1, h2, h3, h4⟩; exact ⟨⟨h1, h2, h3⟩, h4⟩
    · rintro ⟨⟨h1, h2, h3⟩, h4⟩; exact ⟨h1, h2, h3, h4⟩
theorem con_size {L : List Bx} {a : Int} (h : Con a L) : ∀ x ∈ L, 1 ≤ x.size := by
  induction L generalizing a with
  | nil => intro x hx; cases hx
  | cons y r ih =>
    intro x hx
    rcases List.mem_cons.1 hx with rfl | hm
    · exact h.2.1
    · exact ih h.2.2 x hm
/-- what becomes of a box when a gap is filled -/
def fillB (g : Gp) (p size : Int) (b : Bx) : List Bx :=
  (if b.low = g.low then ⟨g.low, size, p, false⟩ :: (if size < g.size then [⟨g.low + size, g.size - size, 0, false⟩] else []) else []) ++ (if b.low < g.low ∨ g.low + g.size ≤ b.low then [b] else [])
def fillL (g : Gp) (p size : Int) (L : List Bx) : List Bx := L.flatMap (fillB g p size)
def newB (g : Gp) (p size : Int) : List Bx := ⟨g.low, size, p, false⟩ :: (if size < g.size then [⟨g.low + size, g.size - size, 0, false⟩] else [])
theorem fillL_keep {g : Gp} {p size : Int} {L : List Bx} (hg : 1 ≤ g.size) (h : ∀ b ∈ L, b.low < g.low ∨ g.low + g.size ≤ b.low) : fillL g p size L = L := by
  induction L with
  | nil => rfl
  | cons x r ih =>
    have hx := h x List.mem_cons_self
    have : fillB g p size x = [x] := by
      unfold fillB
      rw [if_neg (by omega), if_pos hx]; rfl
    unfold fillL at ih ⊢
    rw [List.flatMap_cons, this, ih fun b hb => h b (List.mem_cons_of_mem _ hb)]; rfl
theorem fillL_in {g : Gp} {p size : Int} {L : List Bx} (h : ∀ b ∈ L, g.low < b.low ∧ b.low < g.low + g.size) : fillL g p size L = [] := by
  induction L with
  | nil => rfl
  | cons x r ih =>
    have hx := h x List.mem_cons_self
    have : fillB g p size x = [] := by
      unfold fillB
      rw [if_neg (by omega), if_neg (by omega)]; rfl
    unfold fillL at ih ⊢
    rw [List.flatMap_cons, this, ih fun b hb => h b (List.mem_cons_of_mem _ hb)]; rfl
theorem fillL_app (g : Gp) (p size : Int) (L R : List Bx) : fillL g p size (L ++ R) = fillL g p size L ++ fillL g p size R := by simp [fillL]
theorem fillL_len (g : Gp) (p size : Int) (L : List Bx) : (fillL g p size L).length ≤ 3 * L.length := by
  induction L with
  | nil => simp [fillL]
  | cons x r ih =>
    unfold fillL at ih ⊢
    rw [List.flatMap_cons, List.length_append]
    have : (fillB g p size x).length ≤ 3 := by unfold fillB; split <;> split <;> (try split) <;> simp
    rw [List.length_cons]; omega
theorem runZ_take (F : List Int) (L : List Bx) : runZ F L = sumZ (L.take (runN F L)) := by
  induction L with
  | nil => simp [runZ, sumZ, runN]
  | cons x r ih =>
    by_cases h : goOn F x = true
    · rw [(runZ_go h).1, (runZ_go h).2, List.take_succ_cons, sumZ_cons, ih]
    · rw [(runZ_no (by simpa using h)).1, (runZ_no (by simpa using h)).2]; simp [sumZ]
theorem app_if_nil {α : Type} {c : Prop} [Decidable c] (l r : List α) (h : ¬ c) : l ++ (if c then r else []) = l := by rw [if_neg h, List.append_nil]
/-- a gap of a column is filled: what lies below it and above it stays -/
theorem fill_gap {F : List Int} {P : List Bx} {x : Bx} {r : List Bx} {c p size a : Int} (hP : ∀ b ∈ P, b.low < x.low) (hc : Con a (x :: r)) :
    fillL ⟨c, x.low, x.size + runZ F r⟩ p size (P ++ x :: r) = P ++ newB ⟨c, x.low, x.size + runZ F r⟩ p size ++ r.drop (runN F r) := by
  obtain ⟨h1, h2, h3⟩ := hc
  have hr : r = r.take (runN F r) ++ r.drop (runN F r) := (List.take_append_drop _ _).symm
  have hz := runZ_take F r
  have hs : 0 ≤ sumZ (r.take (runN F r)) := sumZ_pos fun y hy => con_size h3 y (List.mem_of_mem_take hy)
  rw [hr] at h3
  obtain ⟨h4, h5⟩ := con_app.1 h3
  rw [fillL_app, show x :: r = [x] ++ (r.take (runN F r) ++ r.drop (runN F r)) by rw [← hr]; rfl, fillL_app, fillL_app]
  rw [fillL_keep (by dsimp only; omega) (fun b hb => .inl (hP b hb))]
  rw [fillL_in (L := r.take (runN F r)) (fun b hb => by have := con_low h4 b hb; dsimp only; omega)]
  rw [fillL_keep (L := r.drop (runN F r)) (by dsimp only; omega) (fun b hb => .inr (by have := con_low h5 b hb; dsimp only; omega))]
  have : fillL ⟨c, x.low, x.size + runZ F r⟩ p size [x] = newB ⟨c, x.low, x.size + runZ F r⟩ p size := by
    unfold fillL newB
    rw [List.flatMap_cons, List.flatMap_nil, List.append_nil]
    unfold fillB
    rw [if_pos rfl]
    exact app_if_nil _ _ (by dsimp only; omega)
  rw [this]; simp
/-- the boxes of each gap become one -/
def clrC (F : List Int) : Option Bx → List Bx → List Bx
  | cur, [] => cur.toList
  | cur, x :: r =>
    if opn x then
      match cur with
      | none => clrC F (some x) r
      | some b => if F.contains x.low then b :: clrC F (some x) r else clrC F (some ⟨b.low, b.size + x.size, b.par, b.jam⟩) r
    else cur.toList ++ x :: clrC F none r
def clrL (F : List Int) (L : List Bx) : List Bx := clrC F none L
theorem clrC_run (F : List Int) : ∀ (L : List Bx) (b : Bx), clrC F (some b) L = ⟨b.low, b.size + runZ F L, b.par, b.jam⟩ :: clrC F none (L.drop (runN F L))
  | [], b => by simp [clrC, runZ, runN]
  | x :: r, b => by
    by_cases h : opn x = true
    · by_cases hw : F.contains x.low = true
      · have hg : goOn F x = false := by simp only [goOn, h, hw, Bool.not_true, Bool.and_false]
        have e : clrC F (some b) (x :: r) = b :: clrC F (some x) r := by
          conv => lhs; unfold clrC
          simp only [h, hw, if_true]
        have e2 : clrC F none (x :: r) = clrC F (some x) r := by
          conv => lhs; unfold clrC
          simp only [h, if_true]
        rw [e, (runZ_no hg).1, (runZ_no hg).2, List.drop_zero, e2, Int.add_zero]
      · have hw' : F.contains x.low = false := by simpa using hw
        have hg : goOn F x = true := by simp only [goOn, h, hw', Bool.not_false, Bool.and_true]
        have e : clrC F (some b) (x :: r) = clrC F (some ⟨b.low, b.size + x.size, b.par, b.jam⟩) r := by
          conv => lhs; unfold clrC
          simp only [h, hw', if_true, Bool.false_eq_true, if_false]
        rw [e, clrC_run F r, (runZ_go hg).1, (runZ_go hg).2, List.drop_succ_cons]
        simp only [Int.add_assoc]
    · have h' : opn x = false := by simpa using h
      have hg : goOn F x = false := by simp [goOn, h']
      have e : clrC F (some b) (x :: r) = b :: x :: clrC F none r := by
        conv => lhs; unfold clrC
        simp [h']
      have e2 : clrC F none (x :: r) = x :: clrC F none r := by
        conv => lhs; unfold clrC
        simp [h']
      rw [e, (runZ_no hg).1, (runZ_no hg).2, List.drop_zero, e2, Int.add_zero]
theorem clrL_open {F : List Int} {x : Bx} {r : List Bx} (h : opn x = true) : clrL F (x :: r) = ⟨x.low, x.size + runZ F r, x.par, x.jam⟩ :: clrL F (r.drop (runN F r)) := by
  unfold clrL
  rw [← clrC_run]
  conv => lhs; unfold clrC
  simp only [h, if_true]
theorem clrL_shut {F : List Int} {x : Bx} {r : List Bx} (h : opn x = false) : clrL F (x :: r) = x :: clrL F r := by
  unfold clrL
  conv => lhs; unfold clrC
  simp [h]
theorem opn_zero {x : Bx} (h : opn x = true) : x.par = 0 ∧ x.jam = false := by simpa [opn] using h
/-- filling one gap after the other is clearing -/
theorem fill_all (F : List Int) (c : Int) : ∀ (n : Nat) (R P : List Bx) (a : Int), R.length ≤ n → Con a R → (∀ b ∈ P, b.low < a) → (gapsL F c R).foldl (fun out g => fillL g 0 g.size out) (P ++ R) = P ++ clrL F R
  | _, [], P, a, _, _, _ => by simp [gapsL, gapsC, clrL, clrC]
  | 0, x :: r, _, _, h, _, _ => by simp at h
  | n + 1, x :: r, P, a, hn, hc, hP => by
    have hx := hc
    obtain ⟨h1, h2, h3⟩ := hc
    by_cases h : opn x = true
    · rw [gapsL_open h, clrL_open h, List.foldl_cons]
      rw [fill_gap (fun b hb => by have := hP b hb; omega) hx]
      have hd : newB ⟨c, x.low, x.size + runZ F r⟩ 0 (x.size + runZ F r) = [⟨x.low, x.size + runZ F r, 0, false⟩] := by
        unfold newB; rw [if_neg (by dsimp only; omega)]
      dsimp only
      rw [hd]
      have hz := runZ_take F r
      have hr : r = r.take (runN F r) ++ r.drop (runN F r) := (List.take_append_drop _ _).symm
      have hs : 0 ≤ sumZ (r.take (runN F r)) := sumZ_pos fun y hy => con_size h3 y (List.mem_of_mem_take hy)
      have h3' := h3
      rw [hr] at h3'
      obtain ⟨h4, h5⟩ := con_app.1 h3'
      have ih := fill_all F c n (r.drop (runN F r)) (P ++ [⟨x.low, x.size + runZ F r, 0, false⟩]) _ (by simp at hn ⊢; omega) h5 (fun b hb => by
        rcases List.mem_append.1 hb with hb | hb
        · have := hP b hb; omega
        · simp at hb; subst hb; dsimp only; omega)
      rw [ih, (opn_zero h).1, (opn_zero h).2]; simp
    · have h' : opn x = false := by simpa using h
      rw [gapsL_shut h', clrL_shut h']
      have ih := fill_all F c n r (P ++ [x]) _ (by simp at hn; omega) h3 (fun b hb => by
        rcases List.mem_append.1 hb with hb | hb
        · have := hP b hb; omega
        · simp at hb; subst hb; omega)
      simpa using ih
/-- where a gap stands -/
theorem gap_at (F : List Int) (c : Int) : ∀ (n : Nat) (R P : List Bx) (a : Int), R.length ≤ n → Con a R → (∀ b ∈ P, b.low < a) → ∀ g ∈ gapsL F c R, ∃ (Q : List Bx) (x : Bx) (r : List Bx), P ++ R = Q ++ x :: r ∧ opn x = true ∧ g = ⟨c, x.low, x.size + runZ F r⟩ ∧ (∀ b ∈ Q, b.low < x.low) ∧ (∃ a', Con a' (x :: r))
  | _, [], P, a, _, _, _, g, hg => by simp [gapsL, gapsC] at hg
  | 0, x :: r, _, _, h, _, _, _, _ => by simp at h
  | n + 1, x :: r, P, a, hn, hc, hP, g, hg => by
    have hx := hc
    obtain ⟨h1, h2, h3⟩ := hc
    by_cases h : opn x = true
    · rw [gapsL_open h] at hg
      rcases List.mem_cons.1 hg with rfl | hg
      · exact ⟨P, x, r, rfl, h, rfl, fun b hb => by have := hP b hb; omega, a, hx⟩
      · have hr : r = r.take (runN F r) ++ r.drop (runN F r) := (List.take_append_drop _ _).symm
        have h3' := h3
        rw [hr] at h3'
        obtain ⟨h4, h5⟩ := con_app.1 h3'
        have hs : 0 ≤ sumZ (r.take (runN F r)) := sumZ_pos fun y hy => con_size h3 y (List.mem_of_mem_take hy)
        obtain ⟨Q, y, s, e1, e2, e3, e4, e5⟩ := gap_at F c n (r.drop (runN F r)) (P ++ x :: r.take (runN F r)) _ (by simp at hn ⊢; omega) h5 (fun b hb => by
          rcases List.mem_append.1 hb with hb | hb
          · have := hP b hb; omega
          · rcases List.mem_cons.1 hb with rfl | hb
            · omega
            · have := con_low h4 b hb; omega) g hg
        exact ⟨Q, y, s, by rw [← e1]; simp, e2, e3, e4, e5⟩
    · rw [gapsL_shut (by simpa using h)] at hg
      obtain ⟨Q, y, s, e1, e2, e3, e4, e5⟩ := gap_at F c n r (P ++ [x]) _ (by simp at hn; omega) h3 (fun b hb => by
        rcases List.mem_append.1 hb with hb | hb
        · have := hP b hb; omega
        · simp at hb; subst hb; omega) g hg
      exact ⟨Q, y, s, by rw [← e1]; simp, e2, e3, e4, e5⟩
end Go.Proofs.Ythfpjfekemelaaa
namespace Go.Proofs.Ythfpjfekemelaaa
open Go.RowKit
set_option linter.unusedVariables false

/-- the first index at which the test holds -/
def fIdx (p : Bx → Bool) : List Bx → Nat → Int
  | [], _ => -1
  | a :: r, k => if p a = true then k else fIdx p r (k + 1)
theorem fIdx_drop (p : Bx → Bool) (l : List Bx) (k : Nat) (a : Bx) (hk : l[k]? = some a) : fIdx p (l.drop k) k = if p a = true then (k : Int) else fIdx p (l.drop (k + 1)) (k + 1) := by
  have hlt : k < l.length := (List.getElem?_eq_some_iff.1 hk).1
  rw [List.drop_eq_getElem_cons hlt]
  have : l[k] = a := by rw [List.getElem?_eq_getElem hlt] at hk; injection hk
  rw [this]; rfl
theorem fIdx_cases (p : Bx → Bool) : ∀ (l : List Bx) (k : Nat), (fIdx p l k = -1 ∧ ∀ x ∈ l, p x = false) ∨ ∃ (j : Nat) (x : Bx), fIdx p l k = ((k + j : Nat) : Int) ∧ l[j]? = some x ∧ p x = true
  | [], k => .inl ⟨rfl, fun x hx => by cases hx⟩
  | a :: r, k => by
    unfold fIdx
    by_cases h : p a = true
    · rw [if_pos h]; exact .inr ⟨0, a, rfl, rfl, h⟩
    · rw [if_neg h]
      rcases fIdx_cases p r (k + 1) with ⟨h1, h2⟩ | ⟨j, x, h1, h2, h3⟩
      · refine .inl ⟨h1, fun x hx => ?_⟩
        rcases List.mem_cons.1 hx with e | e
        · rw [e]; simpa using h
        · exact h2 x e
      · exact .inr ⟨j + 1, x, by rw [h1]; push_cast; omega, by simpa using h2, h3⟩
theorem fIdx_congr {p q : Bx → Bool} : ∀ (l : List Bx) (k : Nat), (∀ x ∈ l, p x = q x) → fIdx p l k = fIdx q l k
  | [], _, _ => rfl
  | a :: r, k, h => by
    unfold fIdx
    rw [h a List.mem_cons_self, fIdx_congr r (k + 1) fun x hx => h x (List.mem_cons_of_mem _ hx)]
theorem fIdx_lt {p : Bx → Bool} {l : List Bx} (h : 0 ≤ fIdx p l 0) : ∃ (j : Nat) (x : Bx), fIdx p l 0 = (j : Int) ∧ l[j]? = some x ∧ p x = true := by
  rcases fIdx_cases p l 0 with ⟨h1, _⟩ | ⟨j, x, h1, h2, h3⟩
  · omega
  · exact ⟨j, x, by rw [h1]; simp, h2, h3⟩
def hasP (c : Int) (x : Bx) : Bool := x.par == c
def hasP0 (c : Int) (x : Bx) : Bool := x.par == c && decide (0 < c)

set_option maxRecDepth 100000 in
set_option maxHeartbeats 1000000 in
theorem boxS_any (w : World) (B : Nat) (A A' : Option Addr) (n n' : Nat) (z p : Int) (f : Nat) (L : List Bx) (lb : L.length ≤ maxLen) (hB : B ≤ w.heap.size) (hS : XL w B A' L) :
    Calls Try.prog 40 #[.agg #[.int .i64 z, .slice A f n, .slice A' L.length n'], .int .i64 p] w fun e w' => e = .returned (.int .i64 (fIdx (hasP0 p) L 0)) ∧ Below w.heap.size w w' := by
  unfold maxLen at lb
  have HS := Lib.hid hS; clear hS
  go_enter Try.func40, Try.ntmps40
  go_wp2
  generalize hW0 : (w.alloc (.cells #[.int .i64 z, .slice A f n, .slice A' L.length n'] 57)) = w0
  have b0 : Below w.heap.size w w0 := by rw [← hW0]; exact balloc _ _
  have K0 := Lib.hid (show Has w0 w.heap.size 57 #[.int .i64 z, .slice A f n, .slice A' L.length n'] by rw [← hW0]; exact has_new _ _ _)
  clear hW0
  go_loopw [5] (fun i wr => ∃ k : Nat, k ≤ L.length ∧ i = .int .i64 k ∧ fIdx (hasP0 p) L 0 = fIdx (hasP0 p) (L.drop k) k ∧ Below w0.heap.size w0 wr) (fun i _ => L.length - (intOf i).toNat)
  case atStart => exact ⟨0, Nat.zero_le _, rfl, by simp, Below.refl _ _⟩
  case round =>
    obtain ⟨k, hk, rfl, hno, hb⟩ := hrel
    have HN := Lib.hid hno; clear hno
    have ck := bthen b0 hb
    have kk := has_call K0.out hb
    have e2 := has_cell kk 2 rfl
    have hlw := has_lt kk
    clear kk
    by_cases hlt : k < L.length
    · obtain ⟨b, off, x, rfl, hbB, hx, hc0, hc1, hc2, hc3⟩ := (HS.out.later hB ck).at_ hlt
      have hst := fIdx_drop (hasP0 p) L k x hx
      obtain ⟨x0, x1, x2, x3⟩ := x
      dsimp only at hc0 hc1 hc2 hc3
      clear hx
      have hbw : b < wr.heap.size := by have := ck.size; omega
      by_cases e : x2 = p
      · have eb : (x2 == p) = true := by simpa using e
        by_cases hp : 0 < p
        · have hq : hasP0 p ⟨x0, x1, x2, x3⟩ = true := by simp [hasP0, e, hp]
          rw [if_pos hq] at hst
          have HST := Lib.hid hst; clear hst hq
          go_wp2
          go_ret
          exact ⟨ret_int (by rw [HN.out, HST.out]), ck⟩
        · have hq : ¬ hasP0 p ⟨x0, x1, x2, x3⟩ = true := by simp [hasP0, hp]
          rw [if_neg hq] at hst
          have HST := Lib.hid hst; clear hst hq
          go_wp2
          go_roundw
          case rel => exact ⟨k + 1, by omega, by go_num, by rw [HN.out, HST.out], hb⟩
          case measure => simp [intOf]; omega
      · have eb : (x2 == p) = false := by simpa using e
        have hq : ¬ hasP0 p ⟨x0, x1, x2, x3⟩ = true := by simp [hasP0, e]
        rw [if_neg hq] at hst
        have HST := Lib.hid hst; clear hst hq
        go_wp2
        go_roundw
        case rel => exact ⟨k + 1, by omega, by go_num, by rw [HN.out, HST.out], hb⟩
        case measure => simp [intOf]; omega
    · go_wp2
      go_ret
      have hkl : k = L.length := by omega
      subst hkl
      exact ⟨ret_int (by rw [HN.out, List.drop_length]; rfl), ck⟩

set_option maxRecDepth 100000 in
theorem boxT_any (w : World) (g : Nat) (x0 x1 x2 : Int) (x3 : Bool) (p : Int) (hg : g < w.heap.size) (hp : w.cell? ⟨g, 0, none⟩ = some (.int .i64 p)) :
    Calls Try.prog 69 #[.agg #[.int .i64 x0, .int .i64 x1, .int .i64 x2, .bool x3], .pointer (some ⟨g, 0, none⟩)] w fun e w' => e = .returned (.bool (hasP p ⟨x0, x1, x2, x3⟩)) ∧ Below w.heap.size w w' := by
  have hq : hasP p ⟨x0, x1, x2, x3⟩ = (x2 == p) := rfl
  rw [hq]
  clear hq
  go_enter Try.func69, Try.ntmps69
  go_wp2
  go_ret
  exact ⟨rfl, balloc _ _⟩

set_option maxRecDepth 100000 in
set_option maxHeartbeats 1000000 in
theorem boxJ_any (w : World) (B g : Nat) (A : Option Addr) (n : Nat) (p : Int) (L : List Bx) (lb : L.length ≤ maxLen) (hB : B ≤ w.heap.size) (hS : XL w B A L) (hg : g < w.heap.size) (hp : w.cell? ⟨g, 0, none⟩ = some (.int .i64 p)) :
    Calls Try.prog 68 #[.slice A L.length n, .func (.func 69) #[] #[.pointer (some ⟨g, 0, none⟩)]] w fun e w' => e = .returned (.int .i64 (fIdx (hasP p) L 0)) ∧ Below w.heap.size w w' := by
  unfold maxLen at lb
  have HS := Lib.hid hS; clear hS
  go_enter Try.func68, Try.ntmps68
  go_wp2
  go_loopw [8] (fun i wr => ∃ k : Nat, k ≤ L.length ∧ i = .int .i64 k ∧ fIdx (hasP p) L 0 = fIdx (hasP p) (L.drop k) k ∧ Below w.heap.size w wr) (fun i _ => L.length - (intOf i).toNat)
  case atStart => exact ⟨0, Nat.zero_le _, rfl, by simp, Below.refl _ _⟩
  case round =>
    obtain ⟨k, hk, rfl, hno, hb⟩ := hrel
    have HN := Lib.hid hno; clear hno
    have hpr := (bold hb g 0 hg).trans hp
    have HPR := Lib.hid hpr; clear hpr
    have hsz := hb.size
    by_cases hlt : k < L.length
    · obtain ⟨b, off, x, rfl, hbB, hx, hc0, hc1, hc2, hc3⟩ := (HS.out.later hB hb).at_ hlt
      have hst := fIdx_drop (hasP p) L k x hx
      obtain ⟨x0, x1, x2, x3⟩ := x
      dsimp only at hc0 hc1 hc2 hc3
      clear hx
      have HST := Lib.hid hst; clear hst
      go_wp2_with fail
      refine (boxT_any wr g x0 x1 x2 x3 p (by omega) HPR.out).mono ?_
      rintro e w2 ⟨rfl, hb2⟩
      have hst := HST.out
      generalize hasP p ⟨x0, x1, x2, x3⟩ = q at *
      cases q
      · rw [if_neg (by simp)] at hst
        have HST2 := Lib.hid hst; clear hst HST
        go_wp2
        go_roundw
        case rel => exact ⟨k + 1, by omega, by go_num, by rw [HN.out, HST2.out], bthen hb hb2⟩
        case measure => simp [intOf]; omega
      · rw [if_pos rfl] at hst
        have HST2 := Lib.hid hst; clear hst HST
        go_wp2
        go_ret
        exact ⟨ret_int (by rw [HN.out, HST2.out]), bthen hb hb2⟩
    · go_wp2
      go_ret
      have hkl : k = L.length := by omega
      subst hkl
      exact ⟨ret_int (by rw [HN.out, List.drop_length]; rfl), hb⟩

set_option maxRecDepth 100000 in
set_option maxHeartbeats 1000000 in
theorem boxI_any (w : World) (B : Nat) (A A' : Option Addr) (n n' : Nat) (z p : Int) (f : Nat) (L : List Bx) (lb : L.length ≤ maxLen) (hB : B ≤ w.heap.size) (hS : XL w B A' L) :
    Calls Try.prog 43 #[.agg #[.int .i64 z, .slice A f n, .slice A' L.length n'], .int .i64 p] w fun e w' => e = .returned (.int .i64 (fIdx (hasP p) L 0)) ∧ Below w.heap.size w w' := by
  have HS := Lib.hid hS; clear hS
  go_enter Try.func43, Try.ntmps43
  go_wp2_with fail
  generalize hW0 : (w.alloc (.cells #[.int .i64 z, .slice A f n, .slice A' L.length n'] 57)).alloc (.cells #[.int .i64 p] 3) = w0
  have b0 : Below w.heap.size w w0 := by rw [← hW0]; exact bthen (balloc _ _) (balloc _ _)
  have k1 : Has w0 (w.heap.size + 1) 3 #[.int .i64 p] := by rw [← hW0]; have := has_new (w.alloc (.cells #[.int .i64 z, .slice A f n, .slice A' L.length n'] 57)) 3 #[.int .i64 p]; simpa using this
  clear hW0
  refine (boxJ_any w0 B (w.heap.size + 1) A' n' p L lb (by have := b0.size; omega) (HS.out.later hB b0) (has_lt k1) (has_cell k1 0 rfl)).mono ?_
  rintro e w1 ⟨rfl, hb1⟩
  go_wp2_with fail
  go_ret
  exact ⟨rfl, bthen b0 hb1⟩
end Go.Proofs.Ythfpjfekemelaaa
