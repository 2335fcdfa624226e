/- The drawing of numbers, as a function of the bytes: two draws from one list of bytes give the same numbers. -/
import Derived.Test.YtjpafmkmpnibgaaDoorDraw
import Derived.Test.YtjpafmkmpnibgaaDoorPla
namespace Go.Proofs.YtjpafmkmpnibgaaDoor
open Go.RowKit
set_option linter.unusedVariables false

/-- bytes that can be read, below block B, each known -/
def BL (w : World) (B : Nat) (A : Option Addr) (bs : List Int) : Prop :=
  bs = [] ∨ ∃ b off, A = some ⟨b, off, none⟩ ∧ b < B ∧ ∀ k x, bs[k]? = some x → 0 ≤ x ∧ x ≤ 255 ∧ w.cell? ⟨b, off + k, none⟩ = some (.int .u8 x)
theorem list_ofE {α : Type} (p : Nat → α → Prop) : ∀ n, (∀ i, i < n → ∃ x, p i x) → ∃ l : List α, l.length = n ∧ ∀ i x, l[i]? = some x → p i x
  | 0, _ => ⟨[], rfl, fun i x h => by simp at h⟩
  | n + 1, h => by
    obtain ⟨l, hl, hp⟩ := list_ofE p n (fun i hi => h i (by omega))
    obtain ⟨x, hx⟩ := h n (by omega)
    refine ⟨l ++ [x], by simp [hl], fun i y hy => ?_⟩
    rcases Nat.lt_or_ge i l.length with hi | hi
    · rw [List.getElem?_append_left hi] at hy; exact hp i y hy
    · rw [List.getElem?_append_right hi] at hy
      have h0 : i - l.length = 0 := by
        rcases Nat.eq_zero_or_pos (i - l.length) with h | h
        · exact h
        · rw [List.getElem?_eq_none (by simp; omega)] at hy; cases hy
      rw [h0] at hy
      have : i = n := by omega
      subst this
      have : x = y := by simpa using hy
      exact this ▸ hx
theorem bl_of {w : World} {B : Nat} {A : Option Addr} {n : Nat} (h : BS w B A n) : ∃ bs : List Int, bs.length = n ∧ BL w B A bs := by
  rcases h with h | ⟨b, off, rfl, hlt, hc⟩
  · exact ⟨[], by simp [h], .inl rfl⟩
  · obtain ⟨l, hl, hp⟩ := list_ofE _ n hc
    exact ⟨l, hl, .inr ⟨b, off, rfl, hlt, hp⟩⟩
theorem BL.bs {w : World} {B : Nat} {A : Option Addr} {bs : List Int} (h : BL w B A bs) : BS w B A bs.length := by
  rcases h with h | ⟨b, off, rfl, hlt, hc⟩
  · exact .inl (by simp [h])
  · exact .inr ⟨b, off, rfl, hlt, fun k hk => ⟨bs[k], hc k _ (List.getElem?_eq_getElem hk)⟩⟩
theorem BL.kept {w w' : World} {B : Nat} {A : Option Addr} {bs : List Int} (h : BL w B A bs) (hk : ∀ p : Addr, p.block < B → w'.cell? p = w.cell? p) : BL w' B A bs := by
  rcases h with h | ⟨b, off, rfl, hlt, hc⟩
  · exact .inl h
  · exact .inr ⟨b, off, rfl, hlt, fun k x hx => ⟨(hc k x hx).1, (hc k x hx).2.1, (hk _ hlt).trans (hc k x hx).2.2⟩⟩
theorem BL.below {w w' : World} {B : Nat} {A : Option Addr} {bs : List Int} (h : BL w B A bs) (hb : Below B w w') : BL w' B A bs := h.kept fun p hp => hb.cell hp
theorem BL.more {w : World} {B B' : Nat} {A : Option Addr} {bs : List Int} (h : BL w B A bs) (hB : B ≤ B') : BL w B' A bs := by
  rcases h with h | ⟨b, off, rfl, hlt, hc⟩
  · exact .inl h
  · exact .inr ⟨b, off, rfl, by omega, hc⟩

abbrev DS := Int × Int
def stepH (h : Int) : Int := wrap64 (wrap64 (h * 6364136223846793005) + 1442695040888963407)
def mixB (h : Int) : Int := bits .and .i64 (bits .xor .i64 (h / 8589934592) (h / 35184372088832)) 255
def byteF (bs : List Int) (st : DS) : Int × DS :=
  if st.1 < bs.length then (bits .and .i64 (wrap64 (mixB (stepH st.2) + bs.getD st.1.toNat 0)) 255, (st.1 + 1, stepH st.2)) else (mixB (stepH st.2), (st.1, stepH st.2))
theorem byteF_in {bs : List Int} {k : Nat} {h u : Int} (hu : bs[k]? = some u) : byteF bs ((k : Int), h) = (bits .and .i64 (wrap64 (mixB (stepH h) + u)) 255, ((k : Int) + 1, stepH h)) := by
  have hk := (List.getElem?_eq_some_iff.1 hu).1
  unfold byteF
  rw [if_pos (by show (k : Int) < _; omega)]
  simp [List.getD_eq_getElem?_getD, hu]
theorem byteF_out {bs : List Int} {i h : Int} (hi : ¬ i < bs.length) : byteF bs (i, h) = (mixB (stepH h), (i, stepH h)) := by
  unfold byteF; rw [if_neg hi]
theorem byteF_bd (bs : List Int) (st : DS) : 0 ≤ (byteF bs st).1 ∧ (byteF bs st).1 ≤ 255 := by
  unfold byteF
  split
  · exact mask255 _
  · exact mask255 _
/-- the cursor, with all that it holds -/
def CurE (w : World) (B g : Nat) (bs : List Int) (st : DS) : Prop :=
  ∃ (A : Option Addr) (c : Nat), Has w g 72 #[.slice A bs.length c, .int .i64 st.1, .int .i64 st.2] ∧ BL w B A bs ∧ bs.length ≤ maxLen ∧ 0 ≤ st.1 ∧ st.1 ≤ bs.length ∧ B ≤ g
theorem CurE.cur {w : World} {B g : Nat} {bs : List Int} {st : DS} (h : CurE w B g bs st) : Cur w B g := by
  obtain ⟨A, c, hH, hS, hn, h0, h1, hg⟩ := h
  exact ⟨A, _, c, _, _, hH, hS.bs, hn, h0, h1, hg⟩
theorem CurE.only {w w' : World} {B g : Nat} {bs : List Int} {st : DS} (h : CurE w B g bs st) (hk : ∀ k, k < w.heap.size → (k < B ∨ k = g) → w'.heap[k]? = w.heap[k]?) : CurE w' B g bs st := by
  have hlt := h.cur.lt
  obtain ⟨A, c, hH, hS, hn, h0, h1, hg⟩ := h
  exact ⟨A, c, (hk g hlt.2 (.inr rfl)).trans hH, hS.kept fun p hp => World.cell?_of_block (hk p.block (by omega) (.inl hp)), hn, h0, h1, hg⟩
def DrawnE (f : Int × DS) (w : World) (B g : Nat) (bs : List Int) (e : Ending) (w' : World) : Prop := e = .returned (.int .i64 f.1) ∧ CurE w' B g bs f.2 ∧ Only w g w'

set_option maxHeartbeats 1000000 in
theorem byteE_any (w : World) (B g : Nat) (bs : List Int) (st : DS) (hC : CurE w B g bs st) :
    Calls Tryd.prog 53 #[.pointer (some ⟨g, 0, none⟩)] w (DrawnE (byteF bs st) w B g bs) := by
  obtain ⟨i, h⟩ := st
  obtain ⟨A, c, hH, hS, hn, h0, h1, hg⟩ := hC
  dsimp only at hH h0 h1
  have hn63 : bs.length ≤ 9223372036854775807 := by unfold maxLen at hn; omega
  have e0 := has_cell hH 0 rfl
  have e1 := has_cell hH 1 rfl
  have e2 := has_cell hH 2 rfl
  have f1 := has_free hH 1
  have f2 := has_free hH 2
  have HS := Lib.hid hS; clear hS
  have HH := Lib.hid hH; clear hH
  have HO := Lib.hid (byteF_out (bs := bs) (i := i) (h := h))
  have HI := Lib.hid (fun (k : Nat) (u : Int) (hu : bs[k]? = some u) => byteF_in (h := h) hu)
  have HST := Lib.hid (show stepH h = wrap64 (wrap64 (h * 6364136223846793005) + 1442695040888963407) from rfl)
  go_enter Tryd.func53, Tryd.ntmps53
  go_wp2
  rw [← HST.out]
  generalize stepH h = h' at *
  clear HST
  generalize hW1 : w.setCell ⟨g, 2, none⟩ (.int .i64 h') = w1
  have o1 : Only w g w1 := by rw [← hW1]; exact only_set (only_refl _ _) _ _
  have k1 : Has w1 g 72 #[.slice A bs.length c, .int .i64 i, .int .i64 h'] := by rw [← hW1]; simpa using has_set HH.out 2 (.int .i64 h')
  have s1 : BL w1 B A bs := HS.out.kept fun p hp => by
    rw [← hW1]
    exact World.cell?_setCell_other w _ _ _ (fun e => by subst e; simp at hp; omega)
  clear hW1 e0 e1 e2 f1 f2
  have e0 := has_cell k1 0 rfl
  have e1 := has_cell k1 1 rfl
  have e2 := has_cell k1 2 rfl
  have f1 := has_free k1 1
  have K1 := Lib.hid k1; clear k1
  generalize wrap64 (h * 6364136223846793005) = h''
  have HMX := Lib.hid (show mixB h' = bits .and .i64 (bits .xor .i64 (h' / 8589934592) (h' / 35184372088832)) 255 from rfl)
  go_quiet (fail)
  rw [← HMX.out]
  have bx := mask255 (bits .xor .i64 (h' / 8589934592) (h' / 35184372088832))
  rw [← HMX.out] at bx
  clear HMX
  generalize mixB h' = x at *
  obtain ⟨bx0, bx1⟩ := bx
  by_cases hlt : i < bs.length
  · rcases s1 with s1 | ⟨b, off, rfl, hbB, hc⟩
    · rw [s1] at hlt; simp at hlt; omega
    obtain ⟨k, rfl⟩ := Int.eq_ofNat_of_zero_le h0
    have hkl : k < bs.length := by omega
    obtain ⟨u, hu⟩ : ∃ u, bs[k]? = some u := ⟨_, List.getElem?_eq_getElem hkl⟩
    obtain ⟨hu0, hu1, huc⟩ := hc k u hu
    have HF := Lib.hid (HI.out k u hu)
    have HC := Lib.hid hc; clear hc hu HI HO
    generalize hbl : bs.length = n at *
    have hd : decide ((k : Int) < (n : Int)) = true := by simpa using hlt
    have hd' : decide (k < n) = true := by simpa using hlt
    go_wp2
    go_quiet (fail)
    go_wp2
    go_quiet (fail)
    generalize hy : bits .and .i64 _ 255 = y
    go_wp2
    go_ret
    have kset : Has (w1.setCell ⟨g, 1, none⟩ (.int .i64 ((k : Int) + 1))) g 72 #[.slice (some ⟨b, off, none⟩) n c, .int .i64 ((k : Int) + 1), .int .i64 h'] := by simpa using has_set K1.out 1 (.int .i64 ((k : Int) + 1))
    have sset : BL (w1.setCell ⟨g, 1, none⟩ (.int .i64 ((k : Int) + 1))) B (some ⟨b, off, none⟩) bs := BL.kept (.inr ⟨b, off, rfl, hbB, HC.out⟩) fun p hp => World.cell?_setCell_other w1 _ _ _ (fun e => by subst e; simp at hp; omega)
    unfold DrawnE
    have hw64 : wrap64 (x + u) = x + u := by unfold wrap64; omega
    rw [HF.out, hw64, hy]
    exact ⟨rfl, ⟨some ⟨b, off, none⟩, c, by rw [hbl]; exact kset, sset, by rw [hbl]; exact hn, by show 0 ≤ (k : Int) + 1; omega, by show (k : Int) + 1 ≤ _; omega, hg⟩, only_set (only_drewN o1 _) _ _⟩
  · have HF := Lib.hid (HO.out (by omega))
    clear HI HO
    have hd : decide (i < (bs.length : Int)) = false := by simpa using hlt
    go_wp2
    go_quiet (fail)
    go_wp2
    go_ret
    unfold DrawnE
    rw [HF.out]
    exact ⟨rfl, ⟨A, c, has_drewN (has_drewN K1.out _) _, s1, hn, h0, h1, hg⟩, only_drewN (only_drewN o1 _) _⟩

/-- a number below n (more than 256), of four bytes -/
def belowF (bs : List Int) (n : Int) (st : DS) : Int × DS :=
  ((((byteF bs st).1 * 16777216 + (byteF bs (byteF bs st).2).1 * 65536 + (byteF bs (byteF bs (byteF bs st).2).2).1 * 256 + (byteF bs (byteF bs (byteF bs (byteF bs st).2).2).2).1) % n), (byteF bs (byteF bs (byteF bs (byteF bs st).2).2).2).2)
theorem belowF_bd (bs : List Int) (n : Int) (st : DS) (h : 0 < n) : 0 ≤ (belowF bs n st).1 ∧ (belowF bs n st).1 ≤ n - 1 := by
  have h1 := Int.emod_nonneg ((byteF bs st).1 * 16777216 + (byteF bs (byteF bs st).2).1 * 65536 + (byteF bs (byteF bs (byteF bs st).2).2).1 * 256 + (byteF bs (byteF bs (byteF bs (byteF bs st).2).2).2).1) (show n ≠ 0 by omega)
  have h2 := Int.emod_lt_of_pos ((byteF bs st).1 * 16777216 + (byteF bs (byteF bs st).2).1 * 65536 + (byteF bs (byteF bs (byteF bs st).2).2).1 * 256 + (byteF bs (byteF bs (byteF bs (byteF bs st).2).2).2).1) h
  unfold belowF
  dsimp only
  omega
set_option maxHeartbeats 1000000 in
theorem belowE_any (w : World) (B g : Nat) (bs : List Int) (st : DS) (n : Int) (hn : 257 ≤ n) (hn2 : n ≤ 2147483648) (hC : CurE w B g bs st) :
    Calls Tryd.prog 43 #[.pointer (some ⟨g, 0, none⟩), .int .i64 n] w (DrawnE (belowF bs n st) w B g bs) := by
  have HC := Lib.hid hC; clear hC
  have HF := Lib.hid (show belowF bs n st = _ from rfl)
  have h2 := belowF_bd bs n st (by omega)
  unfold belowF at h2
  dsimp only at h2
  obtain ⟨h20, h21⟩ := h2
  have hx := byteF_bd bs st
  have hy := byteF_bd bs (byteF bs st).2
  have hz := byteF_bd bs (byteF bs (byteF bs st).2).2
  have hv := byteF_bd bs (byteF bs (byteF bs (byteF bs st).2).2).2
  have c1 := fun (w : World) (hC : CurE w B g bs st) => byteE_any w B g bs st hC
  have c2 := fun (w : World) hC => byteE_any w B g bs (byteF bs st).2 hC
  have c3 := fun (w : World) hC => byteE_any w B g bs (byteF bs (byteF bs st).2).2 hC
  have c4 := fun (w : World) hC => byteE_any w B g bs (byteF bs (byteF bs (byteF bs st).2).2).2 hC
  unfold belowF
  generalize byteF bs (byteF bs (byteF bs (byteF bs st).2).2).2 = f4 at *
  generalize byteF bs (byteF bs (byteF bs st).2).2 = f3 at *
  generalize byteF bs (byteF bs st).2 = f2 at *
  generalize byteF bs st = f1 at *
  obtain ⟨x, s1⟩ := f1; obtain ⟨y, s2⟩ := f2; obtain ⟨z, s3⟩ := f3; obtain ⟨v, s4⟩ := f4
  dsimp only at hx hy hz hv h20 h21 c2 c3 c4 ⊢
  obtain ⟨hx0, hx1⟩ := hx; obtain ⟨hy0, hy1⟩ := hy; obtain ⟨hz0, hz1⟩ := hz; obtain ⟨hv0, hv1⟩ := hv
  have D1 := Lib.hid c1; have D2 := Lib.hid c2; have D3 := Lib.hid c3; have D4 := Lib.hid c4
  clear c1 c2 c3 c4 HF
  go_enter Tryd.func43, Tryd.ntmps43
  go_wp2_with fail
  refine (D1.out w HC.out).mono ?_
  rintro e w1 ⟨rfl, hC1, ho1⟩
  have HC1 := Lib.hid hC1; clear hC1
  go_wp2_with fail
  refine (D2.out w1 HC1.out).mono ?_
  rintro e w2 ⟨rfl, hC2, ho2⟩
  have HC2 := Lib.hid hC2; clear hC2
  go_wp2_with fail
  refine (D3.out w2 HC2.out).mono ?_
  rintro e w3 ⟨rfl, hC3, ho3⟩
  have HC3 := Lib.hid hC3; clear hC3
  go_wp2_with fail
  refine (D4.out w3 HC3.out).mono ?_
  rintro e w4 ⟨rfl, hC4, ho4⟩
  have HC4 := Lib.hid hC4; clear hC4
  go_wp2_with fail
  go_ret
  exact ⟨rfl, HC4.out, only_trans (only_trans (only_trans ho1 ho2) ho3) ho4⟩

def hashF (bs : List Int) : Nat → Int
  | 0 => wrap64 (33183 + (bs.length : Int))
  | k + 1 => bits .and .i64 (wrap64 (wrap64 (wrap64 (hashF bs k * 131) + bs.getD k 0) + 7)) 1073741823
theorem hashF_step {bs : List Int} {k : Nat} {u : Int} (hu : bs[k]? = some u) : hashF bs (k + 1) = bits .and .i64 (wrap64 (wrap64 (wrap64 (hashF bs k * 131) + u) + 7)) 1073741823 := by
  rw [hashF, List.getD_eq_getElem?_getD, hu]; rfl
def startF (bs : List Int) : DS := (0, hashF bs (min bs.length 4000))
set_option maxRecDepth 100000 in
set_option maxHeartbeats 400000 in
theorem newE_any (w : World) (B : Nat) (A : Option Addr) (c : Nat) (bs : List Int) (hn : bs.length ≤ maxLen) (hB : B ≤ w.heap.size) (hS : BL w B A bs) :
    Calls Tryd.prog 42 #[.slice A bs.length c] w fun e w' => e = .returned (.pointer (some ⟨w.heap.size, 0, none⟩)) ∧ CurE w' B w.heap.size bs (startF bs) ∧ Below w.heap.size w w' := by
  unfold maxLen at hn
  have HS := Lib.hid hS; clear hS
  have H0 := Lib.hid (show hashF bs 0 = wrap64 (33183 + (bs.length : Int)) from rfl)
  go_enter Tryd.func42, Tryd.ntmps42
  go_wp2
  rw [← H0.out]
  go_loop [3, 4] (fun u i => ∃ (k : Nat), k ≤ bs.length ∧ k ≤ 4000 ∧ i = .int .i64 k ∧ u = .int .i64 (hashF bs k)) (fun _ i => bs.length - (intOf i).toNat)
  case atStart => exact ⟨0, Nat.zero_le _, by omega, rfl, rfl⟩
  case round =>
    obtain ⟨k, hk, hk4, rfl, rfl⟩ := hrel
    by_cases hlt : k < bs.length ∧ k < 4000
    · rcases HS.out with hs | ⟨b, off, rfl, hbB, hc⟩
      · rw [hs] at hlt; simp at hlt
      obtain ⟨u, hu⟩ : ∃ u, bs[k]? = some u := ⟨_, List.getElem?_eq_getElem hlt.1⟩
      obtain ⟨hu0, hu1, huc⟩ := hc k u hu
      have HST := Lib.hid (hashF_step hu)
      clear hc
      obtain ⟨hl1, hl2⟩ := hlt
      clear hu
      generalize hashF bs k = h at *
      go_wp2
      go_round
      case rel => exact ⟨k + 1, by omega, by omega, by go_num, by rw [HST.out]⟩
      case measure => simp [intOf]; omega
    · have hkm : min bs.length 4000 = k := by omega
      have HM := Lib.hid (show startF bs = (0, hashF bs k) by rw [startF, hkm])
      generalize hashF bs k = h at *
      by_cases hl1 : k < bs.length
      · have hl2 : ¬ k < 4000 := by omega
        go_wp2
        go_ret
        rw [HM.out]
        exact ⟨rfl, ⟨A, c, has_new _ _ _, HS.out.below ((balloc w _).mono hB), by unfold maxLen; omega, by show (0 : Int) ≤ 0; omega, by show (0 : Int) ≤ _; omega, hB⟩, balloc _ _⟩
      · go_wp2
        go_ret
        rw [HM.out]
        exact ⟨rfl, ⟨A, c, has_new _ _ _, HS.out.below ((balloc w _).mono hB), by unfold maxLen; omega, by show (0 : Int) ≤ 0; omega, by show (0 : Int) ≤ _; omega, hB⟩, balloc _ _⟩

/-- the state behind k numbers, and the numbers -/
def plS (bs : List Int) : Nat → DS
  | 0 => startF bs
  | k + 1 => (belowF bs 10000 (plS bs k)).2
def plV (bs : List Int) (k : Nat) : Int := (belowF bs 10000 (plS bs k)).1
theorem plV_bd (bs : List Int) (k : Nat) : 0 ≤ plV bs k ∧ plV bs k ≤ 9999 := belowF_bd bs 10000 (plS bs k) (by omega)
def plL (bs : List Int) (n : Nat) : List Int := (List.range n).map (plV bs)
theorem plL_len (bs : List Int) (n : Nat) : (plL bs n).length = n := by simp [plL]
theorem plL_snoc (bs : List Int) (n : Nat) : plL bs (n + 1) = plL bs n ++ [plV bs n] := by simp [plL, List.range_succ]
theorem plL_at (bs : List Int) {n k : Nat} (h : k < n) : (plL bs n)[k]? = some (plV bs k) := by simp [plL, h]
def TwelveE (bs : List Int) (w : World) (e : Ending) (w' : World) : Prop := ∃ (b c : Nat), e = .returned (.slice (some ⟨b, 0, none⟩) 12 c) ∧ (∀ k, k < 12 → w'.cell? ⟨b, k, none⟩ = some (.int .i64 (plV bs k))) ∧ b < w'.heap.size ∧ w.heap.size ≤ b ∧ Below w.heap.size w w'
set_option maxHeartbeats 1000000 in
theorem placesE_any (w : World) (A : Option Addr) (c : Nat) (bs : List Int) (hn : bs.length ≤ maxLen) (hS : BL w w.heap.size A bs) :
    Calls Tryd.prog 25 #[.slice A bs.length c] w (TwelveE bs w) := by
  have HS := Lib.hid hS; clear hS
  obtain ⟨i0, hi0, hz0, hz1, hz2⟩ := info_parts intInfo
  have hn2 : bs.length ≤ 9223372036854775807 := by unfold maxLen at hn; omega
  have NW := Lib.hid (newE_any w w.heap.size A c bs hn (Nat.le_refl _) HS.out)
  generalize bs.length = nb at NW hn2 ⊢
  clear hn
  go_enter Tryd.func25, Tryd.ntmps25
  go_wp2_with fail
  refine NW.out.mono ?_
  rintro e w1 ⟨rfl, hC1, hb1⟩
  have HC1 := Lib.hid hC1; clear hC1
  have hlt1 := HC1.out.cur.lt
  go_wp2_with fail
  go_loopw [4, 5] (fun v i wr => ∃ (k : Nat), k ≤ 12 ∧ i = .int .i64 k ∧ wr.ownsRow (w.heap.size + 1) 3 1 v k (ints (plL bs k)) ∧ CurE wr w.heap.size w.heap.size bs (plS bs k) ∧ Below w.heap.size w wr) (fun _ i _ => 12 - (intOf i).toNat)
  case atStart => exact ⟨0, by omega, rfl, by simpa [ints, plL] using World.ownsRow_lit (base := w.heap.size + 1) (e := 3) (size := 1) w1 #[] 0 (by omega) (Nat.zero_le _) rfl, HC1.out.only fun q hq _ => (balloc w1 _).block q hq, hb1.alloc hlt1.1 _⟩
  case round =>
    obtain ⟨k, hk, rfl, hown, hC, hb⟩ := hrel
    have hltC := hC.cur.lt
    have HC := Lib.hid hC; clear hC
    have HOWN := Lib.hid hown; clear hown
    have HL := plL_len bs k
    by_cases hlt : k < 12
    · have hnx : plS bs (k + 1) = (belowF bs 10000 (plS bs k)).2 := rfl
      have hvv : plV bs k = (belowF bs 10000 (plS bs k)).1 := rfl
      have hcl := belowE_any wr w.heap.size w.heap.size bs (plS bs k) 10000 (by omega) (by omega) HC.out
      have HNX := Lib.hid hnx; have HVV := Lib.hid hvv; have HCL := Lib.hid hcl; have HSN := Lib.hid (plL_snoc bs k)
      clear hnx hvv hcl
      go_wp2_with fail
      refine HCL.out.mono ?_
      rintro e w2 ⟨rfl, hC2, ho2⟩
      rw [← HNX.out] at hC2
      rw [← HVV.out]
      generalize plV bs k = x at *
      have hne : u4.ownBlock ≠ some w.heap.size := fun e => by have := (HOWN.out.lt _ e).1; omega
      have HO := Lib.hid (own_only HOWN.out ho2 hne)
      have hz2' := ho2.size
      have HC2 := Lib.hid hC2; clear hC2
      have hb2 := hb.trans (only_below ho2 hltC.1 (Nat.le_refl _))
      go_wp2_with (at_builtin; go_must (refine wpList_append_own _ rfl _ _ 48 rfl (w.heap.size + 1) 3 i0 (.int .i64 0) 1 8 Tryd.underlying48 hi0 hz0 hz1 hz2 rfl (by decide) _ _ _ rfl (HO.out.alloc _) ⟨w2.heap.size, 0, none⟩ 1 1 [.int .i64 x] rfl rfl (World.news_of_block (cs := #[.int .i64 x]) (heap_alloc_new w2 _)) (by simp [Value.oneCell']) (by unfold maxLen; omega) (by omega) (by simp; omega) ?_))
      intro v' w3 hown1 hgrow _
      go_wp2
      have hne1 : ∀ q, u4.ownBlock = some q → w.heap.size + 1 ≤ q := fun q e => (HOWN.out.lt _ e).1
      have hC3 : CurE w3 w.heap.size w.heap.size bs (plS bs (k + 1)) := (HC2.out.only fun q hq _ => (balloc w2 _).block q hq).only fun q hq hq' => hgrow.block q hq (fun e => by have := hne1 q e.symm; omega)
      go_roundw
      case rel => exact ⟨k + 1, by omega, by go_num, by rw [HSN.out]; simpa [ints] using hown1, hC3, (hb2.alloc (by omega) _).grown hgrow (by simp; omega) (fun q e => by have := hne1 q e; omega)⟩
      case measure => simp [intOf]; omega
    · go_wp2_with fail
      go_ret
      have hk12 : k = 12 := by omega
      subst hk12
      obtain ⟨q, cap, hv, hq0, hq1⟩ := HOWN.out.form (by omega)
      subst hv
      exact ⟨q, cap, rfl, fun j hj => by
        rw [HOWN.out.cellAt j hj]
        simp [ints, plL_at bs hj], hq1, by omega, hb⟩
end Go.Proofs.YtjpafmkmpnibgaaDoor
