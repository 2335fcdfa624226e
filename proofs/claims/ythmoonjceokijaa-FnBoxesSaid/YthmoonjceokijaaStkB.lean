/- Chapter 2: the program's stackOf: boxes linked by pointers. -/
import Derived.Test.YthmoonjceokijaaStkI
import Derived.Test.YthmoonjceokijaaColP
namespace Go.Proofs.Ythmoonjceokijaa
open Go.RowKit Go.Shelf
set_option linter.unusedVariables false
attribute [local go_sem] Oper.semAt_some

structure Tr where
  x : Bx
  fx : Bool
def tierC (t : Tr) (q : Option Addr) : Array Value := #[.int .i64 t.x.low, .int .i64 t.x.size, .int .i64 t.x.par, .bool t.x.jam, .bool t.fx, .pointer q]
/-- the tiers lie in these blocks, linked one to the next above -/
def TL (w : World) (lo : Nat) : Option Addr → List Nat → List Tr → Prop
  | p, [], [] => p = none
  | p, g :: gs, t :: r => p = some ⟨g, 0, none⟩ ∧ lo ≤ g ∧ g ∉ gs ∧ ∃ q, Has w g 68 (tierC t q) ∧ TL w lo q gs r
  | _, _, _ => False
theorem TL.kept {w w' : World} {lo : Nat} : ∀ {gs : List Nat} {p : Option Addr} {l : List Tr}, TL w lo p gs l → (∀ g ∈ gs, ∀ cs, Has w g 68 cs → Has w' g 68 cs) → TL w' lo p gs l
  | [], p, [], h, _ => h
  | [], p, t :: r, h, _ => h.elim
  | g :: gs, p, [], h, _ => h.elim
  | g :: gs, p, t :: r, ⟨h1, h2, h3, q, h4, h5⟩, hk => ⟨h1, h2, h3, q, hk g List.mem_cons_self _ h4, h5.kept fun g' hg' => hk g' (List.mem_cons_of_mem _ hg')⟩
theorem TL.lt {w : World} {lo : Nat} : ∀ {gs : List Nat} {p : Option Addr} {l : List Tr}, TL w lo p gs l → ∀ g ∈ gs, lo ≤ g ∧ g < w.heap.size
  | [], p, l, _, g, hg => by cases hg
  | g :: gs, p, [], h, _, _ => h.elim
  | g :: gs, p, t :: r, ⟨h1, h2, h3, q, h4, h5⟩, g', hg' => by
    rcases List.mem_cons.1 hg' with e | e
    · subst e; exact ⟨h2, has_lt h4⟩
    · exact h5.lt g' e
theorem TL.call {w w' : World} {lo : Nat} {gs : List Nat} {p : Option Addr} {l : List Tr} (h : TL w lo p gs l) (hb : Below w.heap.size w w') : TL w' lo p gs l := h.kept fun g hg cs hh => has_call hh hb
theorem TL.far {w : World} {lo : Nat} {gs : List Nat} {p : Option Addr} {l : List Tr} (h : TL w lo p gs l) {a : Addr} (ha : a.block < lo) (v : Value) : TL (w.setCell a v) lo p gs l := h.kept fun g hg cs hh => has_far hh (by have := (h.lt g hg).1; omega) v
theorem TL.own {w w' : World} {lo : Nat} {gs : List Nat} {p : Option Addr} {l : List Tr} {row : Option Nat} (h : TL w lo p gs l) (hg : w.grownBy w' row) (hr : ∀ r, row = some r → ∃ o : Obj, w.heap[r]? = some o ∧ o.isCells = false) : TL w' lo p gs l :=
  h.kept fun g _ cs hh => has_grown' hh hg hr
where has_grown' {w w' : World} {g : Nat} {t : TypeId} {cs : Array Value} {row : Option Nat} (h : Has w g t cs) (hg : w.grownBy w' row) (hr : ∀ r, row = some r → ∃ o : Obj, w.heap[r]? = some o ∧ o.isCells = false) : Has w' g t cs :=
  (hg.block g (has_lt h) (fun e => by
    obtain ⟨o, ho, hc⟩ := hr g e.symm
    have := (show w.heap[g]? = _ from h).symm.trans ho
    injection this with this; subst this
    cases hc)).trans h
theorem has_own {w w' : World} {g : Nat} {t : TypeId} {cs : Array Value} {row : Option Nat} (h : Has w g t cs) (hg : w.grownBy w' row) (hr : ∀ r, row = some r → ∃ o : Obj, w.heap[r]? = some o ∧ o.isCells = false) : Has w' g t cs := TL.own.has_grown' h hg hr
theorem TL.more {w : World} {lo lo' : Nat} : ∀ {gs : List Nat} {p : Option Addr} {l : List Tr}, TL w lo p gs l → lo' ≤ lo → TL w lo' p gs l
  | [], p, [], h, _ => h
  | [], p, t :: r, h, _ => h.elim
  | g :: gs, p, [], h, _ => h.elim
  | g :: gs, p, t :: r, ⟨h1, h2, h3, q, h4, h5⟩, hl => ⟨h1, by omega, h3, q, h4, h5.more hl⟩
theorem ko_below {w w' : World} (h : Below w.heap.size w w') : KeepsOthers w w' := ⟨h.size, fun k o hk _ => (h.block k (Array.getElem?_eq_some_iff.1 hk).1).trans hk⟩
def trOf (F : List Int) (x : Bx) : Tr := ⟨x, F.contains x.low⟩
/-- the tiers that the rounds so far have made, the lowest one first -/
def trs (F : List Int) (pre : List (Nat × Bx)) : List Tr := (pre.map fun y => trOf F y.2).reverse
theorem trs_snoc (F : List Int) (pre : List (Nat × Bx)) (y : Nat × Bx) : trs F (pre ++ [y]) = trOf F y.2 :: trs F pre := by simp [trs]
theorem trs_all (F : List Int) (L : List Bx) : trs F (bwd L L.length) = L.map (trOf F) := by
  unfold trs bwd
  apply List.ext_getElem
  · simp
  · intro i h1 h2
    simp at h1 h2
    simp only [List.getElem_reverse, List.getElem_map, List.getElem_range, List.length_map, List.length_range, bwF]
    have e : L.length - 1 - (L.length - 1 - i) = i := by omega
    rw [e, List.getElem?_eq_getElem h2]
    rfl

theorem back_in (F : Fence) (n : Nat) (h5 : F.fn 58) (hro : F.round = none) (a : Option Addr) (len cap : Nat) (w : World) :
    CallsIn F n Try.prog 58 #[.slice a len cap] w fun e w' => e = .returned (.func (.func 64) #[] #[.pointer (some ⟨w.heap.size, 0, none⟩)]) ∧ w' = w.alloc (.cells #[.slice a len cap] 25) := by
  refine callsIn_of_wp Try.func58 rfl h5 ?_ hro
  simp only [Try.ntmps58, List.size_toArray, List.length_cons, List.length_nil, Nat.reduceAdd, Nat.reduceSub, Array.replicate_succ, Array.replicate_zero, List.push_toArray, List.append_toArray, List.nil_append, List.cons_append]
  gi_wp2
  go_ret
  exact ⟨rfl, rfl⟩

set_option maxRecDepth 100000 in
set_option maxHeartbeats 4000000 in
theorem stack_any (w : World) (B : Nat) (x : Cl) (hB : B ≤ w.heap.size) (hV : CV w B x) :
    Calls Try.prog 43 #[.agg #[.int .i64 x.z, .slice x.AF x.F.length x.cF, .slice x.AB x.L.length x.cB]] w fun e w' => ∃ p gs, e = .returned (.pointer p) ∧ TL w' w.heap.size p gs (x.L.map (trOf x.F)) ∧ Below w.heap.size w w' := by
  have HV := Lib.hid hV; clear hV
  refine (callsIn_wide (n := 6)).1 ?_
  refine callsIn_of_wp_marks Try.func43 rfl trivial ?_ rfl
  simp only [Try.ntmps43, List.size_toArray, List.length_cons, List.length_nil, Nat.reduceAdd, Nat.reduceSub, Array.replicate_succ, Array.replicate_zero, List.push_toArray, List.append_toArray, List.nil_append, List.cons_append]
  gi_wp2_with (refine ⟨trivial, ?_⟩; gi_at_call 58; refine (back_in Fence.wide _ trivial rfl _ _ _ _).mono ?_; rintro e w' ⟨rfl, rfl⟩)
  generalize hW0 : ((w.alloc (.cells #[.int .i64 x.z, .slice x.AF x.F.length x.cF, .slice x.AB x.L.length x.cB] 27)).alloc (.cells #[.pointer none] 65)).alloc (.cells #[.slice x.AB x.L.length x.cB] 25) = W0
  have b0 : Below w.heap.size w W0 := by rw [← hW0]; exact bthen (bthen (balloc _ _) (balloc _ _)) (balloc _ _)
  have k0 : Has W0 w.heap.size 27 #[.int .i64 x.z, .slice x.AF x.F.length x.cF, .slice x.AB x.L.length x.cB] := by rw [← hW0]; exact has_alloc (has_alloc (has_new _ _ _) _) _
  have k1 : Has W0 (w.heap.size + 1) 65 #[.pointer none] := by rw [← hW0]; have := has_alloc (has_new (w.alloc (.cells #[.int .i64 x.z, .slice x.AF x.F.length x.cF, .slice x.AB x.L.length x.cB] 27)) 65 #[.pointer none]) (.cells #[.slice x.AB x.L.length x.cB] 25); simpa using this
  have k2 : Has W0 (w.heap.size + 1 + 1) 25 #[.slice x.AB x.L.length x.cB] := by rw [← hW0]; have := has_new ((w.alloc (.cells #[.int .i64 x.z, .slice x.AF x.F.length x.cF, .slice x.AB x.L.length x.cB] 27)).alloc (.cells #[.pointer none] 65)) 25 #[.slice x.AB x.L.length x.cB]; simpa using this
  have hs0 : W0.heap.size = w.heap.size + 3 := by rw [← hW0]; simp
  clear hW0
  have v0 := HV.out.later hB b0
  have HV0 := Lib.hid v0; clear v0
  refine wpIn_rangeFunc_ownH rfl (by omega) (gf := 64) (lb := #[.pointer (some ⟨w.heap.size + 1 + 1, 0, none⟩)]) rfl trivial (enters_of Try.func64 (by kernel_rfl) rfl)
    (back_stops Fence.wide 5 trivial rfl (by omega) (w.heap.size + 1 + 1) w.heap.size x.AB x.cB x.L HV0.out.lb W0 (by omega) (by omega) (has_cell k2 0 rfl) (HV0.out.b.more hB)) kpS_t (kpS_b (by omega) (by omega)) (Below.refl _ _) (fun _ => rfl)
    (fun pre W => ((Has W w.heap.size 27 #[.int .i64 x.z, .slice x.AF x.F.length x.cF, .slice x.AB x.L.length x.cB] ∧ Has W (w.heap.size + 1 + 1) 25 #[.slice x.AB x.L.length x.cB]) ∧ ∃ p gs, Has W (w.heap.size + 1) 65 #[.pointer p] ∧ TL W (w.heap.size + 3) p gs (trs x.F pre)) ∧ Below w.heap.size w W)
    (fun _ _ _ => False)
    (OwnFrom.and (Own.from (fun s A B row hs hg hr => ⟨⟨has_own hs.1.1 hg hr, has_own hs.1.2 hg hr⟩, by obtain ⟨p, gs, h1, h2⟩ := hs.2; exact ⟨p, gs, has_own h1 hg hr, h2.own hg hr⟩⟩) _) (ownFrom_below (Nat.le_refl _) (by omega)))
    (fun _ _ _ _ _ hs _ _ => hs)
    ⟨⟨⟨k0, k2⟩, none, [], k1, rfl⟩, b0⟩
    (fun y a' W => ∃ Bx, w.heap.size + 3 ≤ Bx ∧ Has W Bx 47 #[.int .i64 y.2.low, .int .i64 y.2.size, .int .i64 y.2.par, .bool y.2.jam] ∧ a' = { tmps := #[.agg #[.int .i64 x.z, .slice x.AF x.F.length x.cF, .slice x.AB x.L.length x.cB], .pointer (some ⟨w.heap.size, 0, none⟩), .pointer none, .pointer (some ⟨w.heap.size + 1, 0, none⟩), undef, .pointer (some ⟨Bx, 0, none⟩), .pointer (some ⟨w.heap.size, 2, none⟩), .slice x.AB x.L.length x.cB, .func (.func 64) #[] #[.pointer (some ⟨w.heap.size + 1 + 1, 0, none⟩)], .int .i64 (y.1 : Int), boxA y.2, undef, undef, undef, undef, undef, undef, undef, undef, undef, undef], defers := [] })
    (fun y a' _ X Y row hs hg hr => by obtain ⟨Bx, h1, h2, h3⟩ := hs; exact ⟨Bx, h1, has_own h2 hg (fun r e => (hr r e).2), h3⟩)
    ?assign ?body ?done ?stop
  case assign =>
    rintro l pre y W K ⟨⟨⟨kA, kB⟩, p, gs, kP, hT⟩, hBl⟩ hK
    obtain ⟨yi, y0, y1, y2, y3⟩ := y
    dsimp only [boxA]
    gi_wp2
    have hsB := hBl.size
    exact hK _ _ ((KeepsOthers.alloc _ _).from _) ⟨(Below.refl _ W).alloc hBl.size _, bold (balloc _ _) _ _ (has_lt kB)⟩ ⟨⟨⟨has_alloc kA _, has_alloc kB _⟩, p, gs, has_alloc kP _, hT.call (balloc _ _)⟩, hBl.alloc hBl.size _⟩ ⟨W.heap.size, has_lt kB, has_new _ _ _, rfl⟩
  case body =>
    rintro l pre y a' W hl ⟨r, hr⟩ ⟨⟨⟨kA, kB⟩, p, gs, kP, hT⟩, hBl⟩ ⟨Bx, hBx, bX, rfl⟩ hlt
    obtain ⟨yi, y0, y1, y2, y3⟩ := y
    dsimp only [boxA] at bX ⊢
    have hsB := hBl.size
    have hBW : B ≤ W.heap.size := by omega
    have hIL : IL W B x.AF x.F := HV.out.f.below (hBl.mono hB)
    have hlf := HV.out.lf
    have HIL := Lib.hid hIL; have HLF := Lib.hid hlf; clear hIL hlf
    have c0 := has_cell bX 0 rfl
    have c1 := has_cell bX 1 rfl
    have c2 := has_cell bX 2 rfl
    have c3 := has_cell bX 3 rfl
    have d1 := has_cell kA 1 rfl
    have p0 := has_cell kP 0 rfl
    have pf := has_free kP 0
    have hlA := has_lt kA
    have hlP := has_lt kP
    have hlX := has_lt bX
    have KA := Lib.hid kA; have KB := Lib.hid kB; have KP := Lib.hid kP; have HT := Lib.hid hT; have KX := Lib.hid bX; have HR := Lib.hid hr; have HBL := Lib.hid hBl; clear kA kB kP hT bX hr hBl
    have hd : 1 ≤ 6 - 1 - 1 := by omega
    have hmx : Try.prog.follows .mixedOrders = true := by kernel_rfl
    gi_wp2
    obtain ⟨fx, hfx⟩ : ∃ fx, fx = x.F.contains y0 := ⟨_, rfl⟩
    have hcon0 := contains_any W.drew B x.AF x.cF x.F y0 HLF.out (show B ≤ W.drew.heap.size from hBW) (HIL.out.below (Below.refl _ _).drew)
    rw [← hfx] at hcon0
    have hcon := Lib.hid hcon0
    have HFX := Lib.hid hfx
    clear hcon0 hfx
    have S0 : (fun W' : World => (W'.cell? ⟨Bx, 0, none⟩ = some (.int .i64 y0) ∧ W'.cell? ⟨Bx, 1, none⟩ = some (.int .i64 y1) ∧ W'.cell? ⟨Bx, 2, none⟩ = some (.int .i64 y2) ∧ W'.cell? ⟨Bx, 3, none⟩ = some (.bool y3) ∧ W'.cell? ⟨w.heap.size, 1, none⟩ = some (.slice x.AF x.F.length x.cF))) W.drew := ⟨c0, c1, c2, c3, d1⟩
    dsimp only at S0
    refine region_in (S := (fun W' : World => (W'.cell? ⟨Bx, 0, none⟩ = some (.int .i64 y0) ∧ W'.cell? ⟨Bx, 1, none⟩ = some (.int .i64 y1) ∧ W'.cell? ⟨Bx, 2, none⟩ = some (.int .i64 y2) ∧ W'.cell? ⟨Bx, 3, none⟩ = some (.bool y3) ∧ W'.cell? ⟨w.heap.size, 1, none⟩ = some (.slice x.AF x.F.length x.cF)))) hmx (by kernel_rfl) (fun ⟨_, _, h⟩ => h) ?_
    refine wpAnyH_take (i := 1) (v := .pointer (some ⟨w.heap.size, 1, none⟩)) rfl (by kernel_rfl) (by kernel_rfl) (by kernel_rfl) (fun _ _ _ h => h) (Or.inl ⟨by rfl, (by intro w hSw; (try dsimp only at hSw); go_simp)⟩) S0 ?_
    simp only [Act.put, List.setIfInBounds_toArray, List.set_cons_zero, List.set_cons_succ]
    refine wpAnyH_take (i := 3) (v := .pointer (some ⟨Bx, 0, none⟩)) rfl (by kernel_rfl) (by kernel_rfl) (by kernel_rfl) (fun _ _ _ h => h) (Or.inl ⟨by rfl, (by intro w hSw; (try dsimp only at hSw); go_simp)⟩) S0 ?_
    simp only [Act.put, List.setIfInBounds_toArray, List.set_cons_zero, List.set_cons_succ]
    refine wpAnyH_take (i := 0) (v := .agg #[.int .i64 y0, .int .i64 y1, .int .i64 y2, .bool y3]) rfl (by kernel_rfl) (by kernel_rfl) (by kernel_rfl) (fun _ _ _ h => h) (Or.inl ⟨by rfl, (by intro w hSw; (try dsimp only at hSw); go_simp)⟩) S0 ?_
    simp only [Act.put, List.setIfInBounds_toArray, List.set_cons_zero, List.set_cons_succ]
    refine wpAnyH_take (i := 2) (v := .slice x.AF x.F.length x.cF) rfl (by kernel_rfl) (by kernel_rfl) (by kernel_rfl) (fun _ _ _ h => h) (Or.inl ⟨by rfl, (by intro w hSw; (try dsimp only at hSw); go_simp)⟩) S0 ?_
    simp only [Act.put, List.setIfInBounds_toArray, List.set_cons_zero, List.set_cons_succ]
    refine wpAnyH_take (i := 4) (v := .int .i64 y0) rfl (by kernel_rfl) (by kernel_rfl) (by kernel_rfl) (fun _ _ _ h => h) (Or.inl ⟨by rfl, (by intro w hSw; (try dsimp only at hSw); go_simp)⟩) S0 ?_
    simp only [Act.put, List.setIfInBounds_toArray, List.set_cons_zero, List.set_cons_succ]
    refine wpAnyH_ready (rs := [5, 6]) (by kernel_rfl) (by simp) ?_
    refine AllReadyH.cons rfl (fun K hK => ?_) (AllReadyH.cons rfl (fun K hK => ?_) AllReadyH.nil)
    · go_simp
      refine hcon.out.mono ?_
      rintro e w2 ⟨rfl, hb⟩
      have kP2 := has_call (has_drew KP.out) hb
      have bX2 := has_call (has_drew KX.out) hb
      have kA2 := has_call (has_drew KA.out) hb
      have kB2 := has_call (has_drew KB.out) hb
      have p02 := has_cell kP2 0 rfl
      have pf2 := has_free kP2 0
      have S2 := And.intro (has_cell bX2 0 rfl) (And.intro (has_cell bX2 1 rfl) (And.intro (has_cell bX2 2 rfl) (And.intro (has_cell bX2 3 rfl) (has_cell kA2 1 rfl))))
      refine hK.out _ _ S2 (fun _ => ?_)
      refine wpAnyH_ready (rs := [6]) (by kernel_rfl) (by simp) ?_
      refine AllReadyH.cons rfl (fun K6 hK6 => ?_) AllReadyH.nil
      go_simp
      refine hK6.out _ _ S2 (fun _ => ?_)
      refine wpAnyH_take (i := 7) (v := .agg #[.int .i64 y0, .int .i64 y1, .int .i64 y2, .bool y3, .bool fx, .pointer p]) rfl (by kernel_rfl) (by kernel_rfl) (by kernel_rfl) (fun _ _ _ h => h) (Or.inl ⟨by rfl, (by intro w hSw; (try dsimp only at hSw); go_simp)⟩) S2 ?_
      simp only [Act.put, List.setIfInBounds_toArray, List.set_cons_zero, List.set_cons_succ]
      refine wpAnyH_ready (rs := [8]) (by kernel_rfl) (by simp) ?_
      refine AllReadyH.cons rfl (fun K8 hK8 => ?_) AllReadyH.nil
      go_simp
      generalize hX : w2.alloc (.cells #[.int .i64 y0, .int .i64 y1, .int .i64 y2, .bool y3, .bool fx, .pointer p] 68) = w3
      have b3 : Below w2.heap.size w2 w3 := by rw [← hX]; exact balloc _ _
      have kT := (show Has w3 w2.heap.size 68 (tierC (trOf x.F ⟨y0, y1, y2, y3⟩) p) by rw [← hX]; unfold tierC trOf; rw [← HFX.out]; exact has_new _ _ _)
      clear hX
      have kP3 := has_call kP2 b3
      have bX3 := has_call bX2 b3
      have kA3 := has_call kA2 b3
      have kB3 := has_call kB2 b3
      have p03 := has_cell kP3 0 rfl
      have pf3 := has_free kP3 0
      have S3 := And.intro (has_cell bX3 0 rfl) (And.intro (has_cell bX3 1 rfl) (And.intro (has_cell bX3 2 rfl) (And.intro (has_cell bX3 3 rfl) (has_cell kA3 1 rfl))))
      refine hK8.out _ _ S3 (fun _ => ?_)
      refine wpAnyH_ready (rs := [9]) (by kernel_rfl) (by simp) ?_
      refine AllReadyH.cons rfl (fun K9 hK9 => ?_) AllReadyH.nil
      go_simp
      have hz2 := hb.size
      have hz3 := b3.size
      have hzd : W.drew.heap.size = W.heap.size := rfl
      have bW2 : Below w.heap.size W w2 := ((Below.refl w.heap.size W).drew).trans (hb.mono (by omega))
      have bW3 : Below w.heap.size W w3 := bW2.trans (b3.mono (by omega))
      have bX4 := has_far bX3 (p := ⟨w.heap.size + 1, 0, none⟩) (by show Bx ≠ w.heap.size + 1; omega) (.pointer (some ⟨w2.heap.size, 0, none⟩))
      have kA4 := has_far kA3 (p := ⟨w.heap.size + 1, 0, none⟩) (by show w.heap.size ≠ w.heap.size + 1; omega) (.pointer (some ⟨w2.heap.size, 0, none⟩))
      have kB4 := has_far kB3 (p := ⟨w.heap.size + 1, 0, none⟩) (by show w.heap.size + 1 + 1 ≠ w.heap.size + 1; omega) (.pointer (some ⟨w2.heap.size, 0, none⟩))
      have kT4 := has_far kT (p := ⟨w.heap.size + 1, 0, none⟩) (by show w2.heap.size ≠ w.heap.size + 1; omega) (.pointer (some ⟨w2.heap.size, 0, none⟩))
      have kP4 := has_set kP3 0 (.pointer (some ⟨w2.heap.size, 0, none⟩))
      simp only [List.setIfInBounds_toArray, List.set_cons_zero] at kP4
      have hT2 : TL w2 (w.heap.size + 3) p gs (trs x.F pre) := (HT.out.kept (w' := W.drew) fun g _ cs hh => hh).call hb
      have hT4 : TL (w3.setCell ⟨w.heap.size + 1, 0, none⟩ (.pointer (some ⟨w2.heap.size, 0, none⟩))) (w.heap.size + 3) p gs (trs x.F pre) := (hT2.call b3).far (by show w.heap.size + 1 < _; omega) _
      have hni : w2.heap.size ∉ gs := fun hm => by have := (hT2.lt _ hm).2; omega
      refine hK9.out _ _ ⟨has_cell bX4 0 rfl, has_cell bX4 1 rfl, has_cell bX4 2 rfl, has_cell bX4 3 rfl, has_cell kA4 1 rfl⟩ (fun _ => wpAnyH_done (by kernel_rfl) ?_ _)
      refine ⟨((((KeepsOthers.drew W).trans (ko_below hb)).trans (ko_below b3)).trans (KeepsOthers.setCell _ _ _)).from _, ⟨bW3.setCell (p := ⟨w.heap.size + 1, 0, none⟩) (by show w.heap.size ≤ w.heap.size + 1; omega) _, (has_cell kB4 0 rfl).trans (has_cell KB.out 0 rfl).symm⟩, ⟨⟨kA4, kB4⟩, some ⟨w2.heap.size, 0, none⟩, w2.heap.size :: gs, kP4, ?_⟩, (HBL.out.trans bW3).setCell (p := ⟨w.heap.size + 1, 0, none⟩) (by show w.heap.size ≤ w.heap.size + 1; omega) _⟩
      rw [trs_snoc]
      exact ⟨rfl, by omega, hni, p, kT4, hT4⟩
    · go_simp
      refine hK.out _ _ S0 (fun _ => ?_)
      refine wpAnyH_ready (rs := [5]) (by kernel_rfl) (by simp) ?_
      refine AllReadyH.cons rfl (fun K5 hK5 => ?_) AllReadyH.nil
      go_simp
      refine hcon.out.mono ?_
      rintro e w2 ⟨rfl, hb⟩
      have kP2 := has_call (has_drew KP.out) hb
      have bX2 := has_call (has_drew KX.out) hb
      have kA2 := has_call (has_drew KA.out) hb
      have kB2 := has_call (has_drew KB.out) hb
      have p02 := has_cell kP2 0 rfl
      have pf2 := has_free kP2 0
      have S2 := And.intro (has_cell bX2 0 rfl) (And.intro (has_cell bX2 1 rfl) (And.intro (has_cell bX2 2 rfl) (And.intro (has_cell bX2 3 rfl) (has_cell kA2 1 rfl))))
      refine hK5.out _ _ S2 (fun _ => ?_)
      refine wpAnyH_take (i := 7) (v := .agg #[.int .i64 y0, .int .i64 y1, .int .i64 y2, .bool y3, .bool fx, .pointer p]) rfl (by kernel_rfl) (by kernel_rfl) (by kernel_rfl) (fun _ _ _ h => h) (Or.inl ⟨by rfl, (by intro w hSw; (try dsimp only at hSw); go_simp)⟩) S2 ?_
      simp only [Act.put, List.setIfInBounds_toArray, List.set_cons_zero, List.set_cons_succ]
      refine wpAnyH_ready (rs := [8]) (by kernel_rfl) (by simp) ?_
      refine AllReadyH.cons rfl (fun K8 hK8 => ?_) AllReadyH.nil
      go_simp
      generalize hX : w2.alloc (.cells #[.int .i64 y0, .int .i64 y1, .int .i64 y2, .bool y3, .bool fx, .pointer p] 68) = w3
      have b3 : Below w2.heap.size w2 w3 := by rw [← hX]; exact balloc _ _
      have kT := (show Has w3 w2.heap.size 68 (tierC (trOf x.F ⟨y0, y1, y2, y3⟩) p) by rw [← hX]; unfold tierC trOf; rw [← HFX.out]; exact has_new _ _ _)
      clear hX
      have kP3 := has_call kP2 b3
      have bX3 := has_call bX2 b3
      have kA3 := has_call kA2 b3
      have kB3 := has_call kB2 b3
      have p03 := has_cell kP3 0 rfl
      have pf3 := has_free kP3 0
      have S3 := And.intro (has_cell bX3 0 rfl) (And.intro (has_cell bX3 1 rfl) (And.intro (has_cell bX3 2 rfl) (And.intro (has_cell bX3 3 rfl) (has_cell kA3 1 rfl))))
      refine hK8.out _ _ S3 (fun _ => ?_)
      refine wpAnyH_ready (rs := [9]) (by kernel_rfl) (by simp) ?_
      refine AllReadyH.cons rfl (fun K9 hK9 => ?_) AllReadyH.nil
      go_simp
      have hz2 := hb.size
      have hz3 := b3.size
      have hzd : W.drew.heap.size = W.heap.size := rfl
      have bW2 : Below w.heap.size W w2 := ((Below.refl w.heap.size W).drew).trans (hb.mono (by omega))
      have bW3 : Below w.heap.size W w3 := bW2.trans (b3.mono (by omega))
      have bX4 := has_far bX3 (p := ⟨w.heap.size + 1, 0, none⟩) (by show Bx ≠ w.heap.size + 1; omega) (.pointer (some ⟨w2.heap.size, 0, none⟩))
      have kA4 := has_far kA3 (p := ⟨w.heap.size + 1, 0, none⟩) (by show w.heap.size ≠ w.heap.size + 1; omega) (.pointer (some ⟨w2.heap.size, 0, none⟩))
      have kB4 := has_far kB3 (p := ⟨w.heap.size + 1, 0, none⟩) (by show w.heap.size + 1 + 1 ≠ w.heap.size + 1; omega) (.pointer (some ⟨w2.heap.size, 0, none⟩))
      have kT4 := has_far kT (p := ⟨w.heap.size + 1, 0, none⟩) (by show w2.heap.size ≠ w.heap.size + 1; omega) (.pointer (some ⟨w2.heap.size, 0, none⟩))
      have kP4 := has_set kP3 0 (.pointer (some ⟨w2.heap.size, 0, none⟩))
      simp only [List.setIfInBounds_toArray, List.set_cons_zero] at kP4
      have hT2 : TL w2 (w.heap.size + 3) p gs (trs x.F pre) := (HT.out.kept (w' := W.drew) fun g _ cs hh => hh).call hb
      have hT4 : TL (w3.setCell ⟨w.heap.size + 1, 0, none⟩ (.pointer (some ⟨w2.heap.size, 0, none⟩))) (w.heap.size + 3) p gs (trs x.F pre) := (hT2.call b3).far (by show w.heap.size + 1 < _; omega) _
      have hni : w2.heap.size ∉ gs := fun hm => by have := (hT2.lt _ hm).2; omega
      refine hK9.out _ _ ⟨has_cell bX4 0 rfl, has_cell bX4 1 rfl, has_cell bX4 2 rfl, has_cell bX4 3 rfl, has_cell kA4 1 rfl⟩ (fun _ => wpAnyH_done (by kernel_rfl) ?_ _)
      refine ⟨((((KeepsOthers.drew W).trans (ko_below hb)).trans (ko_below b3)).trans (KeepsOthers.setCell _ _ _)).from _, ⟨bW3.setCell (p := ⟨w.heap.size + 1, 0, none⟩) (by show w.heap.size ≤ w.heap.size + 1; omega) _, (has_cell kB4 0 rfl).trans (has_cell KB.out 0 rfl).symm⟩, ⟨⟨kA4, kB4⟩, some ⟨w2.heap.size, 0, none⟩, w2.heap.size :: gs, kP4, ?_⟩, (HBL.out.trans bW3).setCell (p := ⟨w.heap.size + 1, 0, none⟩) (by show w.heap.size ≤ w.heap.size + 1; omega) _⟩
      rw [trs_snoc]
      exact ⟨rfl, by omega, hni, p, kT4, hT4⟩
  case done =>
    rintro D zs W hD rfl ⟨⟨⟨kA, kB⟩, p, gs, kP, hT⟩, hBl⟩ hK
    have p0 := has_cell kP 0 rfl
    gi_wp2
    refine ⟨by simp, .inl ⟨_, _, rfl, run_takeDeferred hK, ?_⟩⟩
    refine ⟨_, results_tmp rfl _ _ _, p, gs, rfl, ?_, hBl.trans (belowK_b (w := w) (Nat.le_refl _) W D _ _ (by omega) hK rfl rfl)⟩
    rw [trs_all] at hT
    exact (hT.own (grownBy_putObj' W D (.deferred none)) (fun r e => by cases e; exact ⟨_, hK, rfl⟩)).more (by omega)
  case stop =>
    rintro D c pre W _ _ h _
    exact h.elim
end Go.Proofs.Ythmoonjceokijaa
