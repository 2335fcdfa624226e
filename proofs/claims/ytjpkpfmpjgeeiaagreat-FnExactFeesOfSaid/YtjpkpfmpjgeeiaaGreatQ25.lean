
/- Chapter 9: an argument of type Network reads as a network (gen_nto.py). -/
import Derived.Test.YtjpkpfmpjgeeiaaGreatQ22
import Derived.Test.YtjpkpfmpjgeeiaaGreatQ23
import Derived.Test.YtjpkpfmpjgeeiaaGreatQ24
namespace Go.Proofs.YtjpkpfmpjgeeiaaGreat
open Go.RowKit Go.ChangeShapes Go.WideShapes Go.Deep Go.Joins
set_option linter.unusedVariables false
set_option maxRecDepth 100000

theorem list11_n {cs : List Value} (h : cs.length = 11) : ∃ v0 v1 v2 v3 v4 v5 v6 v7 v8 v9 v10, cs = [v0, v1, v2, v3, v4, v5, v6, v7, v8, v9, v10] := by
  rcases cs with _ | ⟨v0, cs⟩
  · simp at h
  simp only [List.length_cons, Nat.add_right_cancel_iff] at h
  rcases cs with _ | ⟨v1, cs⟩
  · simp at h
  simp only [List.length_cons, Nat.add_right_cancel_iff] at h
  rcases cs with _ | ⟨v2, cs⟩
  · simp at h
  simp only [List.length_cons, Nat.add_right_cancel_iff] at h
  rcases cs with _ | ⟨v3, cs⟩
  · simp at h
  simp only [List.length_cons, Nat.add_right_cancel_iff] at h
  rcases cs with _ | ⟨v4, cs⟩
  · simp at h
  simp only [List.length_cons, Nat.add_right_cancel_iff] at h
  rcases cs with _ | ⟨v5, cs⟩
  · simp at h
  simp only [List.length_cons, Nat.add_right_cancel_iff] at h
  rcases cs with _ | ⟨v6, cs⟩
  · simp at h
  simp only [List.length_cons, Nat.add_right_cancel_iff] at h
  rcases cs with _ | ⟨v7, cs⟩
  · simp at h
  simp only [List.length_cons, Nat.add_right_cancel_iff] at h
  rcases cs with _ | ⟨v8, cs⟩
  · simp at h
  simp only [List.length_cons, Nat.add_right_cancel_iff] at h
  rcases cs with _ | ⟨v9, cs⟩
  · simp at h
  simp only [List.length_cons, Nat.add_right_cancel_iff] at h
  rcases cs with _ | ⟨v10, cs⟩
  · simp at h
  rcases cs with _ | ⟨z, cs⟩
  · exact ⟨v0, v1, v2, v3, v4, v5, v6, v7, v8, v9, v10, rfl⟩
  · simp at h
theorem list13_n {cs : List Value} (h : cs.length = 13) : ∃ v0 v1 v2 v3 v4 v5 v6 v7 v8 v9 v10 v11 v12, cs = [v0, v1, v2, v3, v4, v5, v6, v7, v8, v9, v10, v11, v12] := by
  rcases cs with _ | ⟨v0, cs⟩
  · simp at h
  simp only [List.length_cons, Nat.add_right_cancel_iff] at h
  rcases cs with _ | ⟨v1, cs⟩
  · simp at h
  simp only [List.length_cons, Nat.add_right_cancel_iff] at h
  rcases cs with _ | ⟨v2, cs⟩
  · simp at h
  simp only [List.length_cons, Nat.add_right_cancel_iff] at h
  rcases cs with _ | ⟨v3, cs⟩
  · simp at h
  simp only [List.length_cons, Nat.add_right_cancel_iff] at h
  rcases cs with _ | ⟨v4, cs⟩
  · simp at h
  simp only [List.length_cons, Nat.add_right_cancel_iff] at h
  rcases cs with _ | ⟨v5, cs⟩
  · simp at h
  simp only [List.length_cons, Nat.add_right_cancel_iff] at h
  rcases cs with _ | ⟨v6, cs⟩
  · simp at h
  simp only [List.length_cons, Nat.add_right_cancel_iff] at h
  rcases cs with _ | ⟨v7, cs⟩
  · simp at h
  simp only [List.length_cons, Nat.add_right_cancel_iff] at h
  rcases cs with _ | ⟨v8, cs⟩
  · simp at h
  simp only [List.length_cons, Nat.add_right_cancel_iff] at h
  rcases cs with _ | ⟨v9, cs⟩
  · simp at h
  simp only [List.length_cons, Nat.add_right_cancel_iff] at h
  rcases cs with _ | ⟨v10, cs⟩
  · simp at h
  simp only [List.length_cons, Nat.add_right_cancel_iff] at h
  rcases cs with _ | ⟨v11, cs⟩
  · simp at h
  simp only [List.length_cons, Nat.add_right_cancel_iff] at h
  rcases cs with _ | ⟨v12, cs⟩
  · simp at h
  rcases cs with _ | ⟨z, cs⟩
  · exact ⟨v0, v1, v2, v3, v4, v5, v6, v7, v8, v9, v10, v11, v12, rfl⟩
  · simp at h
theorem list15_n {cs : List Value} (h : cs.length = 15) : ∃ v0 v1 v2 v3 v4 v5 v6 v7 v8 v9 v10 v11 v12 v13 v14, cs = [v0, v1, v2, v3, v4, v5, v6, v7, v8, v9, v10, v11, v12, v13, v14] := by
  rcases cs with _ | ⟨v0, cs⟩
  · simp at h
  simp only [List.length_cons, Nat.add_right_cancel_iff] at h
  rcases cs with _ | ⟨v1, cs⟩
  · simp at h
  simp only [List.length_cons, Nat.add_right_cancel_iff] at h
  rcases cs with _ | ⟨v2, cs⟩
  · simp at h
  simp only [List.length_cons, Nat.add_right_cancel_iff] at h
  rcases cs with _ | ⟨v3, cs⟩
  · simp at h
  simp only [List.length_cons, Nat.add_right_cancel_iff] at h
  rcases cs with _ | ⟨v4, cs⟩
  · simp at h
  simp only [List.length_cons, Nat.add_right_cancel_iff] at h
  rcases cs with _ | ⟨v5, cs⟩
  · simp at h
  simp only [List.length_cons, Nat.add_right_cancel_iff] at h
  rcases cs with _ | ⟨v6, cs⟩
  · simp at h
  simp only [List.length_cons, Nat.add_right_cancel_iff] at h
  rcases cs with _ | ⟨v7, cs⟩
  · simp at h
  simp only [List.length_cons, Nat.add_right_cancel_iff] at h
  rcases cs with _ | ⟨v8, cs⟩
  · simp at h
  simp only [List.length_cons, Nat.add_right_cancel_iff] at h
  rcases cs with _ | ⟨v9, cs⟩
  · simp at h
  simp only [List.length_cons, Nat.add_right_cancel_iff] at h
  rcases cs with _ | ⟨v10, cs⟩
  · simp at h
  simp only [List.length_cons, Nat.add_right_cancel_iff] at h
  rcases cs with _ | ⟨v11, cs⟩
  · simp at h
  simp only [List.length_cons, Nat.add_right_cancel_iff] at h
  rcases cs with _ | ⟨v12, cs⟩
  · simp at h
  simp only [List.length_cons, Nat.add_right_cancel_iff] at h
  rcases cs with _ | ⟨v13, cs⟩
  · simp at h
  simp only [List.length_cons, Nat.add_right_cancel_iff] at h
  rcases cs with _ | ⟨v14, cs⟩
  · simp at h
  rcases cs with _ | ⟨z, cs⟩
  · exact ⟨v0, v1, v2, v3, v4, v5, v6, v7, v8, v9, v10, v11, v12, v13, v14, rfl⟩
  · simp at h
section
variable {H : Type} {enc : TypeId × Value → H} {w : World} {base : Nat} {spare : Nat → Bool} {held : Bool}
theorem fieldW {e : TypeId} {fs : Array Field} {n : Nat} {cs : List Value} {x : DataW H × List MemPlace} (he : Tryz.prog.underlying e = some (.struct fs)) (h : DataW.trod enc Tryz.prog w base spare held n e cs = some x) (j : Nat) (f : Field) (hj : fs[j]? = some f) (t : TypeId) (o k : Nat) (ht : f.type = t) (ho : f.offset = o) (hk : Tryz.prog.cellsOf t = k) (sub : List Value) (hs : (cs.drop o).take k = sub) :
    ∃ y n', DataW.trod enc Tryz.prog w base spare held n' t sub = some y := by
  obtain ⟨ys, n', _, _, hlen, hyl, hf⟩ := DataW.trod_struct he h
  have hjl : j < fs.size := (Array.getElem?_eq_some_iff.1 hj).1
  have h1 := hf j f hj
  have hys : ys[j]? = some (ys[j]'(by omega)) := List.getElem?_eq_getElem (by omega)
  subst ht ho hk hs
  exact ⟨_, n', h1.trans hys⟩
theorem open_sitE {n : Nat} {v0 v1 v2 v3 v4 v5 v6 v7 v8 v9 v10 : Value} {x : DataW H × List MemPlace} (h : DataW.trod enc Tryz.prog w base spare held n 75 [v0, v1, v2, v3, v4, v5, v6, v7, v8, v9, v10] = some x) :
    ∃ y : Sit, (v0 = .slice y.A1 y.o.length y.c1 ∧ v1 = .slice y.A2 y.q.length y.c2 ∧ v2 = .slice y.AB y.bk.length y.cB ∧ v3 = .int .i64 y.dk ∧ v4 = .int .i64 y.ds ∧ v5 = .bool y.dl ∧ v6 = .bool y.dp ∧ v7 = .bool y.df ∧ v8 = .int .i64 y.par ∧ v9 = .int .i64 y.who ∧ v10 = .slice y.AJ y.jr.length y.cJ) ∧ SitV w w.heap.size y := by
  obtain ⟨ya, na, ta⟩ := fieldW Tryz.underlying75 h 0 _ rfl 70 0 2 rfl rfl (by kernel_rfl) [v0, v1] rfl
  obtain ⟨yb, nb, tb⟩ := fieldW Tryz.underlying70 ta 0 _ rfl 68 0 1 rfl rfl (by kernel_rfl) [v0] rfl
  obtain ⟨A1, c1, ol, e1, l1, S1⟩ := open_pairs Tryz.underlying68 Tryz.underlying171 (by kernel_rfl) (by kernel_rfl) Tryz.underlying3 Tryz.underlying3 tb
  obtain ⟨yc, nc, tc⟩ := fieldW Tryz.underlying70 ta 1 _ rfl 68 1 1 rfl rfl (by kernel_rfl) [v1] rfl
  obtain ⟨A2, c2, ql, e2, l2, S2⟩ := open_pairs Tryz.underlying68 Tryz.underlying171 (by kernel_rfl) (by kernel_rfl) Tryz.underlying3 Tryz.underlying3 tc
  obtain ⟨yd, nd, td⟩ := fieldW Tryz.underlying75 h 1 _ rfl 71 2 1 rfl rfl (by kernel_rfl) [v2] rfl
  obtain ⟨AB, cB, bk, e3, l3, S3, V3⟩ := open_bank Tryz.underlying71 Tryz.underlying148 (by kernel_rfl) (by kernel_rfl) Tryz.underlying3 rfl rfl Tryz.underlying108 Tryz.underlying3 (by kernel_rfl) Tryz.underlying146 Tryz.underlying194 (by kernel_rfl) (by kernel_rfl) Tryz.underlying3 Tryz.underlying3 Tryz.underlying3 Tryz.underlying4 td
  obtain ⟨ye, ne, te⟩ := fieldW Tryz.underlying75 h 2 _ rfl 73 3 5 rfl rfl (by kernel_rfl) [v3, v4, v5, v6, v7] rfl
  obtain ⟨ydk, ndk, tdk⟩ := fieldW Tryz.underlying73 te 0 _ rfl 3 0 1 rfl rfl (by kernel_rfl) [v3] rfl
  obtain ⟨dk, edk, _⟩ := DataW.trod_int Tryz.underlying3 tdk
  have edk : v3 = .int .i64 dk := by injection edk
  obtain ⟨yds, nds, tds⟩ := fieldW Tryz.underlying73 te 1 _ rfl 3 1 1 rfl rfl (by kernel_rfl) [v4] rfl
  obtain ⟨ds, eds, _⟩ := DataW.trod_int Tryz.underlying3 tds
  have eds : v4 = .int .i64 ds := by injection eds
  obtain ⟨ydl, ndl, tdl⟩ := fieldW Tryz.underlying73 te 2 _ rfl 4 2 1 rfl rfl (by kernel_rfl) [v5] rfl
  obtain ⟨dl, edl, _⟩ := DataW.trod_bool Tryz.underlying4 tdl
  have edl : v5 = .bool dl := by injection edl
  obtain ⟨ydp, ndp, tdp⟩ := fieldW Tryz.underlying73 te 3 _ rfl 4 3 1 rfl rfl (by kernel_rfl) [v6] rfl
  obtain ⟨dp, edp, _⟩ := DataW.trod_bool Tryz.underlying4 tdp
  have edp : v6 = .bool dp := by injection edp
  obtain ⟨ydf, ndf, tdf⟩ := fieldW Tryz.underlying73 te 4 _ rfl 4 4 1 rfl rfl (by kernel_rfl) [v7] rfl
  obtain ⟨df, edf, _⟩ := DataW.trod_bool Tryz.underlying4 tdf
  have edf : v7 = .bool df := by injection edf
  obtain ⟨ypar, npar, tpar⟩ := fieldW Tryz.underlying75 h 3 _ rfl 3 8 1 rfl rfl (by kernel_rfl) [v8] rfl
  obtain ⟨par, epar, _⟩ := DataW.trod_int Tryz.underlying3 tpar
  have epar : v8 = .int .i64 par := by injection epar
  obtain ⟨ywho, nwho, twho⟩ := fieldW Tryz.underlying75 h 4 _ rfl 3 9 1 rfl rfl (by kernel_rfl) [v9] rfl
  obtain ⟨who, ewho, _⟩ := DataW.trod_int Tryz.underlying3 twho
  have ewho : v9 = .int .i64 who := by injection ewho
  obtain ⟨yj, nj, tj⟩ := fieldW Tryz.underlying75 h 5 _ rfl 27 10 1 rfl rfl (by kernel_rfl) [v10] rfl
  obtain ⟨AJ, cJ, jr, e4, l4, S4⟩ := open_evC Tryz.underlying27 Tryz.underlying101 (by kernel_rfl) (by kernel_rfl) Tryz.underlying3 Tryz.underlying3 Tryz.underlying3 Tryz.underlying3 Tryz.underlying3 Tryz.underlying3 Tryz.underlying3 tj
  have e1 : v0 = .slice A1 ol.length c1 := by injection e1
  have e2 : v1 = .slice A2 ql.length c2 := by injection e2
  have e3 : v2 = .slice AB bk.length cB := by injection e3
  have e4 : v10 = .slice AJ jr.length cJ := by injection e4
  exact ⟨⟨A1, ol, c1, A2, ql, c2, AB, bk, cB, dk, ds, dl, dp, df, par, who, AJ, jr, cJ⟩, ⟨e1, e2, e3, edk, eds, edl, edp, edf, epar, ewho, e4⟩, ⟨S1, S2, S3, V3, S4, l1, l2, l3, l4⟩⟩
theorem open_sites {fuel : Nat} {cs : List Value} {x : DataW H × List MemPlace} (h : DataW.trod enc Tryz.prog w base spare held fuel 24 cs = some x) :
    ∃ (A : Option Addr) (c : Nat) (l : List Sit), cs = [.slice A l.length c] ∧ l.length ≤ maxLen ∧ SIL w w.heap.size A l ∧ ∀ y ∈ l, SitV w w.heap.size y := by
  rcases open_slice Tryz.underlying24 h with ⟨rfl, _⟩ | ⟨a, len, cap, m, n, D, Pl, rfl, hb, hl, hm, hmm, _, hx⟩
  · exact ⟨none, 0, [], rfl, Nat.zero_le _, .inl rfl, fun y hy => by cases hy⟩
  · have hlm : len ≤ m := by rw [hmm]; split <;> omega
    have hel : ∀ i, i < len → ∃ y : Sit, (w.cell? (a.add (i * 11)) = some (.slice y.A1 y.o.length y.c1) ∧ w.cell? (a.add (i * 11 + 1)) = some (.slice y.A2 y.q.length y.c2) ∧ w.cell? (a.add (i * 11 + 2)) = some (.slice y.AB y.bk.length y.cB) ∧ w.cell? (a.add (i * 11 + 3)) = some (.int .i64 y.dk) ∧ w.cell? (a.add (i * 11 + 4)) = some (.int .i64 y.ds) ∧ w.cell? (a.add (i * 11 + 5)) = some (.bool y.dl) ∧ w.cell? (a.add (i * 11 + 6)) = some (.bool y.dp) ∧ w.cell? (a.add (i * 11 + 7)) = some (.bool y.df) ∧ w.cell? (a.add (i * 11 + 8)) = some (.int .i64 y.par) ∧ w.cell? (a.add (i * 11 + 9)) = some (.int .i64 y.who) ∧ w.cell? (a.add (i * 11 + 10)) = some (.slice y.AJ y.jr.length y.cJ)) ∧ SitV w w.heap.size y := by
      intro i hi
      obtain ⟨cs', hcs, htr⟩ := hx i (by omega)
      have hC : Tryz.prog.cellsOf 75 = 11 := (by kernel_rfl)
      rw [hC] at hcs
      obtain ⟨_, hcl, hat⟩ := World.cells?_some hcs
      obtain ⟨v0, v1, v2, v3, v4, v5, v6, v7, v8, v9, v10, rfl⟩ := list11_n hcl
      obtain ⟨y, ⟨q0, q1, q2, q3, q4, q5, q6, q7, q8, q9, q10⟩, hv⟩ := open_sitE htr
      have a0 := hat 0 (by omega)
      have a1 := hat 1 (by omega)
      have a2 := hat 2 (by omega)
      have a3 := hat 3 (by omega)
      have a4 := hat 4 (by omega)
      have a5 := hat 5 (by omega)
      have a6 := hat 6 (by omega)
      have a7 := hat 7 (by omega)
      have a8 := hat 8 (by omega)
      have a9 := hat 9 (by omega)
      have a10 := hat 10 (by omega)
      rw [Addr.add_add] at a0 a1 a2 a3 a4 a5 a6 a7 a8 a9 a10
      rw [Nat.add_zero] at a0
      exact ⟨y, ⟨a0.trans (congrArg some q0), a1.trans (congrArg some q1), a2.trans (congrArg some q2), a3.trans (congrArg some q3), a4.trans (congrArg some q4), a5.trans (congrArg some q5), a6.trans (congrArg some q6), a7.trans (congrArg some q7), a8.trans (congrArg some q8), a9.trans (congrArg some q9), a10.trans (congrArg some q10)⟩, hv⟩
    obtain ⟨l, hll, hp⟩ := list_ofC _ len hel
    refine ⟨some a, cap, l, by rw [hll], by omega, ?_, fun y hy => by
      obtain ⟨i, hi⟩ := List.getElem?_of_mem hy
      exact (hp i y hi).2⟩
    rcases l with _ | ⟨y, l'⟩
    · exact .inl rfl
    · have hfirst := (hp 0 y rfl).1.1
      have hblk : a.block < w.heap.size := by have := cell_ltC hfirst; rwa [add_blockC] at this
      have hsp : a.spot = none := by simpa [Addr.add] using World.cell?_spot hfirst
      obtain ⟨b, off, sp⟩ := a
      simp only at hsp
      subst hsp
      refine .inr ⟨b, off, rfl, hblk, fun k x hk => ?_⟩
      have := (hp k x hk).1
      rw [add_offC, add_offC, add_offC, add_offC, add_offC, add_offC, add_offC, add_offC, add_offC, add_offC, add_offC] at this
      exact this
theorem open_pcE {n : Nat} {v0 v1 v2 v3 v4 v5 v6 v7 v8 v9 v10 v11 v12 : Value} {x : DataW H × List MemPlace} (h : DataW.trod enc Tryz.prog w base spare held n 93 [v0, v1, v2, v3, v4, v5, v6, v7, v8, v9, v10, v11, v12] = some x) :
    ∃ y : Pc, v0 = .int .i64 y.size ∧ v1 = .int .i64 y.owner ∧ v2 = .int .i64 y.site ∧ v3 = .int .i64 y.stage ∧ v4 = .int .i64 y.since ∧ v5 = .int .i64 y.ext ∧ v6 = .int .i64 y.ls ∧ v7 = .int .i64 y.ln ∧ v8 = .int .i64 y.lt ∧ v9 = .int .i64 y.lp ∧ v10 = .int .i64 y.lu ∧ v11 = .int .i64 y.who ∧ v12 = .int .i64 y.fee := by
  obtain ⟨yz0, nz0, tz0⟩ := fieldW Tryz.underlying93 h 0 _ rfl 3 0 1 rfl rfl (by kernel_rfl) [v0] rfl
  obtain ⟨z0, ez0, _⟩ := DataW.trod_int Tryz.underlying3 tz0
  have ez0 : v0 = .int .i64 z0 := by injection ez0
  obtain ⟨yz1, nz1, tz1⟩ := fieldW Tryz.underlying93 h 1 _ rfl 3 1 1 rfl rfl (by kernel_rfl) [v1] rfl
  obtain ⟨z1, ez1, _⟩ := DataW.trod_int Tryz.underlying3 tz1
  have ez1 : v1 = .int .i64 z1 := by injection ez1
  obtain ⟨yz2, nz2, tz2⟩ := fieldW Tryz.underlying93 h 2 _ rfl 3 2 1 rfl rfl (by kernel_rfl) [v2] rfl
  obtain ⟨z2, ez2, _⟩ := DataW.trod_int Tryz.underlying3 tz2
  have ez2 : v2 = .int .i64 z2 := by injection ez2
  obtain ⟨yz3, nz3, tz3⟩ := fieldW Tryz.underlying93 h 3 _ rfl 3 3 1 rfl rfl (by kernel_rfl) [v3] rfl
  obtain ⟨z3, ez3, _⟩ := DataW.trod_int Tryz.underlying3 tz3
  have ez3 : v3 = .int .i64 z3 := by injection ez3
  obtain ⟨yz4, nz4, tz4⟩ := fieldW Tryz.underlying93 h 4 _ rfl 3 4 1 rfl rfl (by kernel_rfl) [v4] rfl
  obtain ⟨z4, ez4, _⟩ := DataW.trod_int Tryz.underlying3 tz4
  have ez4 : v4 = .int .i64 z4 := by injection ez4
  obtain ⟨yz5, nz5, tz5⟩ := fieldW Tryz.underlying93 h 5 _ rfl 3 5 1 rfl rfl (by kernel_rfl) [v5] rfl
  obtain ⟨z5, ez5, _⟩ := DataW.trod_int Tryz.underlying3 tz5
  have ez5 : v5 = .int .i64 z5 := by injection ez5
  obtain ⟨yk, nk, tk⟩ := fieldW Tryz.underlying93 h 6 _ rfl 91 6 5 rfl rfl (by kernel_rfl) [v6, v7, v8, v9, v10] rfl
  obtain ⟨yz6, nz6, tz6⟩ := fieldW Tryz.underlying91 tk 0 _ rfl 3 0 1 rfl rfl (by kernel_rfl) [v6] rfl
  obtain ⟨z6, ez6, _⟩ := DataW.trod_int Tryz.underlying3 tz6
  have ez6 : v6 = .int .i64 z6 := by injection ez6
  obtain ⟨yz7, nz7, tz7⟩ := fieldW Tryz.underlying91 tk 1 _ rfl 3 1 1 rfl rfl (by kernel_rfl) [v7] rfl
  obtain ⟨z7, ez7, _⟩ := DataW.trod_int Tryz.underlying3 tz7
  have ez7 : v7 = .int .i64 z7 := by injection ez7
  obtain ⟨yz8, nz8, tz8⟩ := fieldW Tryz.underlying91 tk 2 _ rfl 3 2 1 rfl rfl (by kernel_rfl) [v8] rfl
  obtain ⟨z8, ez8, _⟩ := DataW.trod_int Tryz.underlying3 tz8
  have ez8 : v8 = .int .i64 z8 := by injection ez8
  obtain ⟨yz9, nz9, tz9⟩ := fieldW Tryz.underlying91 tk 3 _ rfl 3 3 1 rfl rfl (by kernel_rfl) [v9] rfl
  obtain ⟨z9, ez9, _⟩ := DataW.trod_int Tryz.underlying3 tz9
  have ez9 : v9 = .int .i64 z9 := by injection ez9
  obtain ⟨yz10, nz10, tz10⟩ := fieldW Tryz.underlying91 tk 4 _ rfl 3 4 1 rfl rfl (by kernel_rfl) [v10] rfl
  obtain ⟨z10, ez10, _⟩ := DataW.trod_int Tryz.underlying3 tz10
  have ez10 : v10 = .int .i64 z10 := by injection ez10
  obtain ⟨yz11, nz11, tz11⟩ := fieldW Tryz.underlying93 h 7 _ rfl 3 11 1 rfl rfl (by kernel_rfl) [v11] rfl
  obtain ⟨z11, ez11, _⟩ := DataW.trod_int Tryz.underlying3 tz11
  have ez11 : v11 = .int .i64 z11 := by injection ez11
  obtain ⟨yz12, nz12, tz12⟩ := fieldW Tryz.underlying93 h 8 _ rfl 3 12 1 rfl rfl (by kernel_rfl) [v12] rfl
  obtain ⟨z12, ez12, _⟩ := DataW.trod_int Tryz.underlying3 tz12
  have ez12 : v12 = .int .i64 z12 := by injection ez12
  exact ⟨⟨z0, z1, z2, z3, z4, z5, z6, z7, z8, z9, z10, z11, z12⟩, ez0, ez1, ez2, ez3, ez4, ez5, ez6, ez7, ez8, ez9, ez10, ez11, ez12⟩
theorem open_pcs {fuel : Nat} {cs : List Value} {x : DataW H × List MemPlace} (h : DataW.trod enc Tryz.prog w base spare held fuel 25 cs = some x) :
    ∃ (A : Option Addr) (c : Nat) (l : List Pc), cs = [.slice A l.length c] ∧ l.length ≤ maxLen ∧ pcL w w.heap.size A l := by
  rcases open_slice Tryz.underlying25 h with ⟨rfl, _⟩ | ⟨a, len, cap, m, n, D, Pl, rfl, hb, hl, hm, hmm, _, hx⟩
  · exact ⟨none, 0, [], rfl, Nat.zero_le _, .inl rfl⟩
  · have hlm : len ≤ m := by rw [hmm]; split <;> omega
    have hel : ∀ i, i < len → ∃ y : Pc, (w.cell? (a.add (i * 13)) = some (.int .i64 y.size) ∧ w.cell? (a.add (i * 13 + 1)) = some (.int .i64 y.owner) ∧ w.cell? (a.add (i * 13 + 2)) = some (.int .i64 y.site) ∧ w.cell? (a.add (i * 13 + 3)) = some (.int .i64 y.stage) ∧ w.cell? (a.add (i * 13 + 4)) = some (.int .i64 y.since) ∧ w.cell? (a.add (i * 13 + 5)) = some (.int .i64 y.ext) ∧ w.cell? (a.add (i * 13 + 6)) = some (.int .i64 y.ls) ∧ w.cell? (a.add (i * 13 + 7)) = some (.int .i64 y.ln) ∧ w.cell? (a.add (i * 13 + 8)) = some (.int .i64 y.lt) ∧ w.cell? (a.add (i * 13 + 9)) = some (.int .i64 y.lp) ∧ w.cell? (a.add (i * 13 + 10)) = some (.int .i64 y.lu) ∧ w.cell? (a.add (i * 13 + 11)) = some (.int .i64 y.who) ∧ w.cell? (a.add (i * 13 + 12)) = some (.int .i64 y.fee)) := by
      intro i hi
      obtain ⟨cs', hcs, htr⟩ := hx i (by omega)
      have hC : Tryz.prog.cellsOf 93 = 13 := (by kernel_rfl)
      rw [hC] at hcs
      obtain ⟨_, hcl, hat⟩ := World.cells?_some hcs
      obtain ⟨v0, v1, v2, v3, v4, v5, v6, v7, v8, v9, v10, v11, v12, rfl⟩ := list13_n hcl
      obtain ⟨y, q0, q1, q2, q3, q4, q5, q6, q7, q8, q9, q10, q11, q12⟩ := open_pcE htr
      have a0 := hat 0 (by omega)
      have a1 := hat 1 (by omega)
      have a2 := hat 2 (by omega)
      have a3 := hat 3 (by omega)
      have a4 := hat 4 (by omega)
      have a5 := hat 5 (by omega)
      have a6 := hat 6 (by omega)
      have a7 := hat 7 (by omega)
      have a8 := hat 8 (by omega)
      have a9 := hat 9 (by omega)
      have a10 := hat 10 (by omega)
      have a11 := hat 11 (by omega)
      have a12 := hat 12 (by omega)
      rw [Addr.add_add] at a0 a1 a2 a3 a4 a5 a6 a7 a8 a9 a10 a11 a12
      rw [Nat.add_zero] at a0
      exact ⟨y, a0.trans (congrArg some q0), a1.trans (congrArg some q1), a2.trans (congrArg some q2), a3.trans (congrArg some q3), a4.trans (congrArg some q4), a5.trans (congrArg some q5), a6.trans (congrArg some q6), a7.trans (congrArg some q7), a8.trans (congrArg some q8), a9.trans (congrArg some q9), a10.trans (congrArg some q10), a11.trans (congrArg some q11), a12.trans (congrArg some q12)⟩
    obtain ⟨l, hll, hp⟩ := list_ofC _ len hel
    refine ⟨some a, cap, l, by rw [hll], by omega, ?_⟩
    rcases l with _ | ⟨y, l'⟩
    · exact .inl rfl
    · have hfirst := (hp 0 y rfl).1
      have hblk : a.block < w.heap.size := by have := cell_ltC hfirst; rwa [add_blockC] at this
      have hsp : a.spot = none := by simpa [Addr.add] using World.cell?_spot hfirst
      obtain ⟨b, off, sp⟩ := a
      simp only at hsp
      subst hsp
      refine .inr ⟨b, off, rfl, hblk, fun k x hk => ?_⟩
      have := (hp k x hk)
      rw [add_offC, add_offC, add_offC, add_offC, add_offC, add_offC, add_offC, add_offC, add_offC, add_offC, add_offC, add_offC, add_offC] at this
      exact this
theorem open_net_arg {r : Reach} {b0 : Nat} {v : Value} {d : DataW H} {p : List MemPlace} (hv : Value.okWide Tryz.prog w r b0 29 v) (h : DataW.Trod enc Tryz.prog w base spare held 29 v d p) :
    ∃ x : Net, v = .agg #[.int .i64 x.tm.keep, .int .i64 x.tm.free, .int .i64 x.tm.step, .int .i64 x.tm.rate, .int .i64 x.tm.cap, .int .i64 x.tm.longer, .int .i64 x.tm.price, .int .i64 x.tm.most, .int .i64 x.room, .int .i64 x.secret, .int .i64 x.now, .slice x.AS x.st.length x.cS, .slice x.AP x.pc.length x.cP, .slice x.AG x.gr.length x.cG, .slice x.AJ x.jr.length x.cJ] ∧ NetV w w.heap.size x := by
  obtain ⟨cs, rfl, hsz⟩ := okWide_struct Tryz.underlying29 hv
  have hC : Tryz.prog.cellsOf 29 = 15 := (by kernel_rfl)
  rw [hC] at hsz
  obtain ⟨fuel, hf0⟩ := h
  have h : DataW.trod enc Tryz.prog w base spare held fuel 29 cs.toList = some (d, p) := by simpa [Value.cells] using hf0
  obtain ⟨v0, v1, v2, v3, v4, v5, v6, v7, v8, v9, v10, v11, v12, v13, v14, hcs⟩ := list15_n (cs := cs.toList) (by simpa using hsz)
  have hcs2 : cs = #[v0, v1, v2, v3, v4, v5, v6, v7, v8, v9, v10, v11, v12, v13, v14] := by apply Array.toList_inj.1; rw [hcs]
  rw [hcs] at h
  obtain ⟨ya, na, ta⟩ := fieldW Tryz.underlying29 h 0 _ rfl 23 0 8 rfl rfl (by kernel_rfl) [v0, v1, v2, v3, v4, v5, v6, v7] rfl
  obtain ⟨yz0, nz0, tz0⟩ := fieldW Tryz.underlying23 ta 0 _ rfl 3 0 1 rfl rfl (by kernel_rfl) [v0] rfl
  obtain ⟨z0, ez0, _⟩ := DataW.trod_int Tryz.underlying3 tz0
  have ez0 : v0 = .int .i64 z0 := by injection ez0
  obtain ⟨yz1, nz1, tz1⟩ := fieldW Tryz.underlying23 ta 1 _ rfl 3 1 1 rfl rfl (by kernel_rfl) [v1] rfl
  obtain ⟨z1, ez1, _⟩ := DataW.trod_int Tryz.underlying3 tz1
  have ez1 : v1 = .int .i64 z1 := by injection ez1
  obtain ⟨yz2, nz2, tz2⟩ := fieldW Tryz.underlying23 ta 2 _ rfl 3 2 1 rfl rfl (by kernel_rfl) [v2] rfl
  obtain ⟨z2, ez2, _⟩ := DataW.trod_int Tryz.underlying3 tz2
  have ez2 : v2 = .int .i64 z2 := by injection ez2
  obtain ⟨yz3, nz3, tz3⟩ := fieldW Tryz.underlying23 ta 3 _ rfl 3 3 1 rfl rfl (by kernel_rfl) [v3] rfl
  obtain ⟨z3, ez3, _⟩ := DataW.trod_int Tryz.underlying3 tz3
  have ez3 : v3 = .int .i64 z3 := by injection ez3
  obtain ⟨yz4, nz4, tz4⟩ := fieldW Tryz.underlying23 ta 4 _ rfl 3 4 1 rfl rfl (by kernel_rfl) [v4] rfl
  obtain ⟨z4, ez4, _⟩ := DataW.trod_int Tryz.underlying3 tz4
  have ez4 : v4 = .int .i64 z4 := by injection ez4
  obtain ⟨yz5, nz5, tz5⟩ := fieldW Tryz.underlying23 ta 5 _ rfl 3 5 1 rfl rfl (by kernel_rfl) [v5] rfl
  obtain ⟨z5, ez5, _⟩ := DataW.trod_int Tryz.underlying3 tz5
  have ez5 : v5 = .int .i64 z5 := by injection ez5
  obtain ⟨yz6, nz6, tz6⟩ := fieldW Tryz.underlying23 ta 6 _ rfl 3 6 1 rfl rfl (by kernel_rfl) [v6] rfl
  obtain ⟨z6, ez6, _⟩ := DataW.trod_int Tryz.underlying3 tz6
  have ez6 : v6 = .int .i64 z6 := by injection ez6
  obtain ⟨yz7, nz7, tz7⟩ := fieldW Tryz.underlying23 ta 7 _ rfl 3 7 1 rfl rfl (by kernel_rfl) [v7] rfl
  obtain ⟨z7, ez7, _⟩ := DataW.trod_int Tryz.underlying3 tz7
  have ez7 : v7 = .int .i64 z7 := by injection ez7
  obtain ⟨yroom, nroom, troom⟩ := fieldW Tryz.underlying29 h 1 _ rfl 3 8 1 rfl rfl (by kernel_rfl) [v8] rfl
  obtain ⟨room, eroom, _⟩ := DataW.trod_int Tryz.underlying3 troom
  have eroom : v8 = .int .i64 room := by injection eroom
  obtain ⟨ysecret, nsecret, tsecret⟩ := fieldW Tryz.underlying29 h 2 _ rfl 3 9 1 rfl rfl (by kernel_rfl) [v9] rfl
  obtain ⟨secret, esecret, _⟩ := DataW.trod_int Tryz.underlying3 tsecret
  have esecret : v9 = .int .i64 secret := by injection esecret
  obtain ⟨ynow, nnow, tnow⟩ := fieldW Tryz.underlying29 h 3 _ rfl 3 10 1 rfl rfl (by kernel_rfl) [v10] rfl
  obtain ⟨now, enow, _⟩ := DataW.trod_int Tryz.underlying3 tnow
  have enow : v10 = .int .i64 now := by injection enow
  obtain ⟨yb, nb, tb⟩ := fieldW Tryz.underlying29 h 4 _ rfl 24 11 1 rfl rfl (by kernel_rfl) [v11] rfl
  obtain ⟨AS, cS, st, e1, l1, S1, V1⟩ := open_sites tb
  obtain ⟨yc, nc, tc⟩ := fieldW Tryz.underlying29 h 5 _ rfl 25 12 1 rfl rfl (by kernel_rfl) [v12] rfl
  obtain ⟨AP, cP, pc, e2, l2, S2⟩ := open_pcs tc
  obtain ⟨yd, nd, td⟩ := fieldW Tryz.underlying29 h 6 _ rfl 26 13 1 rfl rfl (by kernel_rfl) [v13] rfl
  obtain ⟨AG, cG, gr, e3, l3, S3⟩ := open_grC Tryz.underlying26 Tryz.underlying97 (by kernel_rfl) (by kernel_rfl) Tryz.underlying3 Tryz.underlying3 Tryz.underlying3 Tryz.underlying3 Tryz.underlying3 Tryz.underlying3 Tryz.underlying4 td
  obtain ⟨ye, ne, te⟩ := fieldW Tryz.underlying29 h 7 _ rfl 27 14 1 rfl rfl (by kernel_rfl) [v14] rfl
  obtain ⟨AJ, cJ, jr, e4, l4, S4⟩ := open_evC Tryz.underlying27 Tryz.underlying101 (by kernel_rfl) (by kernel_rfl) Tryz.underlying3 Tryz.underlying3 Tryz.underlying3 Tryz.underlying3 Tryz.underlying3 Tryz.underlying3 Tryz.underlying3 te
  have e1 : v11 = .slice AS st.length cS := by injection e1
  have e2 : v12 = .slice AP pc.length cP := by injection e2
  have e3 : v13 = .slice AG gr.length cG := by injection e3
  have e4 : v14 = .slice AJ jr.length cJ := by injection e4
  subst ez0 ez1 ez2 ez3 ez4 ez5 ez6 ez7 eroom esecret enow e1 e2 e3 e4
  exact ⟨⟨⟨z0, z1, z2, z3, z4, z5, z6, z7⟩, room, secret, now, AS, st, cS, AP, pc, cP, AG, gr, cG, AJ, jr, cJ⟩, by rw [hcs2], ⟨S1, V1, S2, S3, S4, l1, l2, l3, l4⟩⟩
end
end Go.Proofs.YtjpkpfmpjgeeiaaGreat
