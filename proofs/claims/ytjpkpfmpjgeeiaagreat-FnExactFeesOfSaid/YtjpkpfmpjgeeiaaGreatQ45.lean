
/- Chapter 9: validity depends on the contents only: plain. -/
import Derived.Test.YtjpkpfmpjgeeiaaGreatQ30
namespace Go.Proofs.YtjpkpfmpjgeeiaaGreat
open Go.RowKit
set_option linter.unusedVariables false

theorem st_at {l l' : List Sit} (h : l'.map contS = l.map contS) (k : Nat) : (l'[k]?).map contS = (l[k]?).map contS := by
  rw [← List.getElem?_map, ← List.getElem?_map, h]
theorem st_in {l l' : List Sit} (h : l'.map contS = l.map contS) {k : Nat} {s : Sit} (hs : l'[k]? = some s) : ∃ t, l[k]? = some t ∧ contS s = contS t := by
  have h1 := st_at h k
  rw [hs] at h1
  cases e : l[k]? with
  | none => rw [e] at h1; cases h1
  | some t => rw [e] at h1; exact ⟨t, rfl, by simpa using h1⟩
theorem kindAt_cont {l l' : List Sit} (h : l'.map contS = l.map contS) (i : Int) : kindAt l' i = kindAt l i := by
  have h1 := st_at h i.toNat
  unfold kindAt
  revert h1
  generalize l'[i.toNat]? = a
  generalize l[i.toNat]? = b
  intro h1
  match a, b, h1 with
  | none, none, _ => rfl
  | none, some _, h1 => cases h1
  | some _, none, h1 => cases h1
  | some s, some t, h1 =>
    simp only [Option.map_some, Option.some.injEq, contS, Prod.mk.injEq] at h1
    exact h1.2.2.2.1.1
theorem parAt_cont {l l' : List Sit} (h : l'.map contS = l.map contS) (i : Int) : parAt l' i = parAt l i := by
  have h1 := st_at h i.toNat
  unfold parAt
  revert h1
  generalize l'[i.toNat]? = a
  generalize l[i.toNat]? = b
  intro h1
  match a, b, h1 with
  | none, none, _ => rfl
  | none, some _, h1 => cases h1
  | some _, none, h1 => cases h1
  | some s, some t, h1 =>
    simp only [Option.map_some, Option.some.injEq, contS, Prod.mk.injEq] at h1
    exact h1.2.2.2.2.1
theorem bankAt_cont {l l' : List Sit} (h : l'.map contS = l.map contS) (i : Int) : (bankAt l' i).map cont = (bankAt l i).map cont := by
  have h1 := st_at h i.toNat
  unfold bankAt
  revert h1
  generalize l'[i.toNat]? = a
  generalize l[i.toNat]? = b
  intro h1
  match a, b, h1 with
  | none, none, _ => rfl
  | none, some _, h1 => cases h1
  | some _, none, h1 => cases h1
  | some s, some t, h1 =>
    simp only [Option.map_some, Option.some.injEq, contS, Prod.mk.injEq] at h1
    exact h1.2.2.1
theorem unplB_cont {l l' : List Sit} (h : l'.map contS = l.map contS) (p : Pc) : unplB l' p = unplB l p := by
  unfold unplB; rw [kindAt_cont h]
theorem cl_in {l l' : List Cl} (h : l'.map cont = l.map cont) {c : Cl} (hc : c ∈ l') : ∃ d ∈ l, d.L = c.L := by
  have : cont c ∈ l.map cont := by rw [← h]; exact List.mem_map.2 ⟨c, hc, rfl⟩
  obtain ⟨d, hd, e⟩ := List.mem_map.1 this
  simp only [cont, Prod.mk.injEq] at e
  exact ⟨d, hd, e.2.2⟩
theorem stayB_cont {x y : Net} (h : contN y = contN x) (i : Nat) (p : Pc) : stayB y i p = stayB x i p := by
  simp only [contN, Prod.mk.injEq] at h
  obtain ⟨h1, ⟨h2, h3, h4⟩, h5, h6, h7, h8⟩ := h
  unfold stayB; rw [unplB_cont h5, h1, h3, h4]
theorem parB_cont {x y : Net} (h : contN y = contN x) (i : Nat) (p : Pc) : parB y i p = parB x i p := by
  have hs := stayB_cont h i p
  simp only [contN, Prod.mk.injEq] at h
  obtain ⟨h1, ⟨h2, h3, h4⟩, h5, h6, h7, h8⟩ := h
  unfold parB; rw [hs, parAt_cont h5, len_contS h5]
theorem SiteP_cont {P : List Pc} {k : Nat} {s t : Sit} (h : contS s = contS t) (hp : SiteP P k t) : SiteP P k s := by
  simp only [contS, Prod.mk.injEq] at h
  obtain ⟨h1, h2, h3, ⟨h4, h5, h6, h7, h8⟩, h9, h10, h11⟩ := h
  obtain ⟨p1, p2, p3, p4, p5⟩ := hp
  refine ⟨by rw [h1, h2]; exact p1, (bankP_cont h3).2 p2, by rw [h4, h5, h6, h7, h8]; exact p3, by rw [h11]; exact p4, ?_⟩
  unfold workB at p5 ⊢
  rw [h4, h5, h6, h7, h8, h9, h10]; exact p5
theorem NetP_imp {x y : Net} (h : contN y = contN x) (hp : NetP x) : NetP y := by
  have hpar := parB_cont h
  simp only [contN, Prod.mk.injEq] at h
  obtain ⟨h1, ⟨h2, h3, h4⟩, h5, h6, h7, h8⟩ := h
  refine ⟨?_, ?_, ?_, ?_, ?_, ?_⟩
  · have := hp.frame
    unfold frameB at this ⊢
    rw [h1, h2, h3, h4, h6, h7, h8, len_contS h5]; exact this
  · intro k s hs
    obtain ⟨t, ht, e⟩ := st_in h5 hs
    rw [h6]; exact SiteP_cont e (hp.sites k t ht)
  · intro i p hi
    rw [hpar]; rw [h6] at hi; exact hp.pars i p hi
  · intro k s hs c hc b hb h0
    obtain ⟨t, ht, e⟩ := st_in h5 hs
    simp only [contS, Prod.mk.injEq] at e
    obtain ⟨d, hd, hL⟩ := cl_in e.2.2.1 hc
    rw [h6]; exact hp.boxes k t ht d hd b (by rw [hL]; exact hb) h0
  · intro i p hi hk
    rw [h6] at hi
    have := hp.kept i p hi hk
    obtain ⟨c, hc, b, hb, e⟩ := kept_has.1 this
    obtain ⟨d, hd, hL⟩ := cl_in (bankAt_cont h5 p.site).symm hc
    exact kept_has.2 ⟨d, hd, b, by rw [hL]; exact hb, e⟩
  · have := hp.load
    have hl : loadL y.st y.pc = loadL x.st x.pc := by
      unfold loadL; rw [h6]; congr 1
      exact List.map_congr_left fun p _ => by rw [unplB_cont h5]
    rw [hl, h2]; exact this
theorem NetP_cont {x y : Net} (h : contN y = contN x) : NetP y ↔ NetP x := ⟨NetP_imp h.symm, NetP_imp h⟩
open Classical in
noncomputable def netB (x : Net) : Bool := if NetP x then true else false
theorem netB_iff {x : Net} : netB x = true ↔ NetP x := by
  unfold netB
  by_cases h : NetP x <;> simp [h]
theorem netB_cont {x y : Net} (h : contN y = contN x) : netB y = netB x := by
  rw [Bool.eq_iff_iff, netB_iff, netB_iff]; exact NetP_cont h
end Go.Proofs.YtjpkpfmpjgeeiaaGreat
