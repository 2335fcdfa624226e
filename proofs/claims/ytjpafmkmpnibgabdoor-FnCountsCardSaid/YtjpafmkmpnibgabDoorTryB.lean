/- Chapter 3: contracts of the program's enter and Try, and of the model's Try. -/
import Derived.Test.YtjpafmkmpnibgabDoorTryA
namespace Go.Proofs.YtjpafmkmpnibgabDoor
open Go.RowKit
set_option linter.unusedVariables false

set_option maxRecDepth 100000 in
set_option maxHeartbeats 2000000 in
theorem enter_any (w : World) (g gl : Nat) (s n t p u now reach : Int) (l : List ByteArray) (hR : Rounds w) (hk : Has w g 47 #[.int .i64 s, .int .i64 n, .int .i64 t, .int .i64 p, .int .i64 u]) (hgl : gl < w.heap.size) (hne : gl ≠ g) (hl : ∀ i a, l[i]? = some a → w.cell? ⟨gl, i, none⟩ = some (.string a))
    (hr0 : 0 ≤ reach) (hr1 : reach ≤ 100) (hll : l.length ≤ 100) :
    Calls Tryd.prog 28 #[.pointer (some ⟨g, 0, none⟩), .int .i64 now, .int .i64 reach, .slice (some ⟨gl, 0, none⟩) l.length l.length] w fun e w' =>
      e = .returned (.int .i64 (enterK s n t p u (findN (fun m => shownL s m l) n (fcnt n reach l.length)) l.length now).2.2.2.2) ∧ Has w' g 47 (lkC s (enterK s n t p u (findN (fun m => shownL s m l) n (fcnt n reach l.length)) l.length now)) ∧ Only w g w' := by
  have HR := Lib.hid hR; have HL := Lib.hid hl; clear hR hl
  obtain ⟨M, hM⟩ : ∃ M, findN (fun m => shownL s m l) n (fcnt n reach l.length) = M := ⟨_, rfl⟩
  rw [hM]
  have e0 := has_cell hk 0 rfl; have e1 := has_cell hk 1 rfl; have e2 := has_cell hk 2 rfl; have e3 := has_cell hk 3 rfl; have e4 := has_cell hk 4 rfl
  have lt := has_lt hk
  have HK := Lib.hid hk; clear hk
  have hlen : 0 ≤ (l.length : Int) := by omega
  cases hok : lockB s n t p u
  · have HE := Lib.hid (enterK_bad (m := M) (len := l.length) (now := now) fun h => by rw [hok] at h; cases h.1)
    go_enter Tryd.func28, Tryd.ntmps28
    go_wp2_with fail
    refine (lockI_any _ s n t p u).mono ?_
    rintro e w1 ⟨rfl, hb1⟩
    rw [hok]
    have HB := Lib.hid hb1
    clear e0 e1 e2 e3 e4 hb1
    go_wp2_with fail
    go_ret
    rw [HE.out]
    exact ⟨rfl, has_call HK.out HB.out, only_of_below HB.out⟩
  have hlk := lockB_iff.1 hok
  obtain ⟨_, ⟨n0, n1⟩, ⟨t0, t1⟩, ⟨p0, p1⟩, u0, u1⟩ := hlk
  cases htm : inR now 0 20000
  · have HE := Lib.hid (enterK_bad (s := s) (n := n) (t := t) (p := p) (u := u) (m := M) (len := l.length) (now := now) fun h => by rw [htm] at h; cases h.2)
    go_enter Tryd.func28, Tryd.ntmps28
    go_wp2_with fail
    refine (lockI_any _ s n t p u).mono ?_
    rintro e w1 ⟨rfl, hb1⟩
    rw [hok]
    have HB := Lib.hid hb1
    clear e0 e1 e2 e3 e4 hb1
    go_wp2_with (refine (time3_any _ _).mono ?_; rintro e w' ⟨rfl, hw⟩; rw [hw, htm]; clear hw)
    go_ret
    rw [HE.out]
    exact ⟨rfl, has_call HK.out HB.out, only_of_below HB.out⟩
  have htb := inR_iff.1 htm
  obtain ⟨nw0, nw1⟩ := htb
  by_cases hw : now < u
  · have HE := Lib.hid (enterK_wait (m := M) (len := l.length) hok htm hw)
    go_enter Tryd.func28, Tryd.ntmps28
    go_wp2_with fail
    refine (lockI_any _ s n t p u).mono ?_
    rintro e w1 ⟨rfl, hb1⟩
    rw [hok]
    have k1 := has_call HK.out hb1
    have HB := Lib.hid hb1
    clear e0 e1 e2 e3 e4 lt hb1
    have e4 := has_cell k1 4 rfl
    have lt := has_lt k1
    clear k1
    go_wp2_with (refine (time3_any _ _).mono ?_; rintro e w' ⟨rfl, hw'⟩; rw [hw', htm]; clear hw')
    go_ret
    rw [HE.out]
    exact ⟨rfl, has_call HK.out HB.out, only_of_below HB.out⟩
  by_cases hm : 0 ≤ M
  · have HE := Lib.hid (enterK_open (m := M) (len := l.length) hok htm hw hm hlen)
    have hMb : M ≤ 1000001 := by
      rcases findN_bd (fun m => shownL s m l) (fcnt n reach l.length) n with h | ⟨h, h', _⟩
      · rw [hM] at h; omega
      · rw [hM] at h h'; unfold fcnt at h'; omega
    go_enter Tryd.func28, Tryd.ntmps28
    go_wp2_with fail
    refine (lockI_any _ s n t p u).mono ?_
    rintro e w1 ⟨rfl, hb1⟩
    rw [hok]
    have k1 := has_call HK.out hb1
    have HB := Lib.hid hb1
    clear e0 e1 e2 e3 e4 lt hb1
    have e4 := has_cell k1 4 rfl
    have lt := has_lt k1
    clear k1
    go_wp2_with (first | (go_at_call 44; refine (time3_any _ _).mono ?_; rintro e w' ⟨rfl, hw'⟩; rw [hw', htm]; clear hw') | fail)
    clear e4 lt
    have k1 := has_call HK.out HB.out
    refine (find_any w1 g gl s n reach l (HR.out.below HB.out) (has_cell k1 0 rfl) (has_cell k1 1 rfl) (Nat.lt_of_lt_of_le hgl HB.out.size) (fun i a h => ((HB.out.cell (p := ⟨gl, i, none⟩) hgl).trans (HL.out i a h))) n0 n1 hr0 hr1 hll).mono ?_
    rintro e w2 ⟨rfl, hb2⟩
    rw [hM]
    have K2 := Lib.hid (has_call k1 hb2)
    have HB2 := Lib.hid (bthen HB.out hb2)
    clear k1 hb2
    go_wp2_with fail
    refine (pass_any w2 g s n t p u _ K2.out).mono ?_
    rintro e w3 ⟨rfl, hk3, ho3⟩
    have K3 := Lib.hid hk3; have O3 := Lib.hid (only_trans (only_of_below HB2.out) ho3); clear hk3 ho3
    go_wp2_with fail
    go_ret
    rw [HE.out]
    exact ⟨rfl, K3.out, O3.out⟩
  · have HE := Lib.hid (enterK_wrong (len := l.length) hok htm hw hm)
    have hMb : -1 ≤ M := by
      rcases findN_bd (fun m => shownL s m l) (fcnt n reach l.length) n with h | ⟨h, h', _⟩
      · rw [hM] at h; omega
      · rw [hM] at h; omega
    go_enter Tryd.func28, Tryd.ntmps28
    go_wp2_with fail
    refine (lockI_any _ s n t p u).mono ?_
    rintro e w1 ⟨rfl, hb1⟩
    rw [hok]
    have k1 := has_call HK.out hb1
    have HB := Lib.hid hb1
    clear e0 e1 e2 e3 e4 lt hb1
    have e4 := has_cell k1 4 rfl
    have lt := has_lt k1
    clear k1
    go_wp2_with (first | (go_at_call 44; refine (time3_any _ _).mono ?_; rintro e w' ⟨rfl, hw'⟩; rw [hw', htm]; clear hw') | fail)
    clear e4 lt
    have k1 := has_call HK.out HB.out
    refine (find_any w1 g gl s n reach l (HR.out.below HB.out) (has_cell k1 0 rfl) (has_cell k1 1 rfl) (Nat.lt_of_lt_of_le hgl HB.out.size) (fun i a h => ((HB.out.cell (p := ⟨gl, i, none⟩) hgl).trans (HL.out i a h))) n0 n1 hr0 hr1 hll).mono ?_
    rintro e w2 ⟨rfl, hb2⟩
    rw [hM]
    have K2 := Lib.hid (has_call k1 hb2)
    have HB2 := Lib.hid (bthen HB.out hb2)
    clear k1 hb2
    go_wp2_with fail
    refine (refuse_any w2 g s n t p u now K2.out t0 t1 p0 p1 nw0 nw1).mono ?_
    rintro e w3 ⟨rfl, hk3, ho3⟩
    have K3 := Lib.hid hk3; have O3 := Lib.hid (only_trans (only_of_below HB2.out) ho3); clear hk3 ho3
    go_wp2_with fail
    go_ret
    rw [HE.out]
    exact ⟨rfl, K3.out, O3.out⟩
end Go.Proofs.YtjpafmkmpnibgabDoor
