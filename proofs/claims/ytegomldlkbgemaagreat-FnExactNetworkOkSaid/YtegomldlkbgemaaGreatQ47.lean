
/- Chapter 9: the walk of the law FnExactNetworkOk (gen_ntl.py). -/
import Derived.Test.YtegomldlkbgemaaGreatQ46
import Derived.Deep.RegionWith
import Derived.Deep.Cut
namespace Go.Proofs.YtegomldlkbgemaaGreat
open Go.RowKit
set_option linter.unusedVariables false
set_option maxRecDepth 100000
set_option maxHeartbeats 8000000 in
theorem NtLn_walk (x : Net) (w : World) (hV : NetV w w.heap.size x) :
    Calls Tryz.prog 3 #[.agg #[.int .i64 x.tm.keep, .int .i64 x.tm.free, .int .i64 x.tm.step, .int .i64 x.tm.rate, .int .i64 x.tm.cap, .int .i64 x.tm.longer, .int .i64 x.tm.price, .int .i64 x.tm.most, .int .i64 x.room, .int .i64 x.secret, .int .i64 x.now, .slice x.AS x.st.length x.cS, .slice x.AP x.pc.length x.cP, .slice x.AG x.gr.length x.cG, .slice x.AJ x.jr.length x.cJ]] w fun e w' => e = .returned (.bool true) ∧ Below w.heap.size w w' := by
  have HV := Lib.hid hV; clear hV
  go_enter Tryz.func3, Tryz.ntmps3
  go_wp2_with fail
  generalize hX : w.alloc (.cells #[.int .i64 x.tm.keep, .int .i64 x.tm.free, .int .i64 x.tm.step, .int .i64 x.tm.rate, .int .i64 x.tm.cap, .int .i64 x.tm.longer, .int .i64 x.tm.price, .int .i64 x.tm.most, .int .i64 x.room, .int .i64 x.secret, .int .i64 x.now, .slice x.AS x.st.length x.cS, .slice x.AP x.pc.length x.cP, .slice x.AG x.gr.length x.cG, .slice x.AJ x.jr.length x.cJ] 29) = w1
  have b1 : Below w.heap.size w w1 := by rw [← hX]; exact balloc _ _
  have k1 : Has w1 w.heap.size 29 #[.int .i64 x.tm.keep, .int .i64 x.tm.free, .int .i64 x.tm.step, .int .i64 x.tm.rate, .int .i64 x.tm.cap, .int .i64 x.tm.longer, .int .i64 x.tm.price, .int .i64 x.tm.most, .int .i64 x.room, .int .i64 x.secret, .int .i64 x.now, .slice x.AS x.st.length x.cS, .slice x.AP x.pc.length x.cP, .slice x.AG x.gr.length x.cG, .slice x.AJ x.jr.length x.cJ] := by rw [← hX]; exact has_new _ _ _
  clear hX
  have hs1 := b1.size
  have K := Lib.hid k1; have BB := Lib.hid b1; clear k1 b1
  refine (szNetwork_any w1 w.heap.size x (by omega) (HV.out.later (Nat.le_refl _) BB.out)).mono ?_
  rintro e w2 ⟨r, rfl, hr, hb⟩
  have kk := has_call K.out hb; clear K; have K := Lib.hid kk; clear kk
  have kk := bthen BB.out hb; clear BB; have BB := Lib.hid kk; clear kk
  have hsw2 := hb.size; clear hb
  rcases hr with rfl | ⟨hr0, hsz⟩
  · go_wp2_with fail
    go_ret
    exact ⟨rfl, BB.out⟩
  have hrn : ¬ r < 0 := by omega
  have HSZ := Lib.hid hsz; clear hsz hr0
  have kc0 := has_cell K.out 0 rfl; have kc1 := has_cell K.out 1 rfl; have kc2 := has_cell K.out 2 rfl; have kc3 := has_cell K.out 3 rfl; have kc4 := has_cell K.out 4 rfl; have kc5 := has_cell K.out 5 rfl; have kc6 := has_cell K.out 6 rfl; have kc7 := has_cell K.out 7 rfl; have kc8 := has_cell K.out 8 rfl; have kc9 := has_cell K.out 9 rfl; have kc10 := has_cell K.out 10 rfl; have kc11 := has_cell K.out 11 rfl; have kc12 := has_cell K.out 12 rfl; have kc13 := has_cell K.out 13 rfl; have kc14 := has_cell K.out 14 rfl; have klt := has_lt K.out
  go_wp2_with fail
  clear kc0 kc1 kc2 kc3 kc4 kc5 kc6 kc7 kc8 kc9 kc10 kc11 kc12 kc13 kc14 klt
  clear hrn
  refine (toNetwork_any w2 w.heap.size x HSZ.out (by omega) (HV.out.later (Nat.le_refl _) BB.out)).mono ?_
  rintro e w3 ⟨y1, rfl, hc, ha, hb⟩
  have Cy1 := Lib.hid hc; have Zy1 : Hid (szNet y1 ≤ 1048576) := Lib.hid (by rw [szNet_cont hc]; exact HSZ.out); have Ay1 := Lib.hid ha; have Vy1 := Lib.hid (netB_cont hc); clear hc ha
  have kk := has_call K.out hb; clear K; have K := Lib.hid kk; clear kk
  have kk := bthen BB.out hb; clear BB; have BB := Lib.hid kk; clear kk
  have hsw3 := hb.size; clear hb
  go_wp2_with fail
  have hct := netSB_any w3 w3.heap.size y1 (Nat.le_refl _) (Ay1.out.v Zy1.out)
  rw [Vy1.out] at hct
  refine hct.mono ?_
  clear hct
  rintro e w4 ⟨rfl, hb⟩
  have kk := has_call K.out hb; clear K; have K := Lib.hid kk; clear kk
  have kk := Ay1.out.call hb; clear Ay1; have Ay1 := Lib.hid kk; clear kk
  have kk := bthen BB.out hb; clear BB; have BB := Lib.hid kk; clear kk
  have hsw4 := hb.size; clear hb
  have kc0 := has_cell K.out 0 rfl; have kc1 := has_cell K.out 1 rfl; have kc2 := has_cell K.out 2 rfl; have kc3 := has_cell K.out 3 rfl; have kc4 := has_cell K.out 4 rfl; have kc5 := has_cell K.out 5 rfl; have kc6 := has_cell K.out 6 rfl; have kc7 := has_cell K.out 7 rfl; have kc8 := has_cell K.out 8 rfl; have kc9 := has_cell K.out 9 rfl; have kc10 := has_cell K.out 10 rfl; have kc11 := has_cell K.out 11 rfl; have kc12 := has_cell K.out 12 rfl; have kc13 := has_cell K.out 13 rfl; have kc14 := has_cell K.out 14 rfl; have klt := has_lt K.out
  go_wp2_with fail
  clear kc0 kc1 kc2 kc3 kc4 kc5 kc6 kc7 kc8 kc9 kc10 kc11 kc12 kc13 kc14 klt
  refine (toNetwork_any w4 w.heap.size x HSZ.out (by omega) (HV.out.later (Nat.le_refl _) BB.out)).mono ?_
  rintro e w5 ⟨y2, rfl, hc, ha, hb⟩
  have Cy2 := Lib.hid hc; have Zy2 : Hid (szNet y2 ≤ 1048576) := Lib.hid (by rw [szNet_cont hc]; exact HSZ.out); have Ay2 := Lib.hid ha; have Vy2 := Lib.hid (netB_cont hc); clear hc ha
  have kk := has_call K.out hb; clear K; have K := Lib.hid kk; clear kk
  have kk := Ay1.out.call hb; clear Ay1; have Ay1 := Lib.hid kk; clear kk
  have kk := bthen BB.out hb; clear BB; have BB := Lib.hid kk; clear kk
  have hsw5 := hb.size; clear hb
  go_wp2_with fail
  generalize hX : w5.alloc (.cells #[.int .i64 y2.tm.keep, .int .i64 y2.tm.free, .int .i64 y2.tm.step, .int .i64 y2.tm.rate, .int .i64 y2.tm.cap, .int .i64 y2.tm.longer, .int .i64 y2.tm.price, .int .i64 y2.tm.most, .int .i64 y2.room, .int .i64 y2.secret, .int .i64 y2.now, .slice y2.AS y2.st.length y2.cS, .slice y2.AP y2.pc.length y2.cP, .slice y2.AG y2.gr.length y2.cG, .slice y2.AJ y2.jr.length y2.cJ] 38) = w6
  have hb : Below w5.heap.size w5 w6 := by rw [← hX]; exact balloc _ _
  have hk : Has w6 w5.heap.size 38 #[.int .i64 y2.tm.keep, .int .i64 y2.tm.free, .int .i64 y2.tm.step, .int .i64 y2.tm.rate, .int .i64 y2.tm.cap, .int .i64 y2.tm.longer, .int .i64 y2.tm.price, .int .i64 y2.tm.most, .int .i64 y2.room, .int .i64 y2.secret, .int .i64 y2.now, .slice y2.AS y2.st.length y2.cS, .slice y2.AP y2.pc.length y2.cP, .slice y2.AG y2.gr.length y2.cG, .slice y2.AJ y2.jr.length y2.cJ] := by rw [← hX]; exact has_new _ _ _
  clear hX
  have kk := has_call K.out hb; clear K; have K := Lib.hid kk; clear kk
  have kk := Ay1.out.call hb; clear Ay1; have Ay1 := Lib.hid kk; clear kk
  have kk := Ay2.out.call hb; clear Ay2; have Ay2 := Lib.hid kk; clear kk
  have kk := bthen BB.out hb; clear BB; have BB := Lib.hid kk; clear kk
  have hsw6 := hb.size; clear hb
  have X := Lib.hid hk; clear hk
  have hct := netIB_any w6 w6.heap.size y2 (Nat.le_refl _) (Ay2.out.v Zy2.out)
  rw [Vy2.out] at hct
  refine hct.mono ?_
  clear hct
  rintro e w7 ⟨rfl, hb⟩
  have kk := has_call K.out hb; clear K; have K := Lib.hid kk; clear kk
  have kk := has_call X.out hb; clear X; have X := Lib.hid kk; clear kk
  have kk := Ay1.out.call hb; clear Ay1; have Ay1 := Lib.hid kk; clear kk
  have kk := Ay2.out.call hb; clear Ay2; have Ay2 := Lib.hid kk; clear kk
  have kk := bthen BB.out hb; clear BB; have BB := Lib.hid kk; clear kk
  have hsw7 := hb.size; clear hb
  obtain ⟨va, hva⟩ : ∃ v, netB x = v := ⟨_, rfl⟩
  rw [hva]
  clear hva
  have nv : (va != va) = false := by simp
  have kc0 := has_cell K.out 0 rfl; have kc1 := has_cell K.out 1 rfl; have kc2 := has_cell K.out 2 rfl; have kc3 := has_cell K.out 3 rfl; have kc4 := has_cell K.out 4 rfl; have kc5 := has_cell K.out 5 rfl; have kc6 := has_cell K.out 6 rfl; have kc7 := has_cell K.out 7 rfl; have kc8 := has_cell K.out 8 rfl; have kc9 := has_cell K.out 9 rfl; have kc10 := has_cell K.out 10 rfl; have kc11 := has_cell K.out 11 rfl; have kc12 := has_cell K.out 12 rfl; have kc13 := has_cell K.out 13 rfl; have kc14 := has_cell K.out 14 rfl; have klt := has_lt K.out
  have xc0 := has_cell X.out 0 rfl; have xc1 := has_cell X.out 1 rfl; have xc2 := has_cell X.out 2 rfl; have xc3 := has_cell X.out 3 rfl; have xc4 := has_cell X.out 4 rfl; have xc5 := has_cell X.out 5 rfl; have xc6 := has_cell X.out 6 rfl; have xc7 := has_cell X.out 7 rfl; have xc8 := has_cell X.out 8 rfl; have xc9 := has_cell X.out 9 rfl; have xc10 := has_cell X.out 10 rfl; have xc11 := has_cell X.out 11 rfl; have xc12 := has_cell X.out 12 rfl; have xc13 := has_cell X.out 13 rfl; have xc14 := has_cell X.out 14 rfl; have xlt := has_lt X.out
  go_upto_region 10 with fail
  clear kc0 kc1 kc2 kc3 kc4 kc5 kc6 kc7 kc8 kc9 kc10 kc11 kc12 kc13 kc14 klt
  clear xc0 xc1 xc2 xc3 xc4 xc5 xc6 xc7 xc8 xc9 xc10 xc11 xc12 xc13 xc14 xlt
  have bd : Below w7.heap.size w7 w7.drew := (Below.refl _ _).drew
  have KD := has_call K.out bd; have XD := has_call X.out bd; have AD := Ay2.out.call bd; have BD := BB.out.trans (bd.mono BB.out.size)
  have kc0 := has_cell KD 0 rfl; have xc0 := has_cell XD 0 rfl; have kc1 := has_cell KD 1 rfl; have xc1 := has_cell XD 1 rfl; have kc2 := has_cell KD 2 rfl; have xc2 := has_cell XD 2 rfl; have kc3 := has_cell KD 3 rfl; have xc3 := has_cell XD 3 rfl; have kc4 := has_cell KD 4 rfl; have xc4 := has_cell XD 4 rfl; have kc5 := has_cell KD 5 rfl; have xc5 := has_cell XD 5 rfl; have kc6 := has_cell KD 6 rfl; have xc6 := has_cell XD 6 rfl; have kc7 := has_cell KD 7 rfl; have xc7 := has_cell XD 7 rfl; have kc8 := has_cell KD 8 rfl; have xc8 := has_cell XD 8 rfl; have kc9 := has_cell KD 9 rfl; have xc9 := has_cell XD 9 rfl; have kc10 := has_cell KD 10 rfl; have xc10 := has_cell XD 10 rfl; have kc11 := has_cell KD 11 rfl; have xc11 := has_cell XD 11 rfl; have kc12 := has_cell KD 12 rfl; have xc12 := has_cell XD 12 rfl; have kc13 := has_cell KD 13 rfl; have xc13 := has_cell XD 13 rfl; have kc14 := has_cell KD 14 rfl; have xc14 := has_cell XD 14 rfl
  have hT := toNetwork_any w7.drew w.heap.size x HSZ.out (by show w.heap.size ≤ w7.heap.size; omega) (HV.out.later (Nat.le_refl _) BD)
  have HT := Lib.hid hT; have XH := Lib.hid XD; have AH := Lib.hid AD; have BH := Lib.hid BD; have bsz : w7.drew.heap.size = w7.heap.size := rfl; clear hT KD XD AD BD bd
  go_region_with (first | (go_at_call 6; refine (HT.out).mono ?_; rintro e w8 ⟨y3, rfl, hc, ha, hb⟩; have C3 := Lib.hid hc; have Z3 : Hid (szNet y3 ≤ 1048576) := Lib.hid (by rw [szNet_cont hc]; exact HSZ.out); have hx8 := has_call XH.out hb; have xd0 := has_cell hx8 0 rfl; have xd1 := has_cell hx8 1 rfl; have xd2 := has_cell hx8 2 rfl; have xd3 := has_cell hx8 3 rfl; have xd4 := has_cell hx8 4 rfl; have xd5 := has_cell hx8 5 rfl; have xd6 := has_cell hx8 6 rfl; have xd7 := has_cell hx8 7 rfl; have xd8 := has_cell hx8 8 rfl; have xd9 := has_cell hx8 9 rfl; have xd10 := has_cell hx8 10 rfl; have xd11 := has_cell hx8 11 rfl; have xd12 := has_cell hx8 12 rfl; have xd13 := has_cell hx8 13 rfl; have xd14 := has_cell hx8 14 rfl; have A28 := Lib.hid (AH.out.call hb); have A38 := Lib.hid ha; have B8 := Lib.hid (BH.out.trans (hb.mono BH.out.size)); clear hc ha hb hx8) | (go_at_call 8; refine (eqNetwork_any w8 w8.heap.size w8.heap.size y2 y3 (C3.out.trans Cy2.out.symm) Zy2.out (Nat.le_refl _) (Nat.le_refl _) (A28.out.v Zy2.out) (A38.out.v Z3.out)).mono ?_; rintro e w9 ⟨rfl, hb⟩; have B9 := Lib.hid (bthen B8.out hb); clear hb))
  all_goals (go_wp2_with fail)
  all_goals go_ret
  all_goals exact ⟨rfl, B9.out⟩
end Go.Proofs.YtegomldlkbgemaaGreat
