/- Chapter 1: contract of the program's EncodeHex. -/
import Derived.Test.YtpmngaipcmacbabDoorHexA
import Derived.Laws.MakeOwn
import Derived.Deep.RegionLaw
namespace Go.Proofs.YtpmngaipcmacbabDoor
open Go.RowKit
set_option linter.unusedVariables false

theorem and15 (u : UInt8) : bits .and .u8 (u.toNat : Int) 15 = (u.toNat : Int) % 16 := by
  have h : bits .and .u8 (u.toNat : Int) ((15 : Nat) : Int) = ((u.toNat &&& 15 : Nat) : Int) := u8_and_nat u.toNat 15 u.toNat_lt (by omega)
  have e : u.toNat &&& 15 = u.toNat % 16 := Nat.and_two_pow_sub_one_eq_mod u.toNat 4
  rw [e] at h
  have : ((15 : Nat) : Int) = 15 := rfl
  rw [this] at h
  rw [h]; omega

theorem nib (i : Int) (h0 : 0 ≤ i) (h1 : i < 16) (hp : i.toNat < ({ data := #[48, 49, 50, 51, 52, 53, 54, 55, 56, 57, 97, 98, 99, 100, 101, 102] } : ByteArray).size) : ((({ data := #[48, 49, 50, 51, 52, 53, 54, 55, 56, 57, 97, 98, 99, 100, 101, 102] } : ByteArray)[i.toNat]'hp).toNat : Int) = fig i := by
  obtain ⟨n, rfl⟩ := Int.eq_ofNat_of_zero_le h0
  have hn : n < 16 := by omega
  have key : ∀ m, m < 16 → ∀ hp : m < ({ data := #[48, 49, 50, 51, 52, 53, 54, 55, 56, 57, 97, 98, 99, 100, 101, 102] } : ByteArray).size, ((({ data := #[48, 49, 50, 51, 52, 53, 54, 55, 56, 57, 97, 98, 99, 100, 101, 102] } : ByteArray)[m]'hp).toNat : Int) = fig (m : Int) := by
    intro m hm hp
    rcases m with _ | _ | _ | _ | _ | _ | _ | _ | _ | _ | _ | _ | _ | _ | _ | _ | m
    all_goals first | rfl | omega
  exact key n hn hp

set_option maxRecDepth 100000 in
set_option maxHeartbeats 1000000 in
theorem encI_any (w : World) (s : ByteArray) (hs : s.size ≤ maxLen) :
    Calls Tryd.prog 8 #[.string s] w fun e w' => e = .returned (encV s) ∧ Below w.heap.size w w' := by
  unfold maxLen at hs
  by_cases hbig : 20000 < s.size
  · go_enter Tryd.func8, Tryd.ntmps8
    go_wp2
    go_ret2
    exact ⟨ret_eq (enc_big s hbig).symm, Below.refl _ _⟩
  · obtain ⟨i0, hi0, hz0, hz1, hz2⟩ := info_parts u8Info
    have hmk : ∀ W : World, (Instr.makeSlice 22 (.int .i64 0) (.int .i64 (2 * (s.size : Int)))).run Tryd.prog W = .ok (.slice (some ⟨W.heap.size, 0, none⟩) 0 (2 * s.size)) (W.alloc (.cells (madeCells #[.int .u8 0] (2 * s.size)) 5)) := by
      intro W
      have := run_make (P := Tryd.prog) W 22 5 i0 _ Tryd.underlying22 hi0 hz0 .i64 .i64 0 (2 * (s.size : Int)) (by omega) (by omega) (by rw [hz2]; omega) (by omega)
      have e : (2 * (s.size : Int)).toNat = 2 * s.size := by omega
      simpa [hz1, Value.cells, e] using this
    go_enter Tryd.func8, Tryd.ntmps8
    go_wp2
    go_loopw [4, 15] (fun v i wr => ∃ k : Nat, k ≤ s.size ∧ i = .int .i64 k ∧ wr.ownsRow w.heap.size 5 1 v (2 * k) (vals (hexL (s.data.toList.take k))) ∧ Below w.heap.size w wr) (fun _ i _ => s.size - (intOf i).toNat)
    case atStart => exact ⟨0, Nat.zero_le _, rfl, by simpa [vals, hexL] using World.ownsRow_made (base := w.heap.size) (e := 5) (size := 1) w (madeCells #[.int .u8 0] (2 * s.size)) (2 * s.size) (Nat.le_refl _) (by unfold maxLen; omega) (by simp [size_madeCells]), balloc _ _⟩
    case round =>
      obtain ⟨k, hk, rfl, hown, hb⟩ := hrel
      clear hmk
      have hsz := hb.size
      by_cases hlt : k < s.size
      · obtain ⟨u, hu⟩ : ∃ u, s[k] = u := ⟨_, rfl⟩
        have hbt := byteAt_lt u
        obtain ⟨hb0, hb1⟩ := hbt
        have HU := Lib.hid hu
        have HOWN := Lib.hid hown
        have hand : bits .and .u8 (u.toNat : Int) 15 = (u.toNat : Int) % 16 := and15 u
        have hd0 : 0 ≤ (u.toNat : Int) / 16 := by omega
        have hd1 : (u.toNat : Int) / 16 < 16 := by omega
        have hm0 : 0 ≤ (u.toNat : Int) % 16 := by omega
        have hm1 : (u.toNat : Int) % 16 < 16 := by omega
        have n1 := nib _ hd0 hd1 (by show _ < 16; omega)
        have n2 := nib _ hm0 hm1 (by show _ < 16; omega)
        go_wp2
        go_region_held3 (fun _ => True) (trivial) ((refine step_append_lies _ (by rfl) _ _ _ (by rfl) w.heap.size 5 i0 _ 1 1 Tryd.underlying22 hi0 hz0 hz1 hz2 rfl (by omega) u4 (2 * k) (vals (hexL (s.data.toList.take k))) (by rfl) ((HOWN.out.alloc _).drew) ⟨wr.heap.size, 0, none⟩ 2 2 [.int .u8 (fig ((u.toNat : Int) / 16)), .int .u8 (fig ((u.toNat : Int) % 16))] (by rfl) (by rfl) (World.news_of_block (cs := #[.int .u8 (fig ((u.toNat : Int) / 16)), .int .u8 (fig ((u.toNat : Int) % 16))]) (t := 5) (fr := (0, 0)) (heap_alloc_new wr _)) (by simp [Value.oneCell']) (by omega) (by unfold maxLen; omega) (by omega) (by simp; omega) (wr.heap.size + 1) (by simp) ?_; intro gg cap w1 hown1 hgrow hat hlt))
        all_goals
          clear n1 n2 hand
          go_wp2
          go_roundw
          case rel => exact ⟨k + 1, by omega, by go_num, hex_step (by assumption) HU.out hown1, own_below hb HOWN.out hgrow⟩
          case measure => simp [intOf]; omega
      · have hconv := conv_own hown
        go_wp2
        go_ret2
        have hks : k = s.size := by omega
        have hl : s.data.toList.take k = s.data.toList := List.take_of_length_le (by simp [hks])
        have hf : encV s = .tuple #[.string (strOfNums (hexL (s.data.toList.take k))), .bool true] := by rw [enc_small s hbig, hl]
        exact ⟨ret_eq hf.symm, hb⟩
end Go.Proofs.YtpmngaipcmacbabDoor
