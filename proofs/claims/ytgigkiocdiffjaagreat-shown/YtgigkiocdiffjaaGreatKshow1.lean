/- veilkeep.shown. -/
import Derived.Test.YtgigkiocdiffjaaGreatS12
namespace Go.Proofs.YtgigkiocdiffjaaGreat
open Go.RowKit Veil
/-- A text of numbers. -/
def txt (l : List Nat) : ByteArray := textF (fun j => l.getD j 0) 0 l.length
def noMTo (s : ByteArray) (k : Nat) : List Nat := ((List.range k).map (bt s)).filter fun b => !(b == 35)
theorem noMTo_yes {s : ByteArray} {k : Nat} (h : (bt s k == 35) = false) : noMTo s (k + 1) = noMTo s k ++ [bt s k] := by
  unfold noMTo
  rw [List.range_succ, List.map_append, List.filter_append]
  simp [h]
theorem noMTo_no {s : ByteArray} {k : Nat} (h : (bt s k == 35) = true) : noMTo s (k + 1) = noMTo s k := by
  unfold noMTo
  rw [List.range_succ, List.map_append, List.filter_append]
  simp [h]
theorem noMTo_length (s : ByteArray) (k : Nat) : (noMTo s k).length ≤ k := by
  unfold noMTo
  exact Nat.le_trans (List.length_filter_le _ _) (by simp)
theorem noMTo_lt (s : ByteArray) (k : Nat) : ∀ n, n ∈ noMTo s k → n < 256 := by
  intro n hn
  unfold noMTo at hn
  obtain ⟨j, _, rfl⟩ := List.mem_map.1 (List.mem_filter.1 hn).1
  unfold bt
  exact UInt8.toNat_lt _
set_option maxRecDepth 100000 in
set_option maxHeartbeats 4000000 in
theorem kshownT_any (s : ByteArray) (w : World) (hs : s.size ≤ 1000000) :
    Calls Tryz.prog 73 #[.string s] w fun e w' => e = .returned (.string (txt (noMTo s s.size))) ∧ Below w.heap.size w w' := by
  have HCV := hide (fun (wz : World) (vl : Value) (h : OwnL 5 1 byV wz w.heap.size vl (noMTo s s.size)) => conv_own h (noMTo_lt s s.size))
  have HBT := hide (fun (j : Nat) (hj : j < s.size) => bt_get s j hj)
  have HY := hide (fun k => noMTo_yes (s := s) (k := k))
  have HN := hide (fun k => noMTo_no (s := s) (k := k))
  have HLN := hide (noMTo_length s)
  go_enter Tryz.func73, Tryz.ntmps73
  go_wp2
  go_loopw [3, 4] (fun vl i wr => ∃ k : Nat, k ≤ s.size ∧ i = .int .i64 k ∧ OwnL 5 1 byV wr w.heap.size vl (noMTo s k) ∧ Below w.heap.size w wr) (fun _ i _ => s.size - (intOf i).toNat)
  case atStart => exact ⟨0, Nat.zero_le _, rfl, OwnL.nil _ _ _ _ _, Below.refl _ _⟩
  case round =>
    obtain ⟨wo, rfl⟩ : ∃ x, x = wr := ⟨_, rfl⟩
    obtain ⟨k, hk, rfl, hvl, hbel⟩ := hrel
    have HVL := hide hvl
    clear hvl
    by_cases hlt : k < s.size
    · have hki : (k : Int) < (s.size : Int) := by omega
      have hln := HLN.out k
      have HB := hide (HBT.out k hlt)
      cases hq : ((s[k].toNat : Int) == 35)
      · have HY1 := hide (HY.out k (by rw [HB.out]; rw [beq_eq_false_iff_ne] at hq ⊢; omega))
        rw [HB.out] at HY1
        have hbC := below_box wo (.cells #[.int .u8 (s[k].toNat : Nat)] 5)
        have hbelC := hbel.trans (hbC.mono hbel.size)
        have HVC := hide (HVL.out.below hbC)
        have HNC := hide (Go.heap_alloc_new wo (.cells #[.int .u8 (s[k].toNat : Nat)] 5))
        go_wp2_with (at_builtin; refine wpList_push rfl (.tmp 15) (.tmp 19) 164 rfl (.int .u8 0) 1 Tryz.underlying164 Tryz.infoU8 rfl (by decide) rfl HVC.out wo.heap.size 1 s[k].toNat rfl 5 (0, 0) HNC.out rfl (by intro u hu; simp [byV] at hu; rcases hu with rfl; rfl) (by omega) (by decide) hbelC.size (wo.heap.size + 1) (by simp) ?_; intro g6 cap6 w6 hown6 hgrow6 hat6 hlt6)
        have hb6 := hbelC.trans (below_of_grown hgrow6 (fun b hb => (HVC.out.lt hb).1) hbelC.size)
        go_roundw
        case rel => exact ⟨k + 1, by omega, by go_num, by rw [HY1.out]; exact hown6, hb6⟩
        case measure => simp [intOf]; omega
      · have HN1 := hide (HN.out k (by rw [HB.out]; have := eq_of_beq hq; rw [beq_iff_eq]; omega))
        go_wp2
        go_roundw
        case rel => exact ⟨k + 1, by omega, by go_num, by rw [HN1.out]; exact HVL.out, hbel⟩
        case measure => simp [intOf]; omega
    · obtain rfl : k = s.size := by omega
      have hkc : decide ((s.size : Int) < (s.size : Int)) = false := by simp
      have hcv := HCV.out wo _ HVL.out
      go_wp2
      go_ret
      exact ⟨rfl, hbel⟩
end Go.Proofs.YtgigkiocdiffjaaGreat
