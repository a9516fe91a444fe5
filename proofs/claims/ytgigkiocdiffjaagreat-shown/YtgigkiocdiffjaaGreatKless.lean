/- veilkeep.less, within. -/
import Derived.Test.YtgigkiocdiffjaaGreatS02
import Derived.Deep.QuietTactic
import Derived.BigQuiet
namespace Go.Proofs.YtgigkiocdiffjaaGreat
open Go.RowKit Veil
theorem bel_drawn {B : Nat} {a w : World} (h : Below B a w) (n : Nat) : Below B a (w.drewN n) := ⟨h.os, h.tape, h.output, h.size, h.block⟩
theorem drop_cons (s : ByteArray) (k : Nat) (h : k < s.size) : (bytes s).drop k = s[k] :: (bytes s).drop (k + 1) := by
  have hk : k < (bytes s).length := by rw [bytes_length]; exact h
  rw [List.drop_eq_getElem_cons hk]
  rfl
set_option maxRecDepth 100000 in
set_option maxHeartbeats 4000000 in
theorem kless_any (a b : ByteArray) (w : World) (ha : a.size ≤ 1000000) (hb : b.size ≤ 1000000) (h : (bytes a).Sublist (bytes b)) :
    Calls Tryz.prog 75 #[.string a, .string b] w fun e w' => e = .returned (.bool true) ∧ Below w.heap.size w w' := by
  have HS := hide h
  have HLA := hide (bytes_length a)
  have HLB := hide (bytes_length b)
  have HDA := hide (drop_cons a)
  have HDB := hide (drop_cons b)
  clear h
  go_enter Tryz.func75, Tryz.ntmps75
  go_wp2
  go_loopw [5, 6] (fun kk i wr => ∃ k j : Nat, k ≤ a.size ∧ j ≤ b.size ∧ kk = .int .i64 k ∧ i = .int .i64 j ∧ ((bytes a).drop k).Sublist ((bytes b).drop j) ∧ Below w.heap.size w wr) (fun _ i _ => b.size - (intOf i).toNat)
  case atStart => exact ⟨0, 0, Nat.zero_le _, Nat.zero_le _, rfl, rfl, by simpa using HS.out, Below.refl _ _⟩
  case round =>
    obtain ⟨wo, rfl⟩ : ∃ x, x = wr := ⟨_, rfl⟩
    obtain ⟨k, j, hk, hj, rfl, rfl, hd, hbel⟩ := hrel
    have HD := hide hd
    clear hd
    by_cases hjl : j < b.size
    · have hji : (j : Int) < (b.size : Int) := by omega
      by_cases hkl : k < a.size
      · have hki : (k : Int) < (a.size : Int) := by omega
        have hd := HD.out
        rw [HDA.out k hkl, HDB.out j hjl] at hd
        have HD1 := hide hd
        clear hd
        cases hq : ((a[k].toNat : Int) == (b[j].toNat : Int))
        · have hne : a[k] ≠ b[j] := fun e => by rw [e] at hq; simp at hq
          have HN := hide (show ((bytes a).drop k).Sublist ((bytes b).drop (j + 1)) from (by
            have := HD1.out
            rw [HDA.out k hkl]
            rcases List.sublist_cons_iff.1 this with h | ⟨r, h1, h2⟩
            · exact h
            · exact absurd (List.cons.inj h1).1 hne))
          clear hne
          go_wp2_with fail
          go_quiet (fail)
          go_wp2
          go_roundw
          case rel => exact ⟨k, j + 1, hk, by omega, rfl, by go_num, HN.out, bel_drawn hbel _⟩
          case measure => simp [intOf]; omega
        · have heq : a[k] = b[j] := by
            have : a[k].toNat = b[j].toNat := by have := eq_of_beq hq; omega
            exact UInt8.toNat_inj.1 this
          have HN := hide (show ((bytes a).drop (k + 1)).Sublist ((bytes b).drop (j + 1)) from (by
            have := HD1.out
            rw [heq] at this
            exact List.cons_sublist_cons.1 this))
          clear heq
          go_wp2_with fail
          go_quiet (fail)
          go_wp2
          go_roundw
          case rel => exact ⟨k + 1, j + 1, by omega, by omega, by go_num, by go_num, HN.out, bel_drawn hbel _⟩
          case measure => simp [intOf]; omega
      · obtain rfl : k = a.size := by omega
        have hkc : decide ((a.size : Int) < (a.size : Int)) = false := by simp
        go_wp2
        go_ret
        exact ⟨rfl, hbel⟩
    · obtain rfl : j = b.size := by omega
      have hkc : decide ((b.size : Int) < (b.size : Int)) = false := by simp
      obtain rfl : k = a.size := by
        have h := HD.out
        rw [show (bytes b).drop b.size = [] from List.drop_eq_nil_of_le (by rw [HLB.out]; exact Nat.le_refl _)] at h
        have := List.drop_eq_nil_iff.1 (List.sublist_nil.1 h)
        rw [HLA.out] at this
        omega
      go_wp2
      go_ret
      exact ⟨rfl, hbel⟩
set_option maxRecDepth 100000 in
set_option maxHeartbeats 4000000 in
theorem kwithin_any (a b t : ByteArray) (w : World) (m : Nat) (hm : m ≤ b.size) (hb : b.size ≤ 1000000) (ht : t.size ≤ 1000000) (h : a = b.extract 0 m ++ t ++ b.extract m b.size) :
    Calls Tryz.prog 74 #[.string a, .string b, .string t] w fun e w' => e = .returned (.bool true) ∧ Below w.heap.size w w' := by
  have HS := hide h
  clear h
  go_enter Tryz.func74, Tryz.ntmps74
  go_wp2
  go_loopw [7] (fun kk wr => ∃ k : Nat, k ≤ m ∧ kk = .int .i64 k ∧ Below w.heap.size w wr) (fun kk _ => m - (intOf kk).toNat)
  case atStart => exact ⟨0, Nat.zero_le _, rfl, Below.refl _ _⟩
  case round =>
    obtain ⟨wo, rfl⟩ : ∃ x, x = wr := ⟨_, rfl⟩
    obtain ⟨k, hk, rfl, hbel⟩ := hrel
    have hki : (k : Int) ≤ (b.size : Int) := by omega
    go_wp2_with fail
    go_quiet (fail)
    cases hq : (a.toList == (b.extract 0 k ++ t ++ b.extract k b.size).toList)
    · have hne : k ≠ m := fun e => by rw [e, ← HS.out] at hq; simp at hq
      have hlt : k < m := by omega
      go_wp2
      go_roundw
      case rel => exact ⟨k + 1, by omega, by go_num, bel_drawn hbel _⟩
      case measure => simp [intOf]; omega
    · go_wp2
      go_ret
      exact ⟨rfl, bel_drawn hbel _⟩
end Go.Proofs.YtgigkiocdiffjaaGreat
