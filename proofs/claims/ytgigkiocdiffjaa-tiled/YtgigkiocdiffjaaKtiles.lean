/- veilkeep.class, veilkeep.tiles. -/
import Derived.Test.YtgigkiocdiffjaaTKtile
import Derived.Test.YtgigkiocdiffjaaT07
import Derived.Test.YtgigkiocdiffjaaT04
import Derived.Deep.QuietTactic
import Derived.BigQuiet
namespace Go.Proofs.Ytgigkiocdiffjaa
open Go.RowKit Veil
theorem bel_drawn {B : Nat} {a w : World} (h : Below B a w) (n : Nat) : Below B a (w.drewN n) := ⟨h.os, h.tape, h.output, h.size, h.block⟩
set_option maxHeartbeats 400000 in
theorem kclass_any (b : Nat) (w : World) : Calls Try.prog 25 #[.int .u8 b] w fun e w' => e = .returned (.int .i64 (kindP b)) ∧ w = w' := by
  by_cases h1 : 97 ≤ b
  · by_cases h2 : b ≤ 122
    · have HK := hide (show kindP b = 1 from kindP_97 (by simp [kindN, h1, h2]))
      have h1' : (97 : Int) ≤ (b : Int) := by omega
      have h2' : (b : Int) ≤ 122 := by omega
      clear h1 h2
      go_enter Try.func25, Try.ntmps25
      go_wp2
      go_ret
      exact ⟨by rw [HK.out]; rfl, rfl⟩
    · have HK := hide (show kindP b = 4 by
        rw [kindP_0 (by unfold kindN; rw [if_neg (by omega), if_neg (by omega)])]
        have e1 : (b == 35) = false := by simp; omega
        have e2 : (b == 32) = false := by simp; omega
        rw [e1, e2]; rfl)
      have h1' : (97 : Int) ≤ (b : Int) := by omega
      have h2' : (122 : Int) < (b : Int) := by omega
      have h3' : (48 : Int) ≤ (b : Int) := by omega
      have h4' : (57 : Int) < (b : Int) := by omega
      have h5' : ((b : Int) == 35) = false := by simp; omega
      have h6' : ((b : Int) == 32) = false := by simp; omega
      clear h1 h2
      go_enter Try.func25, Try.ntmps25
      go_wp2
      go_ret
      exact ⟨by rw [HK.out]; rfl, rfl⟩
  · have h1' : (b : Int) < 97 := by omega
    by_cases h3 : 48 ≤ b
    · have h3' : (48 : Int) ≤ (b : Int) := by omega
      by_cases h4 : b ≤ 57
      · have HK := hide (show kindP b = 2 from kindP_48 (by unfold kindN; rw [if_neg (by omega), if_pos (by omega)]))
        have h4' : (b : Int) ≤ 57 := by omega
        clear h1 h3 h4
        go_enter Try.func25, Try.ntmps25
        go_wp2
        go_ret
        exact ⟨by rw [HK.out]; rfl, rfl⟩
      · have HK := hide (show kindP b = 4 by
          rw [kindP_0 (by unfold kindN; rw [if_neg (by omega), if_neg (by omega)])]
          have e1 : (b == 35) = false := by simp; omega
          have e2 : (b == 32) = false := by simp; omega
          rw [e1, e2]; rfl)
        have h4' : (57 : Int) < (b : Int) := by omega
        have h5' : ((b : Int) == 35) = false := by simp; omega
        have h6' : ((b : Int) == 32) = false := by simp; omega
        clear h1 h3 h4
        go_enter Try.func25, Try.ntmps25
        go_wp2
        go_ret
        exact ⟨by rw [HK.out]; rfl, rfl⟩
    · have h3' : (b : Int) < 48 := by omega
      have HP := hide (kindP_0 (b := b) (by unfold kindN; rw [if_neg (by omega), if_neg (by omega)]))
      cases h5 : ((b : Int) == 35)
      · have e1 : (b == 35) = false := by simp at h5 ⊢; omega
        cases h6 : ((b : Int) == 32)
        · have e2 : (b == 32) = false := by simp at h6 ⊢; omega
          rw [e1, e2] at HP
          clear h1 h3 e1 e2
          go_enter Try.func25, Try.ntmps25
          go_wp2
          go_ret
          exact ⟨by rw [HP.out]; rfl, rfl⟩
        · have e2 : (b == 32) = true := by simp at h6 ⊢; omega
          rw [e1, e2] at HP
          clear h1 h3 e1 e2
          go_enter Try.func25, Try.ntmps25
          go_wp2
          go_ret
          exact ⟨by rw [HP.out]; rfl, rfl⟩
      · have e1 : (b == 35) = true := by simp at h5 ⊢; omega
        rw [e1] at HP
        clear h1 h3 e1
        go_enter Try.func25, Try.ntmps25
        go_wp2
        go_ret
        exact ⟨by rw [HP.out]; rfl, rfl⟩
set_option maxRecDepth 100000 in
set_option maxHeartbeats 4000000 in
theorem ktiles_any (s : ByteArray) (L : List Sp) (vl : Value) (w : World) (hs : s.size ≤ 1200) (hL : L.length ≤ 1200) (hsq : SeqV 3 spV w vl L) (ht : Tiles s L s.size) :
    Calls Try.prog 21 #[vl, .string s] w fun e w' => e = .returned (.bool true) ∧ Below w.heap.size w w' := by
  obtain ⟨ao, cap, b, rfl, hao, hc⟩ := hsq
  have HA := hide hao
  have HC := hide hc
  have HT := hide ht
  have HK := hide (fun (j : Nat) (hj : j < s.size) (w' : World) => kclass_any s[j].toNat w')
  have HBT := hide (fun (j : Nat) (hj : j < s.size) => bt_get s j hj)
  clear hao hc ht
  go_enter Try.func21, Try.ntmps21
  go_wp2
  go_loopw [5, 6] (fun a i wr => ∃ k : Nat, k ≤ L.length ∧ i = .int .i64 k ∧ a = .int .i64 (endAt L k) ∧ Below w.heap.size w wr) (fun _ i _ => L.length - (intOf i).toNat)
  case atStart => exact ⟨0, Nat.zero_le _, rfl, rfl, Below.refl _ _⟩
  case round =>
    obtain ⟨wo, rfl⟩ : ∃ x, x = wr := ⟨_, rfl⟩
    obtain ⟨k, hk, rfl, rfl, hbel⟩ := hrel
    by_cases hlt : k < L.length
    · have hg : L[k]? = some L[k] := List.getElem?_eq_getElem hlt
      obtain ⟨rfl, hbl⟩ : ao = some ⟨b, 0, none⟩ ∧ b < w.heap.size := HA.out.resolve_left (fun e => by rw [e] at hlt; simp at hlt)
      have c0 := HC.out k _ hg 0 (by omega)
      have c1 := HC.out k _ hg 1 (by omega)
      have c2 := HC.out k _ hg 2 (by omega)
      have HTA := hide (HT.out.at' k _ hg)
      have HEN := hide (show endAt L (k + 1) = L[k].hi by show (L.getD k _).hi = _; rw [List.getD, hg]; rfl)
      generalize L[k] = x at *
      generalize endAt L k = e0 at *
      obtain ⟨q, lo, hi⟩ := x
      have c0' : w.cell? ⟨b, k * 3, none⟩ = some (.int .i64 q) := c0
      have c1' : w.cell? ⟨b, k * 3 + 1, none⟩ = some (.int .i64 lo) := c1
      have c2' : w.cell? ⟨b, k * 3 + 2, none⟩ = some (.int .i64 hi) := c2
      have d0 := (hbel.cell (p := ⟨b, k * 3, none⟩) hbl).trans c0'
      have d1 := (hbel.cell (p := ⟨b, k * 3 + 1, none⟩) hbl).trans c1'
      have d2 := (hbel.cell (p := ⟨b, k * 3 + 2, none⟩) hbl).trans c2'
      have hki : (k : Int) < (L.length : Int) := by omega
      obtain ⟨t1, t2, t3, t4, t5, t6, t7, t8⟩ := HTA.out
      simp only at t1 t2 t3 t4 t5 t6 t7 t8
      have T4 := hide t4
      have T5 := hide t5
      have T6 := hide t6
      have T7 := hide t7
      have T8 := hide t8
      have hbB := hbel.trans ((below_box wo (.cells #[.int .i64 q, .int .i64 lo, .int .i64 hi] 57)).mono hbel.size)
      have HXB := hide (Go.heap_alloc_new wo (.cells #[.int .i64 q, .int .i64 lo, .int .i64 hi] 57))
      have f1 : decide ((lo : Int) < (e0 : Int)) = false := by simp; omega
      have f2 : decide ((hi : Int) ≤ (lo : Int)) = false := by simp; omega
      have f3 : decide ((s.size : Int) < (hi : Int)) = false := by simp; omega
      clear hg c0 c1 c2 c0' c1' c2' t4 t5 t6 t7 t8
      go_wp2_with fail
      generalize hW1 : wo.alloc (.cells #[.int .i64 q, .int .i64 lo, .int .i64 hi] 57) = w1 at *
      have r0 : w1.cell? ⟨wo.heap.size, 0, none⟩ = some (.int .i64 q) := (cell_of_row _ _ _ _ _ _ HXB.out).trans rfl
      have r1 : w1.cell? ⟨wo.heap.size, 1, none⟩ = some (.int .i64 lo) := (cell_of_row _ _ _ _ _ _ HXB.out).trans rfl
      have r2 : w1.cell? ⟨wo.heap.size, 2, none⟩ = some (.int .i64 hi) := (cell_of_row _ _ _ _ _ _ HXB.out).trans rfl
      clear hW1 d0 d1 d2 f1 f2 f3
      go_loopw [8] (fun kk wr => ∃ j : Nat, kk = .int .i64 j ∧ e0 ≤ j ∧ j ≤ lo ∧ w1 = wr) (fun kk _ => lo - (intOf kk).toNat)
      case atStart => exact ⟨e0, rfl, Nat.le_refl _, t1, rfl⟩
      case round =>
        obtain ⟨j, rfl, h1, h2, rfl⟩ := hrel
        by_cases hj : j < lo
        · have hji : (j : Int) < (lo : Int) := by omega
          have hjs : j < s.size := by omega
          have hjt : (j : Int) < (s.size : Int) := by omega
          have hb : ((s[j].toNat : Int) == 32) = true := by rw [← HBT.out j hjs, T4.out j h1 hj]; rfl
          go_wp2
          go_roundw
          case rel => exact ⟨j + 1, by go_num, by omega, by omega, trivial⟩
          case measure => simp [intOf]; omega
        · obtain rfl : j = lo := by omega
          have hkc : decide ((j : Int) < (j : Int)) = false := by simp
          go_wp2
          go_loopw [9] (fun kk wr => ∃ i : Nat, kk = .int .i64 i ∧ j ≤ i ∧ i ≤ hi ∧ w1 = wr) (fun kk _ => hi - (intOf kk).toNat)
          case atStart => exact ⟨j, rfl, Nat.le_refl _, by omega, rfl⟩
          case round =>
            obtain ⟨i, rfl, h3, h4, rfl⟩ := hrel
            by_cases hi1 : i < hi
            · have hii : (i : Int) < (hi : Int) := by omega
              have his : i < s.size := by omega
              have hit : (i : Int) < (s.size : Int) := by omega
              have hq : kindP s[i].toNat = q := by rw [← HBT.out i his]; exact T5.out i h3 hi1
              have HK1 := HK.out i his w1
              rw [hq] at HK1
              have HK2 := hide HK1
              clear HK1 hq
              go_wp2_with fail
              refine (HK2.out).mono ?_
              rintro e wz ⟨rfl, rfl⟩
              go_wp2
              go_roundw
              case rel => exact ⟨i + 1, by go_num, by omega, by omega, trivial⟩
              case measure => simp [intOf]; omega
            · obtain rfl : i = hi := by omega
              have hkc : decide ((i : Int) < (i : Int)) = false := by simp
              cases hlong : longB q
              · have h6 := T6.out hlong
                have e1 : ((q : Int) == 1) = false := by unfold longB at hlong; simp at hlong ⊢; omega
                have e2 : ((q : Int) == 2) = false := by unfold longB at hlong; simp at hlong ⊢; omega
                have e3 : ((i : Int) == (j : Int) + 1) = true := by rw [h6]; simp
                clear hlong h6
                go_wp2_with fail
                go_quiet (fail)
                go_wp2
                go_roundw
                case rel => exact ⟨k + 1, by omega, by go_num, by rw [HEN.out], bel_drawn hbB _⟩
                case measure => simp [intOf]; omega
              · have H7 := hide (T7.out hlong)
                have hq12 : q = 1 ∨ q = 2 := by unfold longB at hlong; simp at hlong; omega
                by_cases his : i < s.size
                · have hit : (i : Int) < (s.size : Int) := by omega
                  have hne := H7.out his
                  rw [HBT.out i his] at hne
                  have HK1 := HK.out i his
                  generalize kindP s[i].toNat = z at *
                  have HK2 := hide (fun w' => (HK1 w').mono fun e w'' (h : e = .returned (.int .i64 (z : Int)) ∧ w' = w'') => (show e = .returned (.int .i64 (z : Int)) ∧ w'' = w' from ⟨h.1, h.2.symm⟩))
                  have hzq : ((z : Int) == (q : Int)) = false := by simp; omega
                  clear HK1 hlong hne
                  rcases hq12 with rfl | rfl
                  · go_wp2_with fail
                    go_quiet ((go_at_call 25; exact Calls.quiet_of_same (HK2.out _)))
                    go_wp2
                    go_roundw
                    case rel => exact ⟨k + 1, by omega, by go_num, by rw [HEN.out], bel_drawn hbB _⟩
                    case measure => simp [intOf]; omega
                  · go_wp2_with fail
                    go_quiet ((go_at_call 25; exact Calls.quiet_of_same (HK2.out _)))
                    go_wp2
                    go_roundw
                    case rel => exact ⟨k + 1, by omega, by go_num, by rw [HEN.out], bel_drawn hbB _⟩
                    case measure => simp [intOf]; omega
                · obtain rfl : i = s.size := by omega
                  have hit : decide ((s.size : Int) < (s.size : Int)) = false := by simp
                  clear hlong
                  rcases hq12 with rfl | rfl
                  · go_wp2_with fail
                    go_quiet (fail)
                    go_wp2
                    go_roundw
                    case rel => exact ⟨k + 1, by omega, by go_num, by rw [HEN.out], bel_drawn hbB _⟩
                    case measure => simp [intOf]; omega
                  · go_wp2_with fail
                    go_quiet (fail)
                    go_wp2
                    go_roundw
                    case rel => exact ⟨k + 1, by omega, by go_num, by rw [HEN.out], bel_drawn hbB _⟩
                    case measure => simp [intOf]; omega
    · obtain rfl : k = L.length := by omega
      have hkc : decide ((L.length : Int) < (L.length : Int)) = false := by simp
      have HR := hide HT.out.rest
      have hle := HT.out.le
      generalize endAt L L.length = e0 at *
      go_wp2
      go_loopw [12] (fun kk wr => ∃ j : Nat, kk = .int .i64 j ∧ e0 ≤ j ∧ j ≤ s.size ∧ wo = wr) (fun kk _ => s.size - (intOf kk).toNat)
      case atStart => exact ⟨e0, rfl, Nat.le_refl _, hle, rfl⟩
      case round =>
        obtain ⟨j, rfl, h1, h2, rfl⟩ := hrel
        by_cases hj : j < s.size
        · have hji : (j : Int) < (s.size : Int) := by omega
          have hb : ((s[j].toNat : Int) == 32) = true := by rw [← HBT.out j hj, HR.out j h1 hj]; rfl
          go_wp2
          go_roundw
          case rel => exact ⟨j + 1, by go_num, by omega, by omega, trivial⟩
          case measure => simp [intOf]; omega
        · obtain rfl : j = s.size := by omega
          have hkc : decide ((s.size : Int) < (s.size : Int)) = false := by simp
          go_wp2
          go_ret
          exact ⟨rfl, hbel⟩
end Go.Proofs.Ytgigkiocdiffjaa
