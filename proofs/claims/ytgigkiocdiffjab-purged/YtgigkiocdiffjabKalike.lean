/- veilkeep.alike, of two documents that answer a level the same. -/
import Derived.Test.YtgigkiocdiffjabUKask
import Derived.Test.YtgigkiocdiffjabUKsame
namespace Go.Proofs.Ytgigkiocdiffjab
open Go.RowKit Veil
set_option maxRecDepth 100000 in
set_option maxHeartbeats 4000000 in
theorem kalike_any {F : Nat → Prop} {B ga gb ka kb : Nat} {w : World} {c : Cfg} {s s' : PSt} (h : Two F B w ga gb c s s' ka kb) (lv : Nat) (hlv : lv < c.n) (hka : ka ≤ 3000000000000) (hkb : kb ≤ 3000000000000) (hq : ∀ k : Nat, stepAns c s' (askK k lv) = stepAns c s (askK k lv)) :
    Calls Try.prog 21 #[.pointer (some ⟨ga, 0, none⟩), .pointer (some ⟨gb, 0, none⟩), .int .i64 lv] w fun e w' => e = .returned (.bool true) ∧ Two F B w' ga gb c (polled s lv) (polled s' lv) (ka + 6) (kb + 6) ∧ LeftF F B w w' := by
  have hc := (labels_of h.right.labels).2.2.2.2.1
  have HT := hide h
  have HE := hide (fun k (hk : 5 ≤ k) (hk2 : k ≤ 10) (s : PSt) => ask_e (s := s) (k := k) hc hlv hk hk2)
  have HS := hide (fun k (hk : 5 ≤ k) (hk2 : k ≤ 10) (s : PSt) => ask_st (s := s) (k := k) hc hlv hk hk2)
  have HQ := hide hq
  clear h hc hq
  go_enter Try.func21, Try.ntmps21
  go_wp2
  go_loopw [7] (fun i wr => ∃ k : Nat, 5 ≤ k ∧ k ≤ 11 ∧ i = .int .i64 k ∧ Two F B wr ga gb c (stA s lv k) (stA s' lv k) (ka + (k - 5)) (kb + (k - 5)) ∧ LeftF F B w wr) (fun i _ => 11 - (intOf i).toNat)
  case atStart => exact ⟨5, by omega, by omega, rfl, HT.out, LeftF.refl _ _ _⟩
  case round =>
    obtain ⟨wo, rfl⟩ : ∃ x, x = wr := ⟨_, rfl⟩
    obtain ⟨k, hk, hk2, rfl, htwo, hbel⟩ := hrel
    have HTW := hide htwo
    clear htwo
    by_cases hlt : k ≤ 10
    · have hki : (k : Int) ≤ 10 := by omega
      have hst : ∀ s, stA s lv k = s := fun s => by unfold stA; rw [decide_eq_false (by omega)]; rfl
      rw [hst, hst] at HTW
      have HTB := hide (two_both HTW.out (by omega) (by omega) (askK k lv) (by show (0 : Nat) ≤ _; omega))
      have HLE := hide (by obtain ⟨pa, pb, h1, h2, h3, h4⟩ := HTW.out; exact ans_le h1 (askK k lv))
      have HEK := hide (HE.out k hk hlt s)
      have HSK := hide (HS.out k hk hlt s)
      have HSK2 := hide (HS.out k hk hlt s')
      clear hst
      generalize hA : stepAns c s (askK k lv) = A at HTB HLE HEK
      have HAE := hide hA
      clear hA
      obtain ⟨ae, an, ax, al⟩ := A
      obtain rfl : ae = 0 := HEK.out
      go_wp2_with fail
      refine (HTB.out).mono ?_
      rintro e w1 ⟨vt, rfl, ⟨tao, tn, tcap, rfl⟩, htw1, hl1, hnext⟩
      have HT1 := hide htw1
      have HL1 := hide hl1
      have hnext2 := fun w2 hb => hnext w2 hb (askK k lv) (by show (0 : Nat) ≤ _; omega)
      rw [HQ.out, HAE.out] at hnext2
      have HN1 := hide hnext2
      clear htw1 hl1 hnext hnext2
      unfold toldC at *
      have HB1 := hide (below_box w1 (.cells #[.int .i64 0, .int .i64 an, .string ax, .slice tao tn tcap] 37))
      have HX1 := hide (Go.heap_alloc_new w1 (.cells #[.int .i64 0, .int .i64 an, .string ax, .slice tao tn tcap] 37))
      go_wp2_with fail
      refine (HN1.out _ HB1.out).mono ?_
      rintro e w3 ⟨vu, rfl, ⟨uao, un, ucap, rfl⟩, hot, hou, htw3, hl3, hs3, hkeep⟩
      have hx3 := (hkeep w1.heap.size HL1.out.low.size (by simp)).trans HX1.out
      have HB3 := hide (below_box w3 (.cells #[.int .i64 0, .int .i64 an, .string ax, .slice uao un ucap] 37))
      have hx4 := Below.row HB3.out hx3 (lt_of_row hx3)
      have HX4 := hide hx4
      generalize hW4 : w3.alloc (.cells #[.int .i64 0, .int .i64 an, .string ax, .slice uao un ucap] 37) = w4 at *
      have hy4 : w4.heap[w3.heap.size]? = some (.cells #[.int .i64 0, .int .i64 an, .string ax, .slice uao un ucap] 37 (0, 0)) := by rw [← hW4]; exact Go.heap_alloc_new w3 _
      have a0 : w4.cell? ⟨w1.heap.size, 0, none⟩ = some (.int .i64 0) := (cell_of_row _ _ _ _ _ _ hx4).trans rfl
      have a1 : w4.cell? ⟨w1.heap.size, 1, none⟩ = some (.int .i64 an) := (cell_of_row _ _ _ _ _ _ hx4).trans rfl
      have a2 : w4.cell? ⟨w1.heap.size, 2, none⟩ = some (.string ax) := (cell_of_row _ _ _ _ _ _ hx4).trans rfl
      have a3 : w4.cell? ⟨w1.heap.size, 3, none⟩ = some (.slice tao tn tcap) := (cell_of_row _ _ _ _ _ _ hx4).trans rfl
      have b0 : w4.cell? ⟨w3.heap.size, 0, none⟩ = some (.int .i64 0) := (cell_of_row _ _ _ _ _ _ hy4).trans rfl
      have b1 : w4.cell? ⟨w3.heap.size, 1, none⟩ = some (.int .i64 an) := (cell_of_row _ _ _ _ _ _ hy4).trans rfl
      have b2 : w4.cell? ⟨w3.heap.size, 2, none⟩ = some (.string ax) := (cell_of_row _ _ _ _ _ _ hy4).trans rfl
      have b3 : w4.cell? ⟨w3.heap.size, 3, none⟩ = some (.slice uao un ucap) := (cell_of_row _ _ _ _ _ _ hy4).trans rfl
      have HSM := hide (ksame_eq 0 an ax al _ _ _ _ w4 (hot.below HB3.out) (hou.below HB3.out) HLE.out)
      have HT4 := hide (Two.below htw3 HB3.out)
      have HL4 := hide ((hbel.trans hl3).trans (LeftF.below HB3.out (Two.old htw3) (Two.lt htw3)))
      clear hot hou htw3 hl3 hs3 hkeep hx3 hx4 hy4
      unfold toldC at *
      go_wp2_with fail
      refine (HSM.out).mono ?_
      rintro e w5 ⟨rfl, hb5⟩
      have hx5 := Below.row hb5 HX4.out (lt_of_row HX4.out)
      have c0 : w5.cell? ⟨w1.heap.size, 0, none⟩ = some (.int .i64 0) := (cell_of_row _ _ _ _ _ _ hx5).trans rfl
      have HT5 := hide (Two.below HT4.out hb5)
      have HL5 := hide (HL4.out.trans (LeftF.below hb5 (Two.old HT4.out) (Two.lt HT4.out)))
      clear hx5 a0 a1 a2 a3 b0 b1 b2 b3
      go_wp2
      go_roundw
      case rel =>
        refine ⟨k + 1, by omega, by omega, by go_num, ?_, HL5.out⟩
        have := HT5.out
        rw [HSK.out, HSK2.out, show ka + (k - 5) + 1 = ka + (k + 1 - 5) by omega, show kb + (k - 5) + 1 = kb + (k + 1 - 5) by omega] at this
        exact this
      case measure => simp [intOf]; omega
    · obtain rfl : k = 11 := by omega
      have hkc : decide ((11 : Int) ≤ 10) = false := by decide
      go_wp2
      go_ret
      exact ⟨rfl, HTW.out, hbel⟩
theorem kalike_eq {F : Nat → Prop} {B ga gb ka kb : Nat} {w : World} {c : Cfg} {s : PSt} (h : Two F B w ga gb c s s ka kb) (lv : Nat) (hlv : lv < c.n) (hka : ka ≤ 3000000000000) (hkb : kb ≤ 3000000000000) :
    Calls Try.prog 21 #[.pointer (some ⟨ga, 0, none⟩), .pointer (some ⟨gb, 0, none⟩), .int .i64 lv] w fun e w' => e = .returned (.bool true) ∧ Two F B w' ga gb c (polled s lv) (polled s lv) (ka + 6) (kb + 6) ∧ LeftF F B w w' := kalike_any h lv hlv hka hkb (fun _ => rfl)
end Go.Proofs.Ytgigkiocdiffjab
