/- veilkeep.Matched: the law's walk. -/
import Derived.Test.YtgigkiocdiffjaaMatched
namespace Go.Proofs.Ytgigkiocdiffjaa
open Go.RowKit Veil
def lawTo (s : ByteArray) (k : Nat) : Bool := (decide (1 ≤ s.size) && decide (s.size ≤ 12)) && validTo s k
theorem lawTo_zero (s : ByteArray) : lawTo s 0 = (decide (1 ≤ s.size) && decide (s.size ≤ 12)) := by simp [lawTo, validTo]
theorem lawTo_succ (s : ByteArray) (k : Nat) (h : k < s.size) : lawTo s (k + 1) = (lawTo s k && mayB s[k].toNat) := by
  unfold lawTo; rw [validTo_succ s k h]; simp only [Bool.and_assoc]
theorem lawTo_all (s : ByteArray) : lawTo s s.size = validB s := by
  unfold lawTo validTo validB validL
  rw [List.take_of_length_le (by rw [bytes_length]; exact Nat.le_refl _), bytes_length]
theorem int_bd (s : ByteArray) : ((1 : Int) ≤ (s.size : Int)) = (1 ≤ s.size) := by simp; omega

set_option maxHeartbeats 1000000 in
theorem law_no (s t : ByteArray) (w : World) (hs : validB s = false) (hsl : s.size ≤ maxLen) :
    Calls Try.prog 3 #[.string s, .string t] w fun e w' => e = .returned (.bool true) ∧ Below w.heap.size w w' := by
  have hm : s.size ≤ maxLen := hsl
  unfold maxLen at hsl
  go_enter Try.func3, Try.ntmps3
  go_wp2_with fail
  refine (match_no s t _ hs hm).mono ?_
  rintro e w' ⟨rfl, rfl⟩
  by_cases g1 : 1 ≤ s.size
  all_goals
    go_wp2
    go_loop [7, 8] (fun v i => ∃ k : Nat, k ≤ s.size ∧ i = .int .i64 k ∧ v = .bool (lawTo s k)) (fun _ i => s.size - (intOf i).toNat)
    case atStart => exact ⟨0, Nat.zero_le _, rfl, by rw [lawTo_zero]; simp [g1]; try omega⟩
    case round =>
      obtain ⟨k, hk, rfl, rfl⟩ := hrel
      by_cases hlt : k < s.size
      · have HL : Hid _ := lawTo_succ s k hlt
        cases hl : lawTo s k
        all_goals
          go_wp2_with (go_at_call 7; refine (sign_any _ _).mono ?_; rintro e w' ⟨rfl, rfl⟩)
          go_round
          case rel => exact ⟨k + 1, by omega, by go_num, by rw [HL.out, hl]; simp⟩
          case measure => simp [intOf]; omega
      · have : k = s.size := by omega
        subst this
        have hl : lawTo s s.size = false := by rw [lawTo_all, hs]
        go_wp2
        go_ret
        exact ⟨rfl, Below.refl _ _⟩

theorem tail_empty (t : ByteArray) (h : 0 < t.size) : cutB [] (bytes t).tail = ((t.size : Int) == 1) := by
  rw [Bool.eq_iff_iff]
  simp only [cutB, List.isEmpty_iff, beq_iff_eq]
  constructor
  · intro e
    have := congrArg List.length e
    rw [List.length_tail, bytes_length] at this
    simp at this; omega
  · intro e; exact tail_nil t (by omega)
theorem bb (x : Bool) : (x == x) = true := by simp
theorem bf (a b : UInt8) (h : a ≠ b) : (((a.toNat : Int) == (b.toNat : Int)) : Bool) = false := by rw [eqB]; simpa using h
set_option maxRecDepth 100000 in
set_option maxHeartbeats 4000000 in
theorem law_yes (s t : ByteArray) (w : World) (hs : validB s = true) (ht : t.size ≤ maxLen) :
    Calls Try.prog 3 #[.string s, .string t] w fun e w' => e = .returned (.bool true) ∧ Below w.heap.size w w' := by
  obtain ⟨g1, g2⟩ := validB_size hs
  have HS : Hid _ := hs
  have htm : t.size ≤ maxLen := ht
  have HL1 : Hid ((t.extract 1 t.size).size ≤ maxLen) := by
    show _ ≤ _
    rw [size_drop1]; omega
  unfold maxLen at ht
  go_enter Try.func3, Try.ntmps3
  go_wp2_with fail
  refine (match_yes s t _ hs htm).mono ?_
  rintro e w1 ⟨rfl, hb1⟩
  obtain ⟨y, hy⟩ : ∃ y, y = cutB (bytes s) (bytes t) := ⟨_, rfl⟩
  rw [← hy]
  have HY : Hid _ := hy
  clear hy
  go_wp2
  go_loop [7, 8] (fun v i => ∃ k : Nat, k ≤ s.size ∧ i = .int .i64 k ∧ v = .bool (lawTo s k)) (fun _ i => s.size - (intOf i).toNat)
  case atStart => exact ⟨0, Nat.zero_le _, rfl, by rw [lawTo_zero]; simp [g1]; try omega⟩
  case round =>
    obtain ⟨k, hk, rfl, rfl⟩ := hrel
    by_cases hlt : k < s.size
    · have HL : Hid _ := lawTo_succ s k hlt
      cases hl : lawTo s k
      all_goals
        go_wp2_with (go_at_call 7; refine (sign_any _ _).mono ?_; rintro e w' ⟨rfl, rfl⟩)
        go_round
        case rel => exact ⟨k + 1, by omega, by go_num, by rw [HL.out, hl]; simp⟩
        case measure => simp [intOf]; omega
    · have : k = s.size := by omega
      subst this
      have hl : lawTo s s.size = true := by rw [lawTo_all, hs]
      have hp0 : (0 : Int) < (s.size : Int) := by omega
      have hx0 : 0 < s.size := by omega
      have hbel : ∀ n, Below w.heap.size w (w1.drewN n) := fun n => ⟨hb1.os, hb1.tape, hb1.output, hb1.size, hb1.block⟩
      clear g1 hk hlt hs
      by_cases ht0 : t.size = 0
      · have HT : Hid _ := bytes_nil t ht0
        by_cases h42 : s[0] = 42
        · have h42b : ((s[0].toNat : Int) == 42) = true := by rw [eq42]; simpa using h42
          have h42c : ((s[0].toNat : Int) != 42) = false := by simp [bne, h42b]
          by_cases h1 : s.size = 1
          · have h1b : ((s.size : Int) == 1) = true := beq_iff_eq.2 (by omega)
            obtain rfl : y = true := by rw [HY.out]; exact one_star s _ h1 h42
            clear h1 h42
            go_wp2_with fail
            go_quiet (fail)
            go_wp2_with fail
            go_ret
            exact ⟨rfl, hbel _⟩
          · have h1b : ((s.size : Int) == 1) = false := beq_eq_false_iff_ne.2 (by omega)
            have hv1 := valid_drop1 s HS.out (by omega)
            obtain rfl : y = cutB (bytes (s.extract 1 s.size)) (bytes t) := by rw [HY.out, HT.out, bytes_drop1]; exact head_star_nil s hx0 h42
            have HV : Hid _ := hv1
            clear h1 h42 hv1 HY
            go_wp2_with fail
            go_quiet (fail)
            go_wp2_with fail
            refine (match_yes (s.extract 1 s.size) t _ HV.out htm).mono ?_
            rintro e w2 ⟨rfl, hb2⟩
            go_wp2_with fail
            all_goals (go_ret; exact ⟨ret_bool (by simp), (hbel _).trans (hb2.mono (by exact (hbel 0).size))⟩)
        · have h42b : ((s[0].toNat : Int) == 42) = false := by rw [eq42]; simpa using h42
          have h42c : ((s[0].toNat : Int) != 42) = true := by simp [bne, h42b]
          obtain rfl : y = false := by rw [HY.out, HT.out]; exact head_nil s hx0 h42
          by_cases h1 : s.size = 1
          · have h1b : ((s.size : Int) == 1) = true := beq_iff_eq.2 (by omega)
            clear h1 h42
            go_wp2_with fail
            go_quiet (fail)
            go_wp2_with fail
            go_ret
            exact ⟨rfl, hbel _⟩
          · have h1b : ((s.size : Int) == 1) = false := beq_eq_false_iff_ne.2 (by omega)
            clear h1 h42
            go_wp2_with fail
            go_quiet (fail)
            go_wp2_with fail
            go_ret
            exact ⟨rfl, hbel _⟩
      · have hd1 : (0 : Int) < (t.size : Int) := by omega
        have hz0 : ((t.size : Int) == 0) = false := beq_eq_false_iff_ne.2 (by omega)
        have hy0 : 0 < t.size := by omega
        clear ht0
        by_cases h42 : s[0] = 42
        · have h42b : ((s[0].toNat : Int) == 42) = true := by rw [eq42]; simpa using h42
          have h42c : ((s[0].toNat : Int) != 42) = false := by simp [bne, h42b]
          have h63b : ((s[0].toNat : Int) == 63) = false := by rw [eq63, h42]; rfl
          by_cases h1 : s.size = 1
          · have h1b : ((s.size : Int) == 1) = true := beq_iff_eq.2 (by omega)
            obtain rfl : y = true := by rw [HY.out]; exact one_star s _ h1 h42
            clear h1 h42
            go_wp2_with fail
            go_quiet (fail)
            go_wp2_with fail
            go_ret
            exact ⟨rfl, hbel _⟩
          · have h1b : ((s.size : Int) == 1) = false := beq_eq_false_iff_ne.2 (by omega)
            have HV : Hid _ := valid_drop1 s HS.out (by omega)
            have HE : Hid _ := head_star_cons s t hx0 hy0 h42
            clear h1 h42
            go_wp2_with fail
            go_quiet (fail)
            go_wp2_with fail
            refine (match_yes (s.extract 1 s.size) t _ HV.out htm).mono ?_
            rintro e w2 ⟨rfl, hb2⟩
            have hbe2 := (hbel _).trans (hb2.mono (by exact (hbel 0).size))
            cases hz : cutB (bytes (s.extract 1 s.size)) (bytes t)
            · go_wp2_with fail
              refine (match_yes s (t.extract 1 t.size) _ HS.out HL1.out).mono ?_
              rintro e w3 ⟨rfl, hb3⟩
              obtain rfl : y = cutB (bytes s) (bytes (t.extract 1 t.size)) := by rw [HY.out, HE.out, bytes_drop1 t, ← bytes_drop1 s, hz]; rfl
              clear HY
              go_wp2
              go_ret
              exact ⟨ret_bool (by simp), hbe2.trans (hb3.mono (by exact hbe2.size))⟩
            · obtain rfl : y = true := by rw [HY.out, HE.out, ← bytes_drop1 s, hz]; rfl
              go_wp2
              go_ret
              exact ⟨rfl, hbe2⟩
        · have h42b : ((s[0].toNat : Int) == 42) = false := by rw [eq42]; simpa using h42
          have h42c : ((s[0].toNat : Int) != 42) = true := by simp [bne, h42b]
          have HE : Hid _ := head_cons s t hx0 hy0 h42
          clear h42
          by_cases h63 : s[0] = 63
          · have h63b : ((s[0].toNat : Int) == 63) = true := by rw [eq63]; simpa using h63
            have HF : Hid (cutB (bytes s) (bytes t) = cutB (bytes s).tail (bytes t).tail) := by
              show _ = _
              rw [HE.out, h63]; simp
            clear h63 HE
            by_cases h1 : s.size = 1
            · have h1b : ((s.size : Int) == 1) = true := beq_iff_eq.2 (by omega)
              obtain rfl : y = ((t.size : Int) == 1) := by rw [HY.out, HF.out, tail_nil s h1]; exact tail_empty t hy0
              clear h1 HY
              go_wp2_with fail
              go_quiet (fail)
              go_wp2_with fail
              go_ret
              exact ⟨ret_bool (by simp), hbel _⟩
            · have h1b : ((s.size : Int) == 1) = false := beq_eq_false_iff_ne.2 (by omega)
              have HV : Hid _ := valid_drop1 s HS.out (by omega)
              obtain rfl : y = cutB (bytes (s.extract 1 s.size)) (bytes (t.extract 1 t.size)) := by rw [HY.out, HF.out, bytes_drop1 s, bytes_drop1 t]
              clear h1 HY
              go_wp2_with fail
              go_quiet (fail)
              go_wp2_with fail
              go_region_with (go_at_call 6; refine (match_yes (s.extract 1 s.size) (t.extract 1 t.size) _ HV.out HL1.out).mono ?_; rintro e w2 ⟨rfl, hb2⟩)
              all_goals
                go_wp2
                go_ret
                exact ⟨ret_bool (by simp), (hbel _).drew.trans (hb2.mono (by exact (hbel 0).size))⟩
          · have h63b : ((s[0].toNat : Int) == 63) = false := by rw [eq63]; simpa using h63
            by_cases hq : s[0] = t[0]
            · have hqb : ((s[0].toNat : Int) == (t[0].toNat : Int)) = true := by rw [eqB]; simpa using hq
              have HF : Hid (cutB (bytes s) (bytes t) = cutB (bytes s).tail (bytes t).tail) := by
                show _ = _
                rw [HE.out, hq]; simp
              clear h63 HE hq
              by_cases h1 : s.size = 1
              · have h1b : ((s.size : Int) == 1) = true := beq_iff_eq.2 (by omega)
                obtain rfl : y = ((t.size : Int) == 1) := by rw [HY.out, HF.out, tail_nil s h1]; exact tail_empty t hy0
                clear h1 HY
                go_wp2_with fail
                go_quiet (fail)
                go_wp2_with fail
                go_ret
                exact ⟨ret_bool (by simp), hbel _⟩
              · have h1b : ((s.size : Int) == 1) = false := beq_eq_false_iff_ne.2 (by omega)
                have HV : Hid _ := valid_drop1 s HS.out (by omega)
                obtain rfl : y = cutB (bytes (s.extract 1 s.size)) (bytes (t.extract 1 t.size)) := by rw [HY.out, HF.out, bytes_drop1 s, bytes_drop1 t]
                clear h1 HY
                go_wp2_with fail
                go_quiet (fail)
                go_wp2_with fail
                go_region_with (go_at_call 6; refine (match_yes (s.extract 1 s.size) (t.extract 1 t.size) _ HV.out HL1.out).mono ?_; rintro e w2 ⟨rfl, hb2⟩)
                all_goals
                  go_wp2
                  go_ret
                  exact ⟨ret_bool (by simp), (hbel _).drew.trans (hb2.mono (by exact (hbel 0).size))⟩
            · have hqb := bf _ _ hq
              obtain rfl : y = false := by rw [HY.out, HE.out]; simp [h63, hq]
              clear h63 HE hq HY
              by_cases h1 : s.size = 1
              · have h1b : ((s.size : Int) == 1) = true := beq_iff_eq.2 (by omega)
                clear h1
                go_wp2_with fail
                go_quiet (fail)
                go_wp2_with fail
                go_ret
                exact ⟨rfl, hbel _⟩
              · have h1b : ((s.size : Int) == 1) = false := beq_eq_false_iff_ne.2 (by omega)
                clear h1
                go_wp2_with fail
                go_quiet (fail)
                go_wp2_with fail
                go_ret
                exact ⟨rfl, hbel _⟩
end Go.Proofs.Ytgigkiocdiffjaa
