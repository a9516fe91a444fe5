/- veilref.join, meet. -/
import Derived.Test.YtgigkiocdiffjaaGreatRleq
namespace Go.Proofs.YtgigkiocdiffjaaGreat
open Go.RowKit Veil
theorem all_range_succ (k : Nat) (f : Nat → Bool) : (List.range (k + 1)).all f = ((List.range k).all f && f k) := by rw [List.range_succ, List.all_append]; simp
theorem ret_int' {a b : Int} (h : a = b) : Ending.returned (.int .i64 a) = .returned (.int .i64 b) := by rw [h]
theorem all_false {n k : Nat} {f : Nat → Bool} (h : k ≤ n) (hf : (List.range k).all f = false) : (List.range n).all f = false := by
  rw [List.all_eq_false] at *
  obtain ⟨x, hx, h1⟩ := hf
  exact ⟨x, by simp at *; omega, h1⟩

theorem isJoin_def (c : Cfg) (a b j : Nat) : c.isJoin a b j = ((c.le a j && c.le b j) && (List.range c.n).all fun k => !((c.le a k && c.le b k) && !c.le j k)) := rfl
set_option maxRecDepth 100000 in
set_option maxHeartbeats 8000000 in
theorem rjoin_any (c : Cfg) (v : CfgV) (a b : Nat) (w : World) (hl : labelsB c = true) (hat : CfgAt w c v) (ha : a < c.n) (hb : b < c.n) :
    Calls Tryz.prog 103 #[.agg (cfgCells c v), .int .i64 a, .int .i64 b] w fun e w' => e = .returned (.int .i64 (c.join a b)) ∧ Below w.heap.size w w' := by
  obtain ⟨_, _, _, _, hn, hn6, hn1⟩ := labels_of hl
  have hle1 : (c.n : Int) ≤ c.labels := by omega
  have hle2 : c.labels ≤ (c.n : Int) := by omega
  have HL := hide hl
  have HAT := hide hat
  clear hl hat hn
  have hleq : ∀ (x y : Nat) (w' : World), x < c.n → y < c.n → Below w.heap.size w w' → Calls Tryz.prog 102 #[.agg (cfgCells c v), .int .i64 x, .int .i64 y] w' fun e w'' => e = .returned (.bool (c.le x y)) ∧ Below w'.heap.size w' w'' :=
    fun x y w' hx hy hb => rleq_any c v x y w' HL.out (HAT.out.below hb) hx hy
  have HQ := hide hleq
  clear hleq
  unfold cfgCells at *
  go_enter Tryz.func103, Tryz.ntmps103
  go_wp2
  go_loopw [7] (fun i wr => ∃ j : Nat, j ≤ c.n ∧ i = .int .i64 j ∧ (∀ x, x < j → c.isJoin a b x = false) ∧ BoxAt wr w.heap.size c v ∧ Below w.heap.size w wr) (fun i _ => c.n - (intOf i).toNat)
  case atStart => exact ⟨0, Nat.zero_le _, rfl, fun x hx => absurd hx (Nat.not_lt_zero _), box_new _ _ _, below_box _ _⟩
  case round =>
    obtain ⟨wo, rfl⟩ : ∃ x, x = wr := ⟨_, rfl⟩
    obtain ⟨j, hj, rfl, hno, hbox, hbel⟩ := hrel
    have HNO := hide hno
    have HB := hide hbox
    obtain ⟨q0, q1, q2, q3⟩ := hbox.cells
    clear hno hbox
    by_cases hlt : j < c.n
    · have hlt' : (j : Int) < c.labels := by omega
      have hd : decide ((j : Int) < c.labels) = true := decide_eq_true hlt'
      have HD := hide (isJoin_def c a b j)
      cases h1 : c.le a j
      · go_wp2_with fail
        refine (HQ.out a j _ (by omega) (by omega) hbel).mono ?_
        rintro e w1 ⟨rfl, hb1⟩
        rw [h1]
        have HB1 := hide (HB.out.below hb1 HB.out.lt)
        obtain ⟨p0, p1, p2, p3⟩ := HB1.out.cells
        have hbel1 := hbel.trans (hb1.mono hbel.size)
        have HF := hide h1
        clear q0 q1 q2 q3 hb1 h1
        go_wp2
        refine wp_loop_rounds 1 ?_
        rw [rounds_succ]
        go_wp2
        go_roundw
        case rel =>
          refine ⟨j + 1, by omega, by go_num, fun x hx => ?_, HB1.out, hbel1⟩
          by_cases e : x = j
          · rw [e, HD.out, HF.out]; rfl
          · exact HNO.out x (by omega)
        case measure => simp [intOf]; omega
      cases h2 : c.le b j
      · go_wp2_with fail
        refine (HQ.out a j _ (by omega) (by omega) hbel).mono ?_
        rintro e w1 ⟨rfl, hb1⟩
        rw [h1]
        have HB1 := hide (HB.out.below hb1 HB.out.lt)
        obtain ⟨p0, p1, p2, p3⟩ := HB1.out.cells
        have hbel1 := hbel.trans (hb1.mono hbel.size)
        clear q0 q1 q2 q3 hb1
        go_wp2_with fail
        refine (HQ.out b j _ (by omega) (by omega) hbel1).mono ?_
        rintro e w2 ⟨rfl, hb2⟩
        rw [h2]
        have HB2 := hide (HB1.out.below hb2 HB1.out.lt)
        obtain ⟨q0, q1, q2, q3⟩ := HB2.out.cells
        have hbel2 := hbel1.trans (hb2.mono hbel1.size)
        have HF := hide h2
        clear p0 p1 p2 p3 hb2 h1 h2
        go_wp2
        refine wp_loop_rounds 1 ?_
        rw [rounds_succ]
        go_wp2
        go_roundw
        case rel =>
          refine ⟨j + 1, by omega, by go_num, fun x hx => ?_, HB2.out, hbel2⟩
          by_cases e : x = j
          · rw [e, HD.out, HF.out]; simp
          · exact HNO.out x (by omega)
        case measure => simp [intOf]; omega
      go_wp2_with fail
      refine (HQ.out a j _ (by omega) (by omega) hbel).mono ?_
      rintro e w1 ⟨rfl, hb1⟩
      rw [h1]
      have HB1 := hide (HB.out.below hb1 HB.out.lt)
      obtain ⟨p0, p1, p2, p3⟩ := HB1.out.cells
      have hbel1 := hbel.trans (hb1.mono hbel.size)
      clear q0 q1 q2 q3 hb1
      go_wp2_with fail
      refine (HQ.out b j _ (by omega) (by omega) hbel1).mono ?_
      rintro e w2 ⟨rfl, hb2⟩
      rw [h2]
      have HB2 := hide (HB1.out.below hb2 HB1.out.lt)
      obtain ⟨q0, q1, q2, q3⟩ := HB2.out.cells
      have hbel2 := hbel1.trans (hb2.mono hbel1.size)
      have HU := hide (show (c.le a j && c.le b j) = true by rw [h1, h2]; rfl)
      clear p0 p1 p2 p3 hb2 h1 h2 hbel1
      go_wp2
      go_loopw [8, 9] (fun ok kk wr => ∃ k : Nat, k ≤ c.n ∧ kk = .int .i64 k ∧ ok = .bool ((List.range k).all fun k => !((c.le a k && c.le b k) && !c.le j k)) ∧ BoxAt wr w.heap.size c v ∧ Below w.heap.size w wr) (fun _ kk _ => c.n - (intOf kk).toNat)
      case atStart => exact ⟨0, Nat.zero_le _, rfl, rfl, HB2.out, hbel2⟩
      case round =>
        obtain ⟨wi, rfl⟩ : ∃ x, x = wr := ⟨_, rfl⟩
        obtain ⟨k, hk, rfl, rfl, hbox, hbel3⟩ := hrel
        have HB3 := hide hbox
        obtain ⟨s0, s1, s2, s3⟩ := hbox.cells
        clear hbox q0 q1 q2 q3
        cases hall : (List.range k).all fun k => !((c.le a k && c.le b k) && !c.le j k)
        · have HF := hide (all_false hk hall)
          clear hall
          by_cases hkn : k < c.n
          · have hkd : (k : Int) < c.labels := by omega
            go_wp2
            go_roundw
            case rel =>
              refine ⟨j + 1, by omega, by go_num, fun x hx => ?_, HB3.out, hbel3⟩
              by_cases e : x = j
              · rw [e, HD.out, HF.out]; simp
              · exact HNO.out x (by omega)
            case measure => simp [intOf]; omega
          · have hkd : c.labels ≤ (k : Int) := by omega
            go_wp2
            go_roundw
            case rel =>
              refine ⟨j + 1, by omega, by go_num, fun x hx => ?_, HB3.out, hbel3⟩
              by_cases e : x = j
              · rw [e, HD.out, HF.out]; simp
              · exact HNO.out x (by omega)
            case measure => simp [intOf]; omega
        by_cases hkn : k < c.n
        · have hkd : (k : Int) < c.labels := by omega
          have HS := hide (all_range_succ k fun k => !((c.le a k && c.le b k) && !c.le j k))
          have HA := hide hall
          clear hall
          cases g1 : c.le a k
          · go_wp2_with fail
            refine (HQ.out a k _ (by omega) (by omega) hbel3).mono ?_
            rintro e w3 ⟨rfl, hb3⟩
            rw [g1]
            have HB4 := hide (HB3.out.below hb3 HB3.out.lt)
            have hbel4 := hbel3.trans (hb3.mono hbel3.size)
            have G1 := hide g1
            clear s0 s1 s2 s3 hb3 g1
            go_wp2
            go_roundw
            case rel => exact ⟨k + 1, by omega, by go_num, by rw [HS.out, HA.out, G1.out]; rfl, HB4.out, hbel4⟩
            case measure => simp [intOf]; omega
          cases g2 : c.le b k
          · go_wp2_with fail
            refine (HQ.out a k _ (by omega) (by omega) hbel3).mono ?_
            rintro e w3 ⟨rfl, hb3⟩
            rw [g1]
            have HB4 := hide (HB3.out.below hb3 HB3.out.lt)
            obtain ⟨p0, p1, p2, p3⟩ := HB4.out.cells
            have hbel4 := hbel3.trans (hb3.mono hbel3.size)
            clear s0 s1 s2 s3 hb3
            go_wp2_with fail
            refine (HQ.out b k _ (by omega) (by omega) hbel4).mono ?_
            rintro e w4 ⟨rfl, hb4⟩
            rw [g2]
            have HB5 := hide (HB4.out.below hb4 HB4.out.lt)
            have hbel5 := hbel4.trans (hb4.mono hbel4.size)
            have G2 := hide g2
            clear p0 p1 p2 p3 hb4 g1 g2
            go_wp2
            go_roundw
            case rel => exact ⟨k + 1, by omega, by go_num, by rw [HS.out, HA.out, G2.out]; simp, HB5.out, hbel5⟩
            case measure => simp [intOf]; omega
          go_wp2_with fail
          refine (HQ.out a k _ (by omega) (by omega) hbel3).mono ?_
          rintro e w3 ⟨rfl, hb3⟩
          rw [g1]
          have HB4 := hide (HB3.out.below hb3 HB3.out.lt)
          obtain ⟨p0, p1, p2, p3⟩ := HB4.out.cells
          have hbel4 := hbel3.trans (hb3.mono hbel3.size)
          clear s0 s1 s2 s3 hb3
          go_wp2_with fail
          refine (HQ.out b k _ (by omega) (by omega) hbel4).mono ?_
          rintro e w4 ⟨rfl, hb4⟩
          rw [g2]
          have HB5 := hide (HB4.out.below hb4 HB4.out.lt)
          obtain ⟨s0, s1, s2, s3⟩ := HB5.out.cells
          have hbel5 := hbel4.trans (hb4.mono hbel4.size)
          clear p0 p1 p2 p3 hb4
          go_wp2_with fail
          refine (HQ.out j k _ (by omega) (by omega) hbel5).mono ?_
          rintro e w5 ⟨rfl, hb5⟩
          have HB6 := hide (HB5.out.below hb5 HB5.out.lt)
          have hbel6 := hbel5.trans (hb5.mono hbel5.size)
          have G12 := hide (show (c.le a k && c.le b k) = true by rw [g1, g2]; rfl)
          clear s0 s1 s2 s3 hb5 g1 g2
          cases g3 : c.le j k
          · have G3 := hide g3
            clear g3
            go_wp2
            go_roundw
            case rel => exact ⟨k + 1, by omega, by go_num, by rw [HS.out, HA.out, G12.out, G3.out]; rfl, HB6.out, hbel6⟩
            case measure => simp [intOf]; omega
          · have G3 := hide g3
            clear g3
            go_wp2
            go_roundw
            case rel => exact ⟨k + 1, by omega, by go_num, by rw [HS.out, HA.out, G12.out, G3.out]; rfl, HB6.out, hbel6⟩
            case measure => simp [intOf]; omega
        · have hkd : c.labels ≤ (k : Int) := by omega
          have hkn' : k = c.n := by omega
          have HA := hide (show c.isJoin a b j = true by rw [HD.out, HU.out, ← hkn', hall]; rfl)
          clear hall hkn'
          go_wp2
          go_ret
          exact ⟨ret_int' (firstN_yes hlt HA.out HNO.out).symm, hbel3⟩
    · have hge : c.labels ≤ (j : Int) := by omega
      go_wp2
      go_ret
      exact ⟨ret_int' (firstN_no fun i hi => HNO.out i (by omega)).symm, hbel⟩

theorem isMeet_def (c : Cfg) (a b j : Nat) : c.isMeet a b j = ((c.le j a && c.le j b) && (List.range c.n).all fun k => !((c.le k a && c.le k b) && !c.le k j)) := rfl
set_option maxRecDepth 100000 in
set_option maxHeartbeats 8000000 in
theorem rmeet_any (c : Cfg) (v : CfgV) (a b : Nat) (w : World) (hl : labelsB c = true) (hat : CfgAt w c v) (ha : a < c.n) (hb : b < c.n) :
    Calls Tryz.prog 104 #[.agg (cfgCells c v), .int .i64 a, .int .i64 b] w fun e w' => e = .returned (.int .i64 (c.meet a b)) ∧ Below w.heap.size w w' := by
  obtain ⟨_, _, _, _, hn, hn6, hn1⟩ := labels_of hl
  have hle1 : (c.n : Int) ≤ c.labels := by omega
  have hle2 : c.labels ≤ (c.n : Int) := by omega
  have HL := hide hl
  have HAT := hide hat
  clear hl hat hn
  have hleq : ∀ (x y : Nat) (w' : World), x < c.n → y < c.n → Below w.heap.size w w' → Calls Tryz.prog 102 #[.agg (cfgCells c v), .int .i64 x, .int .i64 y] w' fun e w'' => e = .returned (.bool (c.le x y)) ∧ Below w'.heap.size w' w'' :=
    fun x y w' hx hy hb => rleq_any c v x y w' HL.out (HAT.out.below hb) hx hy
  have HQ := hide hleq
  clear hleq
  unfold cfgCells at *
  go_enter Tryz.func104, Tryz.ntmps104
  go_wp2
  go_loopw [7] (fun i wr => ∃ j : Nat, j ≤ c.n ∧ i = .int .i64 j ∧ (∀ x, x < j → c.isMeet a b x = false) ∧ BoxAt wr w.heap.size c v ∧ Below w.heap.size w wr) (fun i _ => c.n - (intOf i).toNat)
  case atStart => exact ⟨0, Nat.zero_le _, rfl, fun x hx => absurd hx (Nat.not_lt_zero _), box_new _ _ _, below_box _ _⟩
  case round =>
    obtain ⟨wo, rfl⟩ : ∃ x, x = wr := ⟨_, rfl⟩
    obtain ⟨j, hj, rfl, hno, hbox, hbel⟩ := hrel
    have HNO := hide hno
    have HB := hide hbox
    obtain ⟨q0, q1, q2, q3⟩ := hbox.cells
    clear hno hbox
    by_cases hlt : j < c.n
    · have hlt' : (j : Int) < c.labels := by omega
      have hd : decide ((j : Int) < c.labels) = true := decide_eq_true hlt'
      have HD := hide (isMeet_def c a b j)
      cases h1 : c.le j a
      · go_wp2_with fail
        refine (HQ.out j a _ (by omega) (by omega) hbel).mono ?_
        rintro e w1 ⟨rfl, hb1⟩
        rw [h1]
        have HB1 := hide (HB.out.below hb1 HB.out.lt)
        obtain ⟨p0, p1, p2, p3⟩ := HB1.out.cells
        have hbel1 := hbel.trans (hb1.mono hbel.size)
        have HF := hide h1
        clear q0 q1 q2 q3 hb1 h1
        go_wp2
        refine wp_loop_rounds 1 ?_
        rw [rounds_succ]
        go_wp2
        go_roundw
        case rel =>
          refine ⟨j + 1, by omega, by go_num, fun x hx => ?_, HB1.out, hbel1⟩
          by_cases e : x = j
          · rw [e, HD.out, HF.out]; rfl
          · exact HNO.out x (by omega)
        case measure => simp [intOf]; omega
      cases h2 : c.le j b
      · go_wp2_with fail
        refine (HQ.out j a _ (by omega) (by omega) hbel).mono ?_
        rintro e w1 ⟨rfl, hb1⟩
        rw [h1]
        have HB1 := hide (HB.out.below hb1 HB.out.lt)
        obtain ⟨p0, p1, p2, p3⟩ := HB1.out.cells
        have hbel1 := hbel.trans (hb1.mono hbel.size)
        clear q0 q1 q2 q3 hb1
        go_wp2_with fail
        refine (HQ.out j b _ (by omega) (by omega) hbel1).mono ?_
        rintro e w2 ⟨rfl, hb2⟩
        rw [h2]
        have HB2 := hide (HB1.out.below hb2 HB1.out.lt)
        obtain ⟨q0, q1, q2, q3⟩ := HB2.out.cells
        have hbel2 := hbel1.trans (hb2.mono hbel1.size)
        have HF := hide h2
        clear p0 p1 p2 p3 hb2 h1 h2
        go_wp2
        refine wp_loop_rounds 1 ?_
        rw [rounds_succ]
        go_wp2
        go_roundw
        case rel =>
          refine ⟨j + 1, by omega, by go_num, fun x hx => ?_, HB2.out, hbel2⟩
          by_cases e : x = j
          · rw [e, HD.out, HF.out]; simp
          · exact HNO.out x (by omega)
        case measure => simp [intOf]; omega
      go_wp2_with fail
      refine (HQ.out j a _ (by omega) (by omega) hbel).mono ?_
      rintro e w1 ⟨rfl, hb1⟩
      rw [h1]
      have HB1 := hide (HB.out.below hb1 HB.out.lt)
      obtain ⟨p0, p1, p2, p3⟩ := HB1.out.cells
      have hbel1 := hbel.trans (hb1.mono hbel.size)
      clear q0 q1 q2 q3 hb1
      go_wp2_with fail
      refine (HQ.out j b _ (by omega) (by omega) hbel1).mono ?_
      rintro e w2 ⟨rfl, hb2⟩
      rw [h2]
      have HB2 := hide (HB1.out.below hb2 HB1.out.lt)
      obtain ⟨q0, q1, q2, q3⟩ := HB2.out.cells
      have hbel2 := hbel1.trans (hb2.mono hbel1.size)
      have HU := hide (show (c.le j a && c.le j b) = true by rw [h1, h2]; rfl)
      clear p0 p1 p2 p3 hb2 h1 h2 hbel1
      go_wp2
      go_loopw [8, 9] (fun ok kk wr => ∃ k : Nat, k ≤ c.n ∧ kk = .int .i64 k ∧ ok = .bool ((List.range k).all fun k => !((c.le k a && c.le k b) && !c.le k j)) ∧ BoxAt wr w.heap.size c v ∧ Below w.heap.size w wr) (fun _ kk _ => c.n - (intOf kk).toNat)
      case atStart => exact ⟨0, Nat.zero_le _, rfl, rfl, HB2.out, hbel2⟩
      case round =>
        obtain ⟨wi, rfl⟩ : ∃ x, x = wr := ⟨_, rfl⟩
        obtain ⟨k, hk, rfl, rfl, hbox, hbel3⟩ := hrel
        have HB3 := hide hbox
        obtain ⟨s0, s1, s2, s3⟩ := hbox.cells
        clear hbox q0 q1 q2 q3
        cases hall : (List.range k).all fun k => !((c.le k a && c.le k b) && !c.le k j)
        · have HF := hide (all_false hk hall)
          clear hall
          by_cases hkn : k < c.n
          · have hkd : (k : Int) < c.labels := by omega
            go_wp2
            go_roundw
            case rel =>
              refine ⟨j + 1, by omega, by go_num, fun x hx => ?_, HB3.out, hbel3⟩
              by_cases e : x = j
              · rw [e, HD.out, HF.out]; simp
              · exact HNO.out x (by omega)
            case measure => simp [intOf]; omega
          · have hkd : c.labels ≤ (k : Int) := by omega
            go_wp2
            go_roundw
            case rel =>
              refine ⟨j + 1, by omega, by go_num, fun x hx => ?_, HB3.out, hbel3⟩
              by_cases e : x = j
              · rw [e, HD.out, HF.out]; simp
              · exact HNO.out x (by omega)
            case measure => simp [intOf]; omega
        by_cases hkn : k < c.n
        · have hkd : (k : Int) < c.labels := by omega
          have HS := hide (all_range_succ k fun k => !((c.le k a && c.le k b) && !c.le k j))
          have HA := hide hall
          clear hall
          cases g1 : c.le k a
          · go_wp2_with fail
            refine (HQ.out k a _ (by omega) (by omega) hbel3).mono ?_
            rintro e w3 ⟨rfl, hb3⟩
            rw [g1]
            have HB4 := hide (HB3.out.below hb3 HB3.out.lt)
            have hbel4 := hbel3.trans (hb3.mono hbel3.size)
            have G1 := hide g1
            clear s0 s1 s2 s3 hb3 g1
            go_wp2
            go_roundw
            case rel => exact ⟨k + 1, by omega, by go_num, by rw [HS.out, HA.out, G1.out]; rfl, HB4.out, hbel4⟩
            case measure => simp [intOf]; omega
          cases g2 : c.le k b
          · go_wp2_with fail
            refine (HQ.out k a _ (by omega) (by omega) hbel3).mono ?_
            rintro e w3 ⟨rfl, hb3⟩
            rw [g1]
            have HB4 := hide (HB3.out.below hb3 HB3.out.lt)
            obtain ⟨p0, p1, p2, p3⟩ := HB4.out.cells
            have hbel4 := hbel3.trans (hb3.mono hbel3.size)
            clear s0 s1 s2 s3 hb3
            go_wp2_with fail
            refine (HQ.out k b _ (by omega) (by omega) hbel4).mono ?_
            rintro e w4 ⟨rfl, hb4⟩
            rw [g2]
            have HB5 := hide (HB4.out.below hb4 HB4.out.lt)
            have hbel5 := hbel4.trans (hb4.mono hbel4.size)
            have G2 := hide g2
            clear p0 p1 p2 p3 hb4 g1 g2
            go_wp2
            go_roundw
            case rel => exact ⟨k + 1, by omega, by go_num, by rw [HS.out, HA.out, G2.out]; simp, HB5.out, hbel5⟩
            case measure => simp [intOf]; omega
          go_wp2_with fail
          refine (HQ.out k a _ (by omega) (by omega) hbel3).mono ?_
          rintro e w3 ⟨rfl, hb3⟩
          rw [g1]
          have HB4 := hide (HB3.out.below hb3 HB3.out.lt)
          obtain ⟨p0, p1, p2, p3⟩ := HB4.out.cells
          have hbel4 := hbel3.trans (hb3.mono hbel3.size)
          clear s0 s1 s2 s3 hb3
          go_wp2_with fail
          refine (HQ.out k b _ (by omega) (by omega) hbel4).mono ?_
          rintro e w4 ⟨rfl, hb4⟩
          rw [g2]
          have HB5 := hide (HB4.out.below hb4 HB4.out.lt)
          obtain ⟨s0, s1, s2, s3⟩ := HB5.out.cells
          have hbel5 := hbel4.trans (hb4.mono hbel4.size)
          clear p0 p1 p2 p3 hb4
          go_wp2_with fail
          refine (HQ.out k j _ (by omega) (by omega) hbel5).mono ?_
          rintro e w5 ⟨rfl, hb5⟩
          have HB6 := hide (HB5.out.below hb5 HB5.out.lt)
          have hbel6 := hbel5.trans (hb5.mono hbel5.size)
          have G12 := hide (show (c.le k a && c.le k b) = true by rw [g1, g2]; rfl)
          clear s0 s1 s2 s3 hb5 g1 g2
          cases g3 : c.le k j
          · have G3 := hide g3
            clear g3
            go_wp2
            go_roundw
            case rel => exact ⟨k + 1, by omega, by go_num, by rw [HS.out, HA.out, G12.out, G3.out]; rfl, HB6.out, hbel6⟩
            case measure => simp [intOf]; omega
          · have G3 := hide g3
            clear g3
            go_wp2
            go_roundw
            case rel => exact ⟨k + 1, by omega, by go_num, by rw [HS.out, HA.out, G12.out, G3.out]; rfl, HB6.out, hbel6⟩
            case measure => simp [intOf]; omega
        · have hkd : c.labels ≤ (k : Int) := by omega
          have hkn' : k = c.n := by omega
          have HA := hide (show c.isMeet a b j = true by rw [HD.out, HU.out, ← hkn', hall]; rfl)
          clear hall hkn'
          go_wp2
          go_ret
          exact ⟨ret_int' (firstN_yes hlt HA.out HNO.out).symm, hbel3⟩
    · have hge : c.labels ≤ (j : Int) := by omega
      go_wp2
      go_ret
      exact ⟨ret_int' (firstN_no fun i hi => HNO.out i (by omega)).symm, hbel⟩
end Go.Proofs.YtgigkiocdiffjaaGreat
