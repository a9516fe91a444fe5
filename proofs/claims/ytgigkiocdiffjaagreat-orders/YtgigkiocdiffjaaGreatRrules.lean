/- veilref.rules. -/
import Derived.Test.YtgigkiocdiffjaaGreatRgrants
namespace Go.Proofs.YtgigkiocdiffjaaGreat
open Go.RowKit Veil
set_option maxRecDepth 100000 in
set_option maxHeartbeats 8000000 in
theorem rrules_any (c : Cfg) (v : CfgV) (w : World) (hok : CfgOk c) (hat : CfgAt w c v) :
    Calls Tryz.prog 105 #[.agg (cfgCells c v)] w fun e w' => e = .returned (.bool (rulesB c)) ∧ Below w.heap.size w w' := by
  have k1 := hok.rules
  have HTX := hide hok.texts
  have HE := hide hat.rules
  have HD := hide (show rulesB c = (decide (c.rules.length ≤ 8) && rulesToB c c.rules.length) from rfl)
  have hlab : ∀ (a : Int) (w' : World), Calls Tryz.prog 148 #[.agg (cfgCells c v), .int .i64 a] w' fun e w'' => e = .returned (.bool (okL c.labels a)) ∧ Below w'.heap.size w' w'' := fun a w' => rlabel_any c v a w'
  have HQ := hide hlab
  clear hat hok hlab
  unfold cfgCells at *
  go_enter Tryz.func105, Tryz.ntmps105
  go_wp2
  go_loopw [3] (fun i wr => ∃ k : Nat, k ≤ c.rules.length ∧ i = .int .i64 k ∧ rulesToB c k = true ∧ BoxAt wr w.heap.size c v ∧ Below w.heap.size w wr) (fun i _ => c.rules.length - (intOf i).toNat)
  case atStart => exact ⟨0, Nat.zero_le _, rfl, rfl, box_new _ _ _, below_box _ _⟩
  case round =>
    obtain ⟨wo, rfl⟩ : ∃ x, x = wr := ⟨_, rfl⟩
    obtain ⟨k, hk, rfl, hall, hbox, hbel⟩ := hrel
    have HA := hide hall
    have HB := hide hbox
    obtain ⟨q0, q1, q2, q3⟩ := hbox.cells
    have hwl := hbox.lt
    clear hall hbox
    by_cases hlt : k < c.rules.length
    · have hek : c.rules[k]? = some c.rules[k] := List.getElem?_eq_getElem hlt
      obtain ⟨b, off, hao, hbl, d1, d2⟩ := HE.out.at hbel hek
      rw [hao] at q2
      have HS := hide (rulesToB_succ c k _ hek)
      have hsz := HTX.out _ (List.getElem_mem hlt)
      have HO := hide hao
      generalize c.rules[k] = e at *
      obtain ⟨e1, e2⟩ := e
      simp only [xR, yR] at d1 d2 hsz
      have hsm : e1.size ≤ maxLen := by unfold maxLen; omega
      have hbl2 : b < wo.heap.size := Nat.lt_of_lt_of_le hbl hbel.size
      have HOK := hide (show ruleOk c k (e1, e2) = (validB e1 && okL c.labels e2 && (c.rules.take k).all fun q => !sameS q.1 e1) from rfl)
      have HX : Hid (ruleOk c k (e1, e2) = false → rulesB c = false) := fun h => by rw [HD.out, rulesToB_false c (k + 1) _ (by rw [HS.out, h]; simp) (by omega)]; simp
      clear hek hao
      go_wp2_with fail
      refine (rpattern_any e1 _ hsm).mono ?_
      rintro e w1 ⟨rfl, rfl⟩
      cases g1 : validB e1
      · have G1 := hide g1
        clear g1
        go_wp2
        go_ret
        exact ⟨ret_bool (HX.out (by rw [HOK.out, G1.out]; rfl)).symm, hbel.alloc hbel.size _⟩
      go_wp2_with fail
      rw [← HO.out]
      refine (HQ.out e2 _).mono ?_
      rintro e w1 ⟨rfl, hb1⟩
      have hsz1 : wo.heap.size < w1.heap.size := by have := hb1.size; simp at this; omega
      have m1 : w1.cell? ⟨wo.heap.size, 0, none⟩ = some (.string e1) := by rw [hb1.cell (p := ⟨wo.heap.size, 0, none⟩) (by simp)]; simp
      have M1 := hide m1
      have hbb1 : Below wo.heap.size wo w1 := (below_box _ _).trans (hb1.mono (by simp))
      have HB1 := hide (HB.out.below hbb1 HB.out.lt)
      have hbel1 := hbel.trans (hbb1.mono hbel.size)
      clear q0 q1 q2 q3 d1 d2 hb1 hbb1
      have G1 := hide g1
      clear g1
      cases g2 : okL c.labels e2
      · have G2 := hide g2
        clear g2
        go_wp2
        go_ret
        exact ⟨ret_bool (HX.out (by rw [HOK.out, G2.out]; simp)).symm, hbel1⟩
      have G2 := hide g2
      clear g2 m1
      go_wp2
      go_loopw [6] (fun i wr => ∃ m : Nat, m ≤ k ∧ i = .int .i64 m ∧ ((c.rules.take m).all fun q => !sameS q.1 e1) = true ∧ wr.cell? ⟨wo.heap.size, 0, none⟩ = some (.string e1) ∧ wo.heap.size < wr.heap.size ∧ BoxAt wr w.heap.size c v ∧ Below w.heap.size w wr) (fun i _ => k - (intOf i).toNat)
      case atStart => exact ⟨0, Nat.zero_le _, rfl, by simp, M1.out, hsz1, HB1.out, hbel1⟩
      case round =>
        obtain ⟨m, hm, rfl, hal, mc, msz, hbox, hbel2⟩ := hrel
        have HAL := hide hal
        have HB2 := hide hbox
        obtain ⟨s0, s1, s2, s3⟩ := hbox.cells
        clear hal hbox
        by_cases hmk : m < k
        · have hmk' : (m : Int) < (k : Int) := by omega
          have hml : m < c.rules.length := by omega
          have hem : c.rules[m]? = some c.rules[m] := List.getElem?_eq_getElem hml
          obtain ⟨b', off', hao', hbl', t1, t2⟩ := HE.out.at hbel2 hem
          rw [hao'] at s2
          have HSM := hide (all_take_succ c.rules (fun q => !sameS q.1 e1) m _ hem)
          have HFM : Hid ((fun q : ByteArray × Int => !sameS q.1 e1) c.rules[m] = false → ((c.rules.take k).all fun q => !sameS q.1 e1) = false) := fun h => all_false_of _ _ m _ (by rw [List.getElem?_take_of_lt hmk]; exact hem) h
          generalize c.rules[m] = f at *
          obtain ⟨f1, f2⟩ := f
          simp only [xR, yR] at t1 t2
          have HSS := hide (show sameS f1 e1 = (f1.toList == e1.toList) from rfl)
          have hmi : (m : Int) < (c.rules.length : Int) := by omega
          clear hem hao'
          cases g3 : (f1.toList == e1.toList)
          · have G3 := hide g3
            go_wp2_with fail
            go_quiet (fail)
            go_wp2
            go_roundw
            case rel => exact ⟨m + 1, by omega, by go_num, by rw [HSM.out, HAL.out]; simp [HSS.out, G3.out], mc, msz, HB2.out, Below.drawn hbel2 _⟩
            case measure => simp [intOf]; omega
          · have G3 := hide g3
            go_wp2_with fail
            go_quiet (fail)
            go_wp2
            go_ret
            exact ⟨ret_bool (HX.out (by rw [HOK.out, HFM.out (by simp [HSS.out, G3.out])]; simp)).symm, Below.drawn hbel2 _⟩
        · have hmk' : m = k := by omega
          have HAL2 := hide (show ((c.rules.take k).all fun q => !sameS q.1 e1) = true by rw [← hmk']; exact HAL.out)
          have hmk2 : (k : Int) ≤ (m : Int) := by omega
          clear hmk'
          go_wp2
          go_roundw
          case rel => exact ⟨k + 1, by omega, by go_num, by rw [HS.out, HA.out, HOK.out, G1.out, G2.out, HAL2.out]; rfl, HB2.out, hbel2⟩
          case measure => simp [intOf]; omega
    · have hke : k = c.rules.length := by omega
      have HT := hide (show rulesToB c c.rules.length = true by rw [← hke]; exact HA.out)
      by_cases h8 : c.rules.length ≤ 8
      · go_wp2
        go_ret
        exact ⟨ret_bool (by rw [HD.out, HT.out]; simp; omega), hbel⟩
      · go_wp2
        go_ret
        exact ⟨ret_bool (by rw [HD.out, HT.out]; simp; omega), hbel⟩
end Go.Proofs.YtgigkiocdiffjaaGreat
