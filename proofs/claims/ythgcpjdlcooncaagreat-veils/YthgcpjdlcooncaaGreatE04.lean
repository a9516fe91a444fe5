/- Rgrants, Rrules, Rcheck, Rowkit2. -/
import Derived.Test.YthgcpjdlcooncaaGreatE03
import Derived.Test.YthgcpjdlcooncaaGreatE01
namespace Go.Proofs.YthgcpjdlcooncaaGreat
open Go.RowKit Veil
theorem okL_nat {c : Cfg} {a : Int} (hl : (c.n : Int) = c.labels) (h : okL c.labels a = true) : ∃ x : Nat, a = x ∧ x < c.n := by
  simp only [okL, Bool.and_eq_true, decide_eq_true_eq] at h
  obtain ⟨x, rfl⟩ := Int.eq_ofNat_of_zero_le h.1
  exact ⟨x, rfl, by omega⟩
set_option maxRecDepth 100000 in
set_option maxHeartbeats 4000000 in
theorem rgrants_any (c : Cfg) (v : CfgV) (w : World) (hl : labelsB c = true) (hok : CfgOk c) (hat : CfgAt w c v) :
    Calls Tryz.prog 61 #[.agg (cfgCells c v)] w fun e w' => e = .returned (.bool (grantsB c)) ∧ Below w.heap.size w w' := by
  obtain ⟨_, _, _, _, hn, hn6, hn1⟩ := labels_of hl
  have k1 := hok.grants
  have HE := hide hat.grants
  have HD := hide (show grantsB c = (decide (c.grants.length ≤ 30) && c.grants.all (grantOk c)) from rfl)
  have hlab : ∀ (a : Int) (w' : World), Calls Tryz.prog 96 #[.agg (cfgCells c v), .int .i64 a] w' fun e w'' => e = .returned (.bool (okL c.labels a)) ∧ Below w'.heap.size w' w'' := fun a w' => rlabel_any c v a w'
  have HQ := hide hlab
  have hleq : ∀ (x y : Nat) (w' : World), x < c.n → y < c.n → Below w.heap.size w w' → Calls Tryz.prog 57 #[.agg (cfgCells c v), .int .i64 x, .int .i64 y] w' fun e w'' => e = .returned (.bool (c.le x y)) ∧ Below w'.heap.size w' w'' :=
    fun x y w' hx hy hb => rleq_any c v x y w' hl (hat.below hb) hx hy
  have HLQ := hide hleq
  have HNN := hide hn
  clear hat hok hlab hleq hl hn
  unfold cfgCells at *
  go_enter Tryz.func61, Tryz.ntmps61
  go_wp2
  go_loopw [3] (fun i wr => ∃ k : Nat, k ≤ c.grants.length ∧ i = .int .i64 k ∧ (c.grants.take k).all (grantOk c) = true ∧ BoxAt wr w.heap.size c v ∧ Below w.heap.size w wr) (fun i _ => c.grants.length - (intOf i).toNat)
  case atStart => exact ⟨0, Nat.zero_le _, rfl, by simp, box_new _ _ _, below_box _ _⟩
  case round =>
    obtain ⟨k, hk, rfl, hall, hbox, hbel⟩ := hrel
    have HA := hide hall
    have HB := hide hbox
    obtain ⟨q0, q1, q2, q3⟩ := hbox.cells
    have hwl := hbox.lt
    clear hall hbox
    by_cases hlt : k < c.grants.length
    · have hek : c.grants[k]? = some c.grants[k] := List.getElem?_eq_getElem hlt
      obtain ⟨b, off, hao, hbl, d1, d2⟩ := HE.out.at hbel hek
      rw [hao] at q3
      have HS := hide (all_take_succ c.grants (grantOk c) k _ hek)
      have HF := hide (all_false_of c.grants (grantOk c) k _ hek)
      have HO := hide hao
      generalize c.grants[k] = e at *
      obtain ⟨e1, e2⟩ := e
      simp only [xE, yE] at d1 d2
      have hbl2 : b < wr.heap.size := Nat.lt_of_lt_of_le hbl hbel.size
      have HOK := hide (show grantOk c (e1, e2) = (okL c.labels e1 && okL c.labels e2 && !(e1 == e2) && c.le e2 e1) from rfl)
      have HX : Hid (grantOk c (e1, e2) = false → grantsB c = false) := fun h => by rw [HD.out, HF.out h]; simp
      clear hek hao
      go_wp2_with fail
      rw [← HO.out]
      refine (HQ.out e1 _).mono ?_
      rintro e w1 ⟨rfl, hb1⟩
      have hsz1 : wr.heap.size < w1.heap.size := by have := hb1.size; simp at this; omega
      have m1 : w1.cell? ⟨wr.heap.size, 0, none⟩ = some (.int .i64 e1) := by rw [hb1.cell (p := ⟨wr.heap.size, 0, none⟩) (by simp)]; simp
      have m2 : w1.cell? ⟨wr.heap.size, 1, none⟩ = some (.int .i64 e2) := by rw [hb1.cell (p := ⟨wr.heap.size, 1, none⟩) (by simp)]; simp
      have hbb1 : Below wr.heap.size wr w1 := (below_box _ _).trans (hb1.mono (by simp))
      have HB1 := hide (HB.out.below hbb1 HB.out.lt)
      have hbel1 := hbel.trans (hbb1.mono hbel.size)
      obtain ⟨p0, p1, p2, p3⟩ := HB1.out.cells
      clear q0 q1 q2 q3 d1 d2 hb1 hbb1
      cases g1 : okL c.labels e1
      · have G1 := hide g1
        clear g1
        go_wp2
        go_ret
        exact ⟨ret_bool (HX.out (by rw [HOK.out, G1.out]; rfl)).symm, hbel1⟩
      go_wp2_with fail
      refine (HQ.out e2 _).mono ?_
      rintro e w2 ⟨rfl, hb2⟩
      have hsz2 : wr.heap.size < w2.heap.size := by have := hb2.size; omega
      have m1' : w2.cell? ⟨wr.heap.size, 0, none⟩ = some (.int .i64 e1) := by rw [hb2.cell (p := ⟨wr.heap.size, 0, none⟩) hsz1]; exact m1
      have m2' : w2.cell? ⟨wr.heap.size, 1, none⟩ = some (.int .i64 e2) := by rw [hb2.cell (p := ⟨wr.heap.size, 1, none⟩) hsz1]; exact m2
      have HB2 := hide (HB1.out.below hb2 HB1.out.lt)
      have hbel2 := hbel1.trans (hb2.mono hbel1.size)
      obtain ⟨q0, q1, q2, q3⟩ := HB2.out.cells
      clear p0 p1 p2 p3 m1 m2 hb2 hsz1
      have G1 := hide g1
      clear g1
      cases g2 : okL c.labels e2
      · have G2 := hide g2
        clear g2
        go_wp2
        go_ret
        exact ⟨ret_bool (HX.out (by rw [HOK.out, G2.out]; simp)).symm, hbel2⟩
      have G2 := hide g2
      clear g2
      by_cases he : e1 = e2
      · have heb : (e1 == e2) = true := by simpa using he
        have EB := hide heb
        clear he
        go_wp2
        go_ret
        exact ⟨ret_bool (HX.out (by rw [HOK.out, EB.out]; simp)).symm, hbel2⟩
      · have heb : (e1 == e2) = false := by simpa using he
        have EB := hide heb
        clear he
        obtain ⟨x, hx, hxn⟩ := okL_nat HNN.out G1.out
        obtain ⟨y, hy, hyn⟩ := okL_nat HNN.out G2.out
        have HX1 := hide hx
        have HY1 := hide hy
        clear hx hy
        go_wp2_with fail
        rw [HX1.out, HY1.out]
        refine (HLQ.out y x _ hyn hxn hbel2).mono ?_
        rintro e w3 ⟨rfl, hb3⟩
        have HB3 := hide (HB2.out.below hb3 HB2.out.lt)
        have hbel3 := hbel2.trans (hb3.mono hbel2.size)
        clear q0 q1 q2 q3 m1' m2' hb3
        cases g3 : c.le y x
        · have G3 := hide g3
          clear g3
          go_wp2
          go_ret
          exact ⟨ret_bool (HX.out (by rw [HOK.out, HX1.out, HY1.out, G3.out]; simp)).symm, hbel3⟩
        · have G3 := hide g3
          clear g3
          go_wp2
          go_roundw
          case rel => exact ⟨k + 1, by omega, by go_num, by rw [HS.out, HA.out, HOK.out, G1.out, G2.out, EB.out, HX1.out, HY1.out, G3.out]; rfl, HB3.out, hbel3⟩
          case measure => simp [intOf]; omega
    · have hke : k = c.grants.length := by omega
      have HT := hide (show c.grants.all (grantOk c) = true by have := HA.out; rwa [hke, List.take_length] at this)
      by_cases h30 : c.grants.length ≤ 30
      · go_wp2
        go_ret
        exact ⟨ret_bool (by rw [HD.out, HT.out]; simp; omega), hbel⟩
      · go_wp2
        go_ret
        exact ⟨ret_bool (by rw [HD.out, HT.out]; simp; omega), hbel⟩
end Go.Proofs.YthgcpjdlcooncaaGreat
namespace Go.Proofs.YthgcpjdlcooncaaGreat
open Go.RowKit Veil
set_option maxRecDepth 100000 in
set_option maxHeartbeats 8000000 in
theorem rrules_any (c : Cfg) (v : CfgV) (w : World) (hok : CfgOk c) (hat : CfgAt w c v) :
    Calls Tryz.prog 60 #[.agg (cfgCells c v)] w fun e w' => e = .returned (.bool (rulesB c)) ∧ Below w.heap.size w w' := by
  have k1 := hok.rules
  have HTX := hide hok.texts
  have HE := hide hat.rules
  have HD := hide (show rulesB c = (decide (c.rules.length ≤ 8) && rulesToB c c.rules.length) from rfl)
  have hlab : ∀ (a : Int) (w' : World), Calls Tryz.prog 96 #[.agg (cfgCells c v), .int .i64 a] w' fun e w'' => e = .returned (.bool (okL c.labels a)) ∧ Below w'.heap.size w' w'' := fun a w' => rlabel_any c v a w'
  have HQ := hide hlab
  clear hat hok hlab
  unfold cfgCells at *
  go_enter Tryz.func60, Tryz.ntmps60
  go_wp2
  go_loopw [3] (fun i wr => ∃ k : Nat, k ≤ c.rules.length ∧ i = .int .i64 k ∧ rulesToB c k = true ∧ BoxAt wr w.heap.size c v ∧ Below w.heap.size w wr) (fun i _ => c.rules.length - (intOf i).toNat)
  case atStart => exact ⟨0, Nat.zero_le _, rfl, rfl, box_new _ _ _, below_box _ _⟩
  case round =>
    obtain ⟨wo, rfl⟩ : ∃ x, x = wr := ⟨_, rfl⟩
    obtain ⟨k, hk, rfl, hall, hbox, hbel⟩ := hrel
    have HA := hide hall
    have HB := hide hbox
    obtain ⟨q0, q1, q2, q3⟩ := hbox.cells
    have hwl := hbox.lt
    clear hall hbox
    by_cases hlt : k < c.rules.length
    · have hek : c.rules[k]? = some c.rules[k] := List.getElem?_eq_getElem hlt
      obtain ⟨b, off, hao, hbl, d1, d2⟩ := HE.out.at hbel hek
      rw [hao] at q2
      have HS := hide (rulesToB_succ c k _ hek)
      have hsz := HTX.out _ (List.getElem_mem hlt)
      have HO := hide hao
      generalize c.rules[k] = e at *
      obtain ⟨e1, e2⟩ := e
      simp only [xR, yR] at d1 d2 hsz
      have hsm : e1.size ≤ maxLen := by unfold maxLen; omega
      have hbl2 : b < wo.heap.size := Nat.lt_of_lt_of_le hbl hbel.size
      have HOK := hide (show ruleOk c k (e1, e2) = (validB e1 && okL c.labels e2 && (c.rules.take k).all fun q => !sameS q.1 e1) from rfl)
      have HX : Hid (ruleOk c k (e1, e2) = false → rulesB c = false) := fun h => by rw [HD.out, rulesToB_false c (k + 1) _ (by rw [HS.out, h]; simp) (by omega)]; simp
      clear hek hao
      go_wp2_with fail
      refine (rpattern_any e1 _ hsm).mono ?_
      rintro e w1 ⟨rfl, rfl⟩
      cases g1 : validB e1
      · have G1 := hide g1
        clear g1
        go_wp2
        go_ret
        exact ⟨ret_bool (HX.out (by rw [HOK.out, G1.out]; rfl)).symm, hbel.alloc hbel.size _⟩
      go_wp2_with fail
      rw [← HO.out]
      refine (HQ.out e2 _).mono ?_
      rintro e w1 ⟨rfl, hb1⟩
      have hsz1 : wo.heap.size < w1.heap.size := by have := hb1.size; simp at this; omega
      have m1 : w1.cell? ⟨wo.heap.size, 0, none⟩ = some (.string e1) := by rw [hb1.cell (p := ⟨wo.heap.size, 0, none⟩) (by simp)]; simp
      have M1 := hide m1
      have hbb1 : Below wo.heap.size wo w1 := (below_box _ _).trans (hb1.mono (by simp))
      have HB1 := hide (HB.out.below hbb1 HB.out.lt)
      have hbel1 := hbel.trans (hbb1.mono hbel.size)
      clear q0 q1 q2 q3 d1 d2 hb1 hbb1
      have G1 := hide g1
      clear g1
      cases g2 : okL c.labels e2
      · have G2 := hide g2
        clear g2
        go_wp2
        go_ret
        exact ⟨ret_bool (HX.out (by rw [HOK.out, G2.out]; simp)).symm, hbel1⟩
      have G2 := hide g2
      clear g2 m1
      go_wp2
      go_loopw [6] (fun i wr => ∃ m : Nat, m ≤ k ∧ i = .int .i64 m ∧ ((c.rules.take m).all fun q => !sameS q.1 e1) = true ∧ wr.cell? ⟨wo.heap.size, 0, none⟩ = some (.string e1) ∧ wo.heap.size < wr.heap.size ∧ BoxAt wr w.heap.size c v ∧ Below w.heap.size w wr) (fun i _ => k - (intOf i).toNat)
      case atStart => exact ⟨0, Nat.zero_le _, rfl, by simp, M1.out, hsz1, HB1.out, hbel1⟩
      case round =>
        obtain ⟨m, hm, rfl, hal, mc, msz, hbox, hbel2⟩ := hrel
        have HAL := hide hal
        have HB2 := hide hbox
        obtain ⟨s0, s1, s2, s3⟩ := hbox.cells
        clear hal hbox
        by_cases hmk : m < k
        · have hmk' : (m : Int) < (k : Int) := by omega
          have hml : m < c.rules.length := by omega
          have hem : c.rules[m]? = some c.rules[m] := List.getElem?_eq_getElem hml
          obtain ⟨b', off', hao', hbl', t1, t2⟩ := HE.out.at hbel2 hem
          rw [hao'] at s2
          have HSM := hide (all_take_succ c.rules (fun q => !sameS q.1 e1) m _ hem)
          have HFM : Hid ((fun q : ByteArray × Int => !sameS q.1 e1) c.rules[m] = false → ((c.rules.take k).all fun q => !sameS q.1 e1) = false) := fun h => all_false_of _ _ m _ (by rw [List.getElem?_take_of_lt hmk]; exact hem) h
          generalize c.rules[m] = f at *
          obtain ⟨f1, f2⟩ := f
          simp only [xR, yR] at t1 t2
          have HSS := hide (show sameS f1 e1 = (f1.toList == e1.toList) from rfl)
          have hmi : (m : Int) < (c.rules.length : Int) := by omega
          clear hem hao'
          cases g3 : (f1.toList == e1.toList)
          · have G3 := hide g3
            go_wp2_with fail
            go_quiet (fail)
            go_wp2
            go_roundw
            case rel => exact ⟨m + 1, by omega, by go_num, by rw [HSM.out, HAL.out]; simp [HSS.out, G3.out], mc, msz, HB2.out, Below.drawn hbel2 _⟩
            case measure => simp [intOf]; omega
          · have G3 := hide g3
            go_wp2_with fail
            go_quiet (fail)
            go_wp2
            go_ret
            exact ⟨ret_bool (HX.out (by rw [HOK.out, HFM.out (by simp [HSS.out, G3.out])]; simp)).symm, Below.drawn hbel2 _⟩
        · have hmk' : m = k := by omega
          have HAL2 := hide (show ((c.rules.take k).all fun q => !sameS q.1 e1) = true by rw [← hmk']; exact HAL.out)
          have hmk2 : (k : Int) ≤ (m : Int) := by omega
          clear hmk'
          go_wp2
          go_roundw
          case rel => exact ⟨k + 1, by omega, by go_num, by rw [HS.out, HA.out, HOK.out, G1.out, G2.out, HAL2.out]; rfl, HB2.out, hbel2⟩
          case measure => simp [intOf]; omega
    · have hke : k = c.rules.length := by omega
      have HT := hide (show rulesToB c c.rules.length = true by rw [← hke]; exact HA.out)
      by_cases h8 : c.rules.length ≤ 8
      · go_wp2
        go_ret
        exact ⟨ret_bool (by rw [HD.out, HT.out]; simp; omega), hbel⟩
      · go_wp2
        go_ret
        exact ⟨ret_bool (by rw [HD.out, HT.out]; simp; omega), hbel⟩
end Go.Proofs.YthgcpjdlcooncaaGreat
namespace Go.Proofs.YthgcpjdlcooncaaGreat
open Go.RowKit Veil
theorem firstN_ge (p : Nat → Bool) (n : Nat) : -1 ≤ firstN p n ∧ firstN p n < n + 1 := by
  rcases firstN_cases p n with ⟨j, hj, _, _, h⟩ | ⟨_, h⟩ <;> rw [h] <;> omega
set_option maxRecDepth 100000 in
set_option maxHeartbeats 16000000 in
theorem rCheck_any (c : Cfg) (v : CfgV) (w : World) (hok : CfgOk c) (hat : CfgAt w c v) :
    Calls Tryz.prog 30 #[.agg (cfgCells c v)] w fun e w' => ∃ code, e = .returned (.int .i64 code) ∧ CheckIs c code ∧ Below w.heap.size w w' := by
  have HR0 := hide (fun w' (hb : Below w.heap.size w w') => rlabels_any c v w' hok (hat.below hb))
  have HR1 := hide (fun w' (hb : Below w.heap.size w w') => rrules_any c v w' hok (hat.below hb))
  cases hl : labelsB c
  · have HL := hide hl
    have HB1 := hide (below_box w (.cells (cfgCells c v) 46))
    clear hl hat hok
    unfold cfgCells at *
    go_enter Tryz.func30, Tryz.ntmps30
    go_wp2_with fail
    refine (HR0.out _ HB1.out).mono ?_
    rintro e w1 ⟨rfl, hb1⟩
    rw [HL.out]
    have hbel1 := HB1.out.trans (hb1.mono (by simp))
    clear hb1
    go_wp2
    go_ret
    exact ⟨1, rfl, ⟨fun _ => rfl, fun h => absurd h (by rw [HL.out]; simp), fun h => absurd h (by rw [HL.out]; simp), fun h => absurd h (by rw [HL.out]; simp), fun h => absurd h (by rw [HL.out]; simp), fun h => absurd h (by rw [HL.out]; simp)⟩, hbel1⟩
  obtain ⟨_, _, _, _, hn, hn6, hn1⟩ := labels_of hl
  have hle1 : (c.n : Int) ≤ c.labels := by omega
  have hle2 : c.labels ≤ (c.n : Int) := by omega
  have HR2 := hide (fun w' (hb : Below w.heap.size w w') => rgrants_any c v w' hl hok (hat.below hb))
  have HQ := hide (fun (x y : Nat) (w' : World) (hx : x < c.n) (hy : y < c.n) (hb : Below w.heap.size w w') => rleq_any c v x y w' hl (hat.below hb) hx hy)
  have HJ := hide (fun (x y : Nat) (w' : World) (hx : x < c.n) (hy : y < c.n) (hb : Below w.heap.size w w') => rjoin_any c v x y w' hl (hat.below hb) hx hy)
  have HM := hide (fun (x y : Nat) (w' : World) (hx : x < c.n) (hy : y < c.n) (hb : Below w.heap.size w w') => rmeet_any c v x y w' hl (hat.below hb) hx hy)
  have HL := hide hl
  have HB1 := hide (below_box w (.cells (cfgCells c v) 46))
  have HX1 := hide (box_new w c v)
  clear hl hat hok hn
  unfold cfgCells at *
  go_enter Tryz.func30, Tryz.ntmps30
  go_wp2_with fail
  refine (HR0.out _ HB1.out).mono ?_
  rintro e w1 ⟨rfl, hb1⟩
  rw [HL.out]
  have hbel1 := HB1.out.trans (hb1.mono (by simp))
  have HX2 := hide (HX1.out.below hb1 (by simp))
  clear hb1
  go_wp2
  go_loopw [4] (fun i wr => ∃ a : Nat, a ≤ c.n ∧ i = .int .i64 a ∧ (∀ x y : Nat, x < a → y < c.n → x ≠ y → (c.le x y && c.le y x) = false) ∧ BoxAt wr w.heap.size c v ∧ Below w.heap.size w wr) (fun i _ => c.n - (intOf i).toNat)
  case atStart => exact ⟨0, Nat.zero_le _, rfl, fun x y hx => absurd hx (Nat.not_lt_zero _), HX2.out, hbel1⟩
  case round =>
    obtain ⟨wo, rfl⟩ : ∃ x, x = wr := ⟨_, rfl⟩
    obtain ⟨a, ha, rfl, hno, hbox, hbel⟩ := hrel
    have HNO := hide hno
    have HB := hide hbox
    obtain ⟨q0, q1, q2, q3⟩ := hbox.cells
    clear hno hbox
    by_cases hlt : a < c.n
    · have hlt' : (a : Int) < c.labels := by omega
      go_wp2
      go_loopw [5] (fun i wr => ∃ b : Nat, b ≤ c.n ∧ i = .int .i64 b ∧ (∀ y : Nat, y < b → a ≠ y → (c.le a y && c.le y a) = false) ∧ BoxAt wr w.heap.size c v ∧ Below w.heap.size w wr) (fun i _ => c.n - (intOf i).toNat)
      case atStart => exact ⟨0, Nat.zero_le _, rfl, fun y hy => absurd hy (Nat.not_lt_zero _), HB.out, hbel⟩
      case round =>
        obtain ⟨wi, rfl⟩ : ∃ x, x = wr := ⟨_, rfl⟩
        obtain ⟨b, hb, rfl, hnb, hbox, hbel2⟩ := hrel
        have HNB := hide hnb
        have HB2 := hide hbox
        clear q0 q1 q2 q3
        obtain ⟨q0, q1, q2, q3⟩ := hbox.cells
        clear hnb hbox
        by_cases hbl : b < c.n
        · have hbl' : (b : Int) < c.labels := by omega
          by_cases hab : a = b
          · have hne : ((a : Int) != (b : Int)) = false := by simp [hab]
            have AB := hide hab
            clear hab
            go_wp2
            go_roundw
            case rel => exact ⟨b + 1, by omega, by go_num, fun y hy hy2 => by
              by_cases e : y = b
              · exact absurd (AB.out.trans e.symm) hy2
              · exact HNB.out y (by omega) hy2, HB2.out, hbel2⟩
            case measure => simp [intOf]; omega
          · have hne : ((a : Int) != (b : Int)) = true := by simp; omega
            have AB := hide hab
            clear hab
            cases h1 : c.le a b
            · go_wp2_with fail
              refine (HQ.out a b _ hlt hbl hbel2).mono ?_
              rintro e w2 ⟨rfl, hb2⟩
              rw [h1]
              have HB3 := hide (HB2.out.below hb2 HB2.out.lt)
              have hbel3 := hbel2.trans (hb2.mono hbel2.size)
              have H1 := hide h1
              clear q0 q1 q2 q3 hb2 h1
              go_wp2
              go_roundw
              case rel => exact ⟨b + 1, by omega, by go_num, fun y hy hy2 => by
                by_cases e : y = b
                · rw [e, H1.out]; rfl
                · exact HNB.out y (by omega) hy2, HB3.out, hbel3⟩
              case measure => simp [intOf]; omega
            go_wp2_with fail
            refine (HQ.out a b _ hlt hbl hbel2).mono ?_
            rintro e w2 ⟨rfl, hb2⟩
            rw [h1]
            have HB3 := hide (HB2.out.below hb2 HB2.out.lt)
            obtain ⟨p0, p1, p2, p3⟩ := HB3.out.cells
            have hbel3 := hbel2.trans (hb2.mono hbel2.size)
            have H1 := hide h1
            clear q0 q1 q2 q3 hb2 h1
            go_wp2_with fail
            refine (HQ.out b a _ hbl hlt hbel3).mono ?_
            rintro e w3 ⟨rfl, hb3⟩
            have HB4 := hide (HB3.out.below hb3 HB3.out.lt)
            have hbel4 := hbel3.trans (hb3.mono hbel3.size)
            clear p0 p1 p2 p3 hb3
            cases h2 : c.le b a
            · have H2 := hide h2
              clear h2
              go_wp2
              go_roundw
              case rel => exact ⟨b + 1, by omega, by go_num, fun y hy hy2 => by
                by_cases e : y = b
                · rw [e, H2.out]; simp
                · exact HNB.out y (by omega) hy2, HB4.out, hbel4⟩
              case measure => simp [intOf]; omega
            · have H2 := hide h2
              clear h2
              have HC : Hid c.circle := ⟨a, b, hlt, hbl, AB.out, H1.out, H2.out⟩
              go_wp2
              go_ret
              exact ⟨2, rfl, ⟨fun h => absurd h (by rw [HL.out]; simp), fun _ _ => rfl, fun _ h => absurd HC.out h, fun _ h => absurd HC.out h, fun _ h => absurd HC.out h, fun _ h => absurd HC.out h⟩, hbel4⟩
        · have hge : c.labels ≤ (b : Int) := by omega
          have hbe : b = c.n := by omega
          have HNB2 := hide (show ∀ y : Nat, y < c.n → a ≠ y → (c.le a y && c.le y a) = false by rw [← hbe]; exact HNB.out)
          clear hbe
          go_wp2
          go_roundw
          case rel => exact ⟨a + 1, by omega, by go_num, fun x y hx hy hxy => by
            by_cases e : x = a
            · rw [e]; exact HNB2.out y hy (by omega)
            · exact HNO.out x y (by omega) hy hxy, HB2.out, hbel2⟩
          case measure => simp [intOf]; omega
    · have hge : c.labels ≤ (a : Int) := by omega
      have hae : a = c.n := by omega
      have HNC : Hid (¬ c.circle) := by
        rintro ⟨x, y, hx, hy, hxy, h1, h2⟩
        have := HNO.out x y (by omega) hy hxy
        rw [h1, h2] at this
        simp at this
      clear hae
      go_wp2
      go_loopw [6] (fun i wr => ∃ a : Nat, a ≤ c.n ∧ i = .int .i64 a ∧ (∀ x y : Nat, x < a → y < c.n → 0 ≤ c.join x y ∧ 0 ≤ c.meet x y) ∧ BoxAt wr w.heap.size c v ∧ Below w.heap.size w wr) (fun i _ => c.n - (intOf i).toNat)
      case atStart => exact ⟨0, Nat.zero_le _, rfl, fun x y hx => absurd hx (Nat.not_lt_zero _), HB.out, hbel⟩
      case round =>
        clear q0 q1 q2 q3 HB hbel hge hlt
        obtain ⟨wo, rfl⟩ : ∃ x, x = wr := ⟨_, rfl⟩
        obtain ⟨a, ha, rfl, hno, hbox, hbel⟩ := hrel
        have HNO2 := hide hno
        have HB := hide hbox
        obtain ⟨q0, q1, q2, q3⟩ := hbox.cells
        clear hno hbox
        by_cases hlt : a < c.n
        · have hlt' : (a : Int) < c.labels := by omega
          go_wp2
          go_loopw [7] (fun i wr => ∃ b : Nat, b ≤ c.n ∧ i = .int .i64 b ∧ (∀ y : Nat, y < b → 0 ≤ c.join a y ∧ 0 ≤ c.meet a y) ∧ BoxAt wr w.heap.size c v ∧ Below w.heap.size w wr) (fun i _ => c.n - (intOf i).toNat)
          case atStart => exact ⟨0, Nat.zero_le _, rfl, fun y hy => absurd hy (Nat.not_lt_zero _), HB.out, hbel⟩
          case round =>
            obtain ⟨wi, rfl⟩ : ∃ x, x = wr := ⟨_, rfl⟩
            obtain ⟨b, hb, rfl, hnb, hbox, hbel2⟩ := hrel
            have HNB := hide hnb
            have HB2 := hide hbox
            clear q0 q1 q2 q3
            obtain ⟨q0, q1, q2, q3⟩ := hbox.cells
            clear hnb hbox
            by_cases hbl : b < c.n
            · have hbl' : (b : Int) < c.labels := by omega
              go_wp2_with fail
              refine (HJ.out a b _ hlt hbl hbel2).mono ?_
              rintro e w2 ⟨rfl, hb2⟩
              have HB3 := hide (HB2.out.below hb2 HB2.out.lt)
              obtain ⟨p0, p1, p2, p3⟩ := HB3.out.cells
              have hbel3 := hbel2.trans (hb2.mono hbel2.size)
              clear q0 q1 q2 q3 hb2
              by_cases hj : c.join a b < 0
              · have HN2 : Hid c.noLat := ⟨a, b, hlt, hbl, Or.inl hj⟩
                go_wp2
                go_ret
                exact ⟨3, rfl, ⟨fun h => absurd h (by rw [HL.out]; simp), fun _ h => absurd h HNC.out, fun _ _ _ => rfl, fun _ _ h => absurd HN2.out h, fun _ _ h => absurd HN2.out h, fun _ _ h => absurd HN2.out h⟩, hbel3⟩
              have hj' : 0 ≤ c.join a b := by omega
              go_wp2_with fail
              refine (HM.out a b _ hlt hbl hbel3).mono ?_
              rintro e w3 ⟨rfl, hb3⟩
              have HB4 := hide (HB3.out.below hb3 HB3.out.lt)
              have hbel4 := hbel3.trans (hb3.mono hbel3.size)
              clear p0 p1 p2 p3 hb3
              by_cases hm : c.meet a b < 0
              · have HN2 : Hid c.noLat := ⟨a, b, hlt, hbl, Or.inr hm⟩
                go_wp2
                go_ret
                exact ⟨3, rfl, ⟨fun h => absurd h (by rw [HL.out]; simp), fun _ h => absurd h HNC.out, fun _ _ _ => rfl, fun _ _ h => absurd HN2.out h, fun _ _ h => absurd HN2.out h, fun _ _ h => absurd HN2.out h⟩, hbel4⟩
              have hm' : 0 ≤ c.meet a b := by omega
              go_wp2
              go_roundw
              case rel => exact ⟨b + 1, by omega, by go_num, fun y hy => by
                by_cases e : y = b
                · rw [e]; exact ⟨hj', hm'⟩
                · exact HNB.out y (by omega), HB4.out, hbel4⟩
              case measure => simp [intOf]; omega
            · have hge : c.labels ≤ (b : Int) := by omega
              have hbe : b = c.n := by omega
              have HNB2 := hide (show ∀ y : Nat, y < c.n → 0 ≤ c.join a y ∧ 0 ≤ c.meet a y by rw [← hbe]; exact HNB.out)
              clear hbe
              go_wp2
              go_roundw
              case rel => exact ⟨a + 1, by omega, by go_num, fun x y hx hy => by
                by_cases e : x = a
                · rw [e]; exact HNB2.out y hy
                · exact HNO2.out x y (by omega) hy, HB2.out, hbel2⟩
              case measure => simp [intOf]; omega
        · have hge : c.labels ≤ (a : Int) := by omega
          have hae : a = c.n := by omega
          have HNL : Hid (¬ c.noLat) := by
            rintro ⟨x, y, hx, hy, h⟩
            have := HNO2.out x y (by omega) hy
            omega
          clear hae
          go_wp2_with fail
          refine (HR1.out _ hbel).mono ?_
          rintro e w2 ⟨rfl, hb2⟩
          have HB3 := hide (HB.out.below hb2 HB.out.lt)
          obtain ⟨p0, p1, p2, p3⟩ := HB3.out.cells
          have hbel3 := hbel.trans (hb2.mono hbel.size)
          clear q0 q1 q2 q3 hb2
          cases h4 : rulesB c
          · have H4 := hide h4
            clear h4
            go_wp2
            go_ret
            exact ⟨4, rfl, ⟨fun h => absurd h (by rw [HL.out]; simp), fun _ h => absurd h HNC.out, fun _ _ h => absurd h HNL.out, fun _ _ _ _ => rfl, fun _ _ _ h => absurd h (by rw [H4.out]; simp), fun _ _ _ h => absurd h (by rw [H4.out]; simp)⟩, hbel3⟩
          have H4 := hide h4
          clear h4
          go_wp2_with fail
          refine (HR2.out _ hbel3).mono ?_
          rintro e w3 ⟨rfl, hb3⟩
          have hbel4 := hbel3.trans (hb3.mono hbel3.size)
          clear p0 p1 p2 p3 hb3
          cases h5 : grantsB c
          · have H5 := hide h5
            clear h5
            go_wp2
            go_ret
            exact ⟨5, rfl, ⟨fun h => absurd h (by rw [HL.out]; simp), fun _ h => absurd h HNC.out, fun _ _ h => absurd h HNL.out, fun _ _ _ h => absurd h (by rw [H4.out]; simp), fun _ _ _ _ _ => rfl, fun _ _ _ _ h => absurd h (by rw [H5.out]; simp)⟩, hbel4⟩
          · have H5 := hide h5
            clear h5
            go_wp2
            go_ret
            exact ⟨0, rfl, ⟨fun h => absurd h (by rw [HL.out]; simp), fun _ h => absurd h HNC.out, fun _ _ h => absurd h HNL.out, fun _ _ _ h => absurd h (by rw [H4.out]; simp), fun _ _ _ _ h => absurd h (by rw [H5.out]; simp), fun _ _ _ _ _ => rfl⟩, hbel4⟩
end Go.Proofs.YthgcpjdlcooncaaGreat
namespace Go.Proofs.YthgcpjdlcooncaaGreat
open Go.RowKit
@[go_sem] def wpPlain2 (P : Program) (o : Oper) (a : Act) (w : World) (K : Act → World → Prop) (Q : Exit → Act → World → Prop) : Prop := o.upon P a K Q ((execOp a.eval o).run P w)
abbrev RowLaw2 (P : Program) (N : TypeId → Nat) : Prop := ∀ (o : Oper) (a : Act) (w : World) (K : Act → World → Prop) (Q : Exit → Act → World → Prop),
    wpPlain P o a w K Q = @ite _ (N (loadTy o) ≠ 0 ∧ ptrIs w (a.eval (opFst o)) (N (loadTy o))) (Classical.propDecidable _) (K (a.put o.dst (.agg (rowAt w (blkOf (a.eval (opFst o)))))) w)
      (@ite _ (N (storeTy o) ≠ 0 ∧ ptrIs w (a.eval (opFst o)) (N (storeTy o)) ∧ isAggV (a.eval (opSnd o)) (N (storeTy o))) (Classical.propDecidable _) (K (a.put o.dst undef) (w.setRow (blkOf (a.eval (opFst o))) (aggOf (a.eval (opSnd o))))) (wpPlain2 P o a w K Q))
theorem row_law2 {P : Program} {N : TypeId → Nat} (hN : RowsOk P N) : RowLaw2 P N := fun o a w K Q => row_law hN o a w K Q
end Go.Proofs.YthgcpjdlcooncaaGreat
