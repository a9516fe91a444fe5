/- veilref.grants. -/
import Derived.Test.YtgigkiocdiffjaaGreatRlabels
namespace Go.Proofs.YtgigkiocdiffjaaGreat
open Go.RowKit Veil
theorem okL_nat {c : Cfg} {a : Int} (hl : (c.n : Int) = c.labels) (h : okL c.labels a = true) : ∃ x : Nat, a = x ∧ x < c.n := by
  simp only [okL, Bool.and_eq_true, decide_eq_true_eq] at h
  obtain ⟨x, rfl⟩ := Int.eq_ofNat_of_zero_le h.1
  exact ⟨x, rfl, by omega⟩
set_option maxRecDepth 100000 in
set_option maxHeartbeats 4000000 in
theorem rgrants_any (c : Cfg) (v : CfgV) (w : World) (hl : labelsB c = true) (hok : CfgOk c) (hat : CfgAt w c v) :
    Calls Tryz.prog 106 #[.agg (cfgCells c v)] w fun e w' => e = .returned (.bool (grantsB c)) ∧ Below w.heap.size w w' := by
  obtain ⟨_, _, _, _, hn, hn6, hn1⟩ := labels_of hl
  have k1 := hok.grants
  have HE := hide hat.grants
  have HD := hide (show grantsB c = (decide (c.grants.length ≤ 30) && c.grants.all (grantOk c)) from rfl)
  have hlab : ∀ (a : Int) (w' : World), Calls Tryz.prog 148 #[.agg (cfgCells c v), .int .i64 a] w' fun e w'' => e = .returned (.bool (okL c.labels a)) ∧ Below w'.heap.size w' w'' := fun a w' => rlabel_any c v a w'
  have HQ := hide hlab
  have hleq : ∀ (x y : Nat) (w' : World), x < c.n → y < c.n → Below w.heap.size w w' → Calls Tryz.prog 102 #[.agg (cfgCells c v), .int .i64 x, .int .i64 y] w' fun e w'' => e = .returned (.bool (c.le x y)) ∧ Below w'.heap.size w' w'' :=
    fun x y w' hx hy hb => rleq_any c v x y w' hl (hat.below hb) hx hy
  have HLQ := hide hleq
  have HNN := hide hn
  clear hat hok hlab hleq hl hn
  unfold cfgCells at *
  go_enter Tryz.func106, Tryz.ntmps106
  go_wp2
  go_loopw [3] (fun i wr => ∃ k : Nat, k ≤ c.grants.length ∧ i = .int .i64 k ∧ (c.grants.take k).all (grantOk c) = true ∧ BoxAt wr w.heap.size c v ∧ Below w.heap.size w wr) (fun i _ => c.grants.length - (intOf i).toNat)
  case atStart => exact ⟨0, Nat.zero_le _, rfl, by simp, box_new _ _ _, below_box _ _⟩
  case round =>
    obtain ⟨k, hk, rfl, hall, hbox, hbel⟩ := hrel
    have HA := hide hall
    have HB := hide hbox
    obtain ⟨q0, q1, q2, q3⟩ := hbox.cells
    have hwl := hbox.lt
    clear hall hbox
    by_cases hlt : k < c.grants.length
    · have hek : c.grants[k]? = some c.grants[k] := List.getElem?_eq_getElem hlt
      obtain ⟨b, off, hao, hbl, d1, d2⟩ := HE.out.at hbel hek
      rw [hao] at q3
      have HS := hide (all_take_succ c.grants (grantOk c) k _ hek)
      have HF := hide (all_false_of c.grants (grantOk c) k _ hek)
      have HO := hide hao
      generalize c.grants[k] = e at *
      obtain ⟨e1, e2⟩ := e
      simp only [xE, yE] at d1 d2
      have hbl2 : b < wr.heap.size := Nat.lt_of_lt_of_le hbl hbel.size
      have HOK := hide (show grantOk c (e1, e2) = (okL c.labels e1 && okL c.labels e2 && !(e1 == e2) && c.le e2 e1) from rfl)
      have HX : Hid (grantOk c (e1, e2) = false → grantsB c = false) := fun h => by rw [HD.out, HF.out h]; simp
      clear hek hao
      go_wp2_with fail
      rw [← HO.out]
      refine (HQ.out e1 _).mono ?_
      rintro e w1 ⟨rfl, hb1⟩
      have hsz1 : wr.heap.size < w1.heap.size := by have := hb1.size; simp at this; omega
      have m1 : w1.cell? ⟨wr.heap.size, 0, none⟩ = some (.int .i64 e1) := by rw [hb1.cell (p := ⟨wr.heap.size, 0, none⟩) (by simp)]; simp
      have m2 : w1.cell? ⟨wr.heap.size, 1, none⟩ = some (.int .i64 e2) := by rw [hb1.cell (p := ⟨wr.heap.size, 1, none⟩) (by simp)]; simp
      have hbb1 : Below wr.heap.size wr w1 := (below_box _ _).trans (hb1.mono (by simp))
      have HB1 := hide (HB.out.below hbb1 HB.out.lt)
      have hbel1 := hbel.trans (hbb1.mono hbel.size)
      obtain ⟨p0, p1, p2, p3⟩ := HB1.out.cells
      clear q0 q1 q2 q3 d1 d2 hb1 hbb1
      cases g1 : okL c.labels e1
      · have G1 := hide g1
        clear g1
        go_wp2
        go_ret
        exact ⟨ret_bool (HX.out (by rw [HOK.out, G1.out]; rfl)).symm, hbel1⟩
      go_wp2_with fail
      refine (HQ.out e2 _).mono ?_
      rintro e w2 ⟨rfl, hb2⟩
      have hsz2 : wr.heap.size < w2.heap.size := by have := hb2.size; omega
      have m1' : w2.cell? ⟨wr.heap.size, 0, none⟩ = some (.int .i64 e1) := by rw [hb2.cell (p := ⟨wr.heap.size, 0, none⟩) hsz1]; exact m1
      have m2' : w2.cell? ⟨wr.heap.size, 1, none⟩ = some (.int .i64 e2) := by rw [hb2.cell (p := ⟨wr.heap.size, 1, none⟩) hsz1]; exact m2
      have HB2 := hide (HB1.out.below hb2 HB1.out.lt)
      have hbel2 := hbel1.trans (hb2.mono hbel1.size)
      obtain ⟨q0, q1, q2, q3⟩ := HB2.out.cells
      clear p0 p1 p2 p3 m1 m2 hb2 hsz1
      have G1 := hide g1
      clear g1
      cases g2 : okL c.labels e2
      · have G2 := hide g2
        clear g2
        go_wp2
        go_ret
        exact ⟨ret_bool (HX.out (by rw [HOK.out, G2.out]; simp)).symm, hbel2⟩
      have G2 := hide g2
      clear g2
      by_cases he : e1 = e2
      · have heb : (e1 == e2) = true := by simpa using he
        have EB := hide heb
        clear he
        go_wp2
        go_ret
        exact ⟨ret_bool (HX.out (by rw [HOK.out, EB.out]; simp)).symm, hbel2⟩
      · have heb : (e1 == e2) = false := by simpa using he
        have EB := hide heb
        clear he
        obtain ⟨x, hx, hxn⟩ := okL_nat HNN.out G1.out
        obtain ⟨y, hy, hyn⟩ := okL_nat HNN.out G2.out
        have HX1 := hide hx
        have HY1 := hide hy
        clear hx hy
        go_wp2_with fail
        rw [HX1.out, HY1.out]
        refine (HLQ.out y x _ hyn hxn hbel2).mono ?_
        rintro e w3 ⟨rfl, hb3⟩
        have HB3 := hide (HB2.out.below hb3 HB2.out.lt)
        have hbel3 := hbel2.trans (hb3.mono hbel2.size)
        clear q0 q1 q2 q3 m1' m2' hb3
        cases g3 : c.le y x
        · have G3 := hide g3
          clear g3
          go_wp2
          go_ret
          exact ⟨ret_bool (HX.out (by rw [HOK.out, HX1.out, HY1.out, G3.out]; simp)).symm, hbel3⟩
        · have G3 := hide g3
          clear g3
          go_wp2
          go_roundw
          case rel => exact ⟨k + 1, by omega, by go_num, by rw [HS.out, HA.out, HOK.out, G1.out, G2.out, EB.out, HX1.out, HY1.out, G3.out]; rfl, HB3.out, hbel3⟩
          case measure => simp [intOf]; omega
    · have hke : k = c.grants.length := by omega
      have HT := hide (show c.grants.all (grantOk c) = true by have := HA.out; rwa [hke, List.take_length] at this)
      by_cases h30 : c.grants.length ≤ 30
      · go_wp2
        go_ret
        exact ⟨ret_bool (by rw [HD.out, HT.out]; simp; omega), hbel⟩
      · go_wp2
        go_ret
        exact ⟨ret_bool (by rw [HD.out, HT.out]; simp; omega), hbel⟩
end Go.Proofs.YtgigkiocdiffjaaGreat
