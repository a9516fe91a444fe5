/- veilref.labels, grants. -/
import Derived.Test.YtgigkiocdiffjaaGreatRjoin
namespace Go.Proofs.YtgigkiocdiffjaaGreat
open Go.RowKit Veil
/-- One thing of a list, later. -/
theorem SeqAt.at {α : Type} {x y : α → Value} {w w' : World} {ao : Option Addr} {l : List α} (h : SeqAt x y w ao l) (hb : Below w.heap.size w w') {i : Nat} {p : α} (hi : l[i]? = some p) :
    ∃ b off, ao = some ⟨b, off, none⟩ ∧ b < w.heap.size ∧ w'.cell? ⟨b, off + i * 2, none⟩ = some (x p) ∧ w'.cell? ⟨b, off + i * 2 + 1, none⟩ = some (y p) := by
  rcases h with rfl | ⟨b, off, h1, h2, h3⟩
  · simp at hi
  · exact ⟨b, off, h1, h2, (hb.cell (p := ⟨b, off + i * 2, none⟩) h2).trans (h3 i p hi).1, (hb.cell (p := ⟨b, off + i * 2 + 1, none⟩) h2).trans (h3 i p hi).2⟩
theorem all_take_succ {α : Type} (l : List α) (f : α → Bool) (k : Nat) (p : α) (h : l[k]? = some p) : (l.take (k + 1)).all f = ((l.take k).all f && f p) := by
  rw [List.take_add_one, h]; simp
theorem all_false_of {α : Type} (l : List α) (f : α → Bool) (k : Nat) (p : α) (h : l[k]? = some p) (hf : f p = false) : l.all f = false := by
  rw [List.all_eq_false]; exact ⟨p, List.mem_of_getElem? h, by simp [hf]⟩

set_option maxRecDepth 100000 in
set_option maxHeartbeats 4000000 in
theorem rlabels_any (c : Cfg) (v : CfgV) (w : World) (hok : CfgOk c) (hat : CfgAt w c v) :
    Calls Tryz.prog 101 #[.agg (cfgCells c v)] w fun e w' => e = .returned (.bool (labelsB c)) ∧ Below w.heap.size w w' := by
  have k1 := hok.edges
  have HE := hide hat.edges
  have HD := hide (show labelsB c = (decide (1 ≤ c.labels) && decide (c.labels ≤ 6) && decide (c.edges.length ≤ 30) && c.edges.all (edgeOk c.labels)) from rfl)
  have hlab : ∀ (a : Int) (w' : World), Calls Tryz.prog 148 #[.agg (cfgCells c v), .int .i64 a] w' fun e w'' => e = .returned (.bool (okL c.labels a)) ∧ Below w'.heap.size w' w'' := fun a w' => rlabel_any c v a w'
  have HQ := hide hlab
  clear hat hok hlab
  unfold cfgCells at *
  by_cases h1 : c.labels < 1
  · go_enter Tryz.func101, Tryz.ntmps101
    go_wp2
    go_ret
    exact ⟨ret_bool (by rw [HD.out]; simp; omega), below_box _ _⟩
  by_cases h2 : 6 < c.labels
  · go_enter Tryz.func101, Tryz.ntmps101
    go_wp2
    go_ret
    exact ⟨ret_bool (by rw [HD.out]; simp; omega), below_box _ _⟩
  by_cases h3 : 30 < c.edges.length
  · have h3' : (30 : Int) < (c.edges.length : Int) := by omega
    go_enter Tryz.func101, Tryz.ntmps101
    go_wp2
    go_ret
    exact ⟨ret_bool (by rw [HD.out]; simp; omega), below_box _ _⟩
  have HR := hide (show labelsB c = c.edges.all (edgeOk c.labels) by rw [HD.out]; simp [show 1 ≤ c.labels by omega, show c.labels ≤ 6 by omega, show c.edges.length ≤ 30 by omega])
  clear HD
  go_enter Tryz.func101, Tryz.ntmps101
  go_wp2
  go_loopw [3] (fun i wr => ∃ k : Nat, k ≤ c.edges.length ∧ i = .int .i64 k ∧ (c.edges.take k).all (edgeOk c.labels) = true ∧ BoxAt wr w.heap.size c v ∧ Below w.heap.size w wr) (fun i _ => c.edges.length - (intOf i).toNat)
  case atStart => exact ⟨0, Nat.zero_le _, rfl, by simp, box_new _ _ _, below_box _ _⟩
  case round =>
    obtain ⟨k, hk, rfl, hall, hbox, hbel⟩ := hrel
    have HA := hide hall
    have HB := hide hbox
    obtain ⟨q0, q1, q2, q3⟩ := hbox.cells
    have hwl := hbox.lt
    clear hall hbox
    by_cases hlt : k < c.edges.length
    · have hek : c.edges[k]? = some c.edges[k] := List.getElem?_eq_getElem hlt
      obtain ⟨b, off, hao, hbl, d1, d2⟩ := HE.out.at hbel hek
      rw [hao] at q1
      have HS := hide (all_take_succ c.edges (edgeOk c.labels) k _ hek)
      have HF := hide (all_false_of c.edges (edgeOk c.labels) k _ hek)
      have HO := hide hao
      generalize c.edges[k] = e at *
      obtain ⟨e1, e2⟩ := e
      simp only [xE, yE] at d1 d2
      have hbl2 : b < wr.heap.size := Nat.lt_of_lt_of_le hbl hbel.size
      have HOK := hide (show edgeOk c.labels (e1, e2) = (okL c.labels e1 && okL c.labels e2 && !(e1 == e2)) from rfl)
      clear hek hao
      go_wp2_with fail
      rw [← HO.out]
      refine (HQ.out e1 _).mono ?_
      rintro e w1 ⟨rfl, hb1⟩
      have hsz1 : wr.heap.size < w1.heap.size := by have := hb1.size; simp at this; omega
      have m1 : w1.cell? ⟨wr.heap.size, 0, none⟩ = some (.int .i64 e1) := by rw [hb1.cell (p := ⟨wr.heap.size, 0, none⟩) (by simp)]; simp
      have m2 : w1.cell? ⟨wr.heap.size, 1, none⟩ = some (.int .i64 e2) := by rw [hb1.cell (p := ⟨wr.heap.size, 1, none⟩) (by simp)]; simp
      have hbb1 : Below wr.heap.size wr w1 := (below_box _ _).trans (hb1.mono (by simp))
      have HB1 := hide (HB.out.below hbb1 HB.out.lt)
      have hbel1 := hbel.trans (hbb1.mono hbel.size)
      obtain ⟨p0, p1, p2, p3⟩ := HB1.out.cells
      clear q0 q1 q2 q3 d1 d2 hb1 hbb1
      cases g1 : okL c.labels e1
      · have G1 := hide g1
        clear g1
        go_wp2
        go_ret
        exact ⟨ret_bool (by rw [HR.out, HF.out (by rw [HOK.out, G1.out]; rfl)]), hbel1⟩
      go_wp2_with fail
      refine (HQ.out e2 _).mono ?_
      rintro e w2 ⟨rfl, hb2⟩
      have hsz2 : wr.heap.size < w2.heap.size := by have := hb2.size; omega
      have m1' : w2.cell? ⟨wr.heap.size, 0, none⟩ = some (.int .i64 e1) := by rw [hb2.cell (p := ⟨wr.heap.size, 0, none⟩) hsz1]; exact m1
      have m2' : w2.cell? ⟨wr.heap.size, 1, none⟩ = some (.int .i64 e2) := by rw [hb2.cell (p := ⟨wr.heap.size, 1, none⟩) hsz1]; exact m2
      have HB2 := hide (HB1.out.below hb2 HB1.out.lt)
      have hbel2 := hbel1.trans (hb2.mono hbel1.size)
      clear p0 p1 p2 p3 m1 m2 hb2 hsz1
      have G1 := hide g1
      clear g1
      cases g2 : okL c.labels e2
      · have G2 := hide g2
        clear g2
        go_wp2
        go_ret
        exact ⟨ret_bool (by rw [HR.out, HF.out (by rw [HOK.out, G2.out]; simp)]), hbel2⟩
      have G2 := hide g2
      clear g2
      by_cases he : e1 = e2
      · have heb : (e1 == e2) = true := by simpa using he
        have EB := hide heb
        clear he
        go_wp2
        go_ret
        exact ⟨ret_bool (by rw [HR.out, HF.out (by rw [HOK.out, EB.out]; simp)]), hbel2⟩
      · have heb : (e1 == e2) = false := by simpa using he
        have EB := hide heb
        clear he
        go_wp2
        go_roundw
        case rel => exact ⟨k + 1, by omega, by go_num, by rw [HS.out, HA.out, HOK.out, G1.out, G2.out, EB.out]; rfl, HB2.out, hbel2⟩
        case measure => simp [intOf]; omega
    · have hke : k = c.edges.length := by omega
      have HT := hide (show c.edges.all (edgeOk c.labels) = true by have := HA.out; rwa [hke, List.take_length] at this)
      go_wp2
      go_ret
      exact ⟨ret_bool (by rw [HR.out, HT.out]), hbel⟩
end Go.Proofs.YtgigkiocdiffjaaGreat
