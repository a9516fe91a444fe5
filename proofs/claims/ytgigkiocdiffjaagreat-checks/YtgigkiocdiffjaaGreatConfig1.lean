/- config.isPatternOf, areGrants. -/
import Derived.Test.YtgigkiocdiffjaaGreatOrder5
namespace Go.Proofs.YtgigkiocdiffjaaGreat
open Go.RowKit Veil
def noneOf (R : List (ByteArray × Int)) (t : ByteArray) : Bool := R.all fun q => !sameS q.1 t
theorem noneOf_succ (R : List (ByteArray × Int)) (t : ByteArray) (k : Nat) (p : ByteArray × Int) (h : R[k]? = some p) : noneOf (R.take (k + 1)) t = (noneOf (R.take k) t && !sameS p.1 t) := all_take_succ R _ k p h
theorem noneOf_false (R : List (ByteArray × Int)) (t : ByteArray) (k : Nat) (p : ByteArray × Int) (h : R[k]? = some p) (hf : sameS p.1 t = true) : noneOf R t = false := all_false_of R _ k p h (by simp [hf])
set_option maxRecDepth 100000 in
set_option maxHeartbeats 4000000 in
theorem isPattern_any (R : List (ByteArray × Int)) (ra : Option Addr) (rc : Nat) (t : ByteArray) (w : World) (k1 : R.length < 2 ^ 57) (hat : SeqAt xR yR w ra R) :
    Calls Tryz.prog 147 #[.slice ra R.length rc, .string t] w fun e w' => e = .returned (.bool (!noneOf R t)) ∧ Below w.heap.size w w' := by
  have HE := hide hat
  clear hat
  go_enter Tryz.func147, Tryz.ntmps147
  go_wp2
  go_loopw [9] (fun i wr => ∃ k : Nat, k ≤ R.length ∧ i = .int .i64 k ∧ noneOf (R.take k) t = true ∧ Below w.heap.size w wr) (fun i _ => R.length - (intOf i).toNat)
  case atStart => exact ⟨0, Nat.zero_le _, rfl, by simp [noneOf], Below.refl _ _⟩
  case round =>
    obtain ⟨k, hk, rfl, hall, hbel⟩ := hrel
    have HA := hide hall
    clear hall
    by_cases hlt : k < R.length
    · have hek : R[k]? = some R[k] := List.getElem?_eq_getElem hlt
      obtain ⟨b, off, hao, hbl, d1, d2⟩ := HE.out.at hbel hek
      have HS := hide (noneOf_succ R t k _ hek)
      have HF := hide (noneOf_false R t k _ hek)
      have hidx : ∀ w', (Instr.indexAt 28 (.slice ra R.length rc) (.int .i64 (k : Int))).run Tryz.prog w' = .ok (.pointer (some ⟨b, off + k * 2, none⟩)) w' := by
        intro w'
        have hji : (k : Int) < (R.length : Int) := by omega
        rw [hao]
        go_simp
      generalize R[k] = e at *
      obtain ⟨e1, e2⟩ := e
      simp only [xR, yR] at d1 d2
      have HSS := hide (show sameS e1 t = (e1.toList == t.toList) from rfl)
      have hbl2 : b < wr.heap.size := Nat.lt_of_lt_of_le hbl hbel.size
      have hbel1 := hbel.alloc hbel.size (.cells #[.string e1, .int .i64 e2] 163)
      clear hek hao
      cases g3 : (e1.toList == t.toList)
      · have G3 := hide g3
        go_wp2
        go_roundw
        case rel => exact ⟨k + 1, by omega, by go_num, by rw [HS.out, HA.out, HSS.out, G3.out]; rfl, hbel1⟩
        case measure => simp [intOf]; omega
      · have G3 := hide g3
        go_wp2
        go_ret
        exact ⟨ret_bool (by rw [HF.out (by rw [HSS.out, G3.out])]; rfl), hbel1⟩
    · have hke : k = R.length := by omega
      have HT := hide (show noneOf R t = true by have := HA.out; rwa [hke, List.take_length] at this)
      go_wp2
      go_ret
      exact ⟨ret_bool (by rw [HT.out]; rfl), hbel⟩
def grantO (n : Nat) (f : Nat → Nat → Bool) (g : Int × Int) : Bool := !(g.2 == g.1) && leO n f g.2 g.1
def grantsO (n : Nat) (f : Nat → Nat → Bool) (G : List (Int × Int)) : Bool := decide (G.length ≤ 30) && G.all (grantO n f)
set_option maxRecDepth 100000 in
set_option maxHeartbeats 4000000 in
theorem areGrants_any (n : Nat) (f : Nat → Nat → Bool) (G : List (Int × Int)) (ga : Option Addr) (gc : Nat) (w : World) (hn : n ≤ 6) (k1 : G.length < 2 ^ 57) (hat : SeqAt xE yE w ga G) :
    Calls Tryz.prog 100 #[.agg (ordC n f), .slice ga G.length gc] w fun e w' => e = .returned (.bool (grantsO n f G)) ∧ Below w.heap.size w w' := by
  have HE := hide hat
  have HD := hide (show grantsO n f G = (decide (G.length ≤ 30) && G.all (grantO n f)) from rfl)
  have hbox := below_box w (.cells (ordC n f) 105)
  have HO := hide (ord_new w n f)
  clear hat
  by_cases h3 : 30 < G.length
  · have h3' : (30 : Int) < (G.length : Int) := by omega
    go_enter Tryz.func100, Tryz.ntmps100
    go_wp2
    go_ret
    exact ⟨ret_bool (by rw [HD.out]; simp; omega), hbox⟩
  have HR := hide (show grantsO n f G = G.all (grantO n f) by rw [HD.out]; simp [show G.length ≤ 30 by omega])
  clear HD
  go_enter Tryz.func100, Tryz.ntmps100
  go_wp2
  go_loopw [12] (fun i wr => ∃ k : Nat, k ≤ G.length ∧ i = .int .i64 k ∧ (G.take k).all (grantO n f) = true ∧ OrdAt wr w.heap.size n f ∧ Below w.heap.size w wr) (fun i _ => G.length - (intOf i).toNat)
  case atStart => exact ⟨0, Nat.zero_le _, rfl, by simp, HO.out, hbox⟩
  case round =>
    clear HO hbox
    obtain ⟨k, hk, rfl, hall, hO, hbel⟩ := hrel
    have HA := hide hall
    have HO := hide hO
    clear hall hO
    by_cases hlt : k < G.length
    · have hek : G[k]? = some G[k] := List.getElem?_eq_getElem hlt
      obtain ⟨b, off, hao, hbl, d1, d2⟩ := HE.out.at hbel hek
      have HS := hide (all_take_succ G (grantO n f) k _ hek)
      have HF := hide (all_false_of G (grantO n f) k _ hek)
      have hidx : ∀ w', (Instr.indexAt 29 (.slice ga G.length gc) (.int .i64 (k : Int))).run Tryz.prog w' = .ok (.pointer (some ⟨b, off + k * 2, none⟩)) w' := by
        intro w'
        have hji : (k : Int) < (G.length : Int) := by omega
        rw [hao]
        go_simp
      generalize G[k] = e at *
      obtain ⟨e1, e2⟩ := e
      simp only [xE, yE] at d1 d2
      have HOK := hide (show grantO n f (e1, e2) = (!(e2 == e1) && leO n f e2 e1) from rfl)
      have hbl2 : b < wr.heap.size := Nat.lt_of_lt_of_le hbl hbel.size
      have hbel1 := hbel.alloc hbel.size (.cells #[.int .i64 e1, .int .i64 e2] 166)
      have hlt0 := HO.out.lt
      have HO1 : Hid (OrdAt (wr.alloc (.cells #[.int .i64 e1, .int .i64 e2] 166)) w.heap.size n f) := row_alloc' HO.out
      have i1 := HO1.out.is
      have a1 := HO1.out.at
      clear hek hao
      cases heb : (e2 == e1)
      · have EB := hide heb
        go_wp2_with fail
        refine (oleq_any n f e2 e1 _ hn).mono ?_
        rintro e w1 ⟨rfl, hb1⟩
        have hbel2 := hbel1.trans (hb1.mono hbel1.size)
        have HO2 := hide (HO1.out.below hb1 HO1.out.lt)
        clear hb1 i1 a1 heb
        cases g1 : leO n f e2 e1
        · have G1 := hide g1
          clear g1
          go_wp2
          go_ret
          exact ⟨ret_bool (by rw [HR.out, HF.out (by rw [HOK.out, G1.out]; simp)]), hbel2⟩
        · have G1 := hide g1
          clear g1
          go_wp2
          go_roundw
          case rel => exact ⟨k + 1, by omega, by go_num, by rw [HS.out, HA.out, HOK.out, G1.out, EB.out]; rfl, HO2.out, hbel2⟩
          case measure => simp [intOf]; omega
      · have EB := hide heb
        go_wp2
        go_ret
        exact ⟨ret_bool (by rw [HR.out, HF.out (by rw [HOK.out, EB.out]; rfl)]), hbel1⟩
    · have hke : k = G.length := by omega
      have HT := hide (show G.all (grantO n f) = true by have := HA.out; rwa [hke, List.take_length] at this)
      go_wp2
      go_ret
      exact ⟨ret_bool (by rw [HR.out, HT.out]), hbel⟩
end Go.Proofs.YtgigkiocdiffjaaGreat
