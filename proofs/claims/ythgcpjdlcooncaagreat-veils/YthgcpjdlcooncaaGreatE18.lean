/- View1, View2. -/
import Derived.Test.YthgcpjdlcooncaaGreatE17
import Derived.Laws.IdiomStrings
import Derived.Laws.BytesArg
import Derived.Test.YthgcpjdlcooncaaGreatE15
namespace Go.Proofs.YthgcpjdlcooncaaGreat
open Go.RowKit Veil
def seV (x : Se) : List Value := [.int .i64 x.num, .int .u8 x.b, .bool x.hid, .bool x.free]
def byV (n : Nat) : List Value := [.int .u8 n]
def strV (s : ByteArray) : List Value := [.string s]
theorem Tryz.infoU8 : (Tryz.prog.info? 5).map (fun i => (i.zero, i.size, i.bytes)) = some (some (.int .u8 0), 1, 1) := by kernel_rfl
theorem textF_congr {f g : Nat → Nat} {a b : Nat} (h : ∀ j, a ≤ j → j < b → f j = g j) : textF f a b = textF g a b := by
  unfold textF
  congr 2
  apply List.map_congr_left
  intro j hj
  rw [List.mem_range'_1] at hj
  rw [h j hj.1 (by omega)]
theorem conv_own {w : World} {B : Nat} {vl : Value} {l : List Nat} (h : OwnL 5 1 byV w B vl l) (hb : ∀ n, n ∈ l → n < 256) : (convert 140 9 vl).run Tryz.prog w = .ok (.string (textF (fun j => l.getD j 0) 0 l.length)) w := by
  by_cases hn : 0 < l.length
  · obtain ⟨g, cap, rfl, _, _⟩ := h.form hn
    have hl : (l.map UInt8.ofNat).length = l.length := by simp
    have := run_convert_bytes_back (P := Tryz.prog) w 140 9 5 ⟨g, 0, none⟩ cap (l.map UInt8.ofNat) Tryz.underlying140 Tryz.underlying5 Tryz.underlying9 (fun j hj => by
      have hj' : j < l.length := by simpa using hj
      have hc := h.cell (show ∀ a, (byV a).length = 1 from fun _ => rfl) rfl (List.getElem?_eq_getElem hj') (j := 0) (by omega)
      have hadd : (⟨g, 0, none⟩ : Addr).add j = ⟨g, j, none⟩ := by unfold Addr.add; split <;> simp_all
      rw [hadd]
      rw [Nat.mul_one, Nat.add_zero] at hc
      rw [hc]
      have := hb _ (List.getElem_mem hj')
      simp only [byV, List.getElem?_cons_zero, List.getElem_map]
      congr 2
      have : (UInt8.ofNat l[j]).toNat = l[j] := by simp; omega
      rw [this])
    rw [hl] at this
    rw [this]
    have he : l.map UInt8.ofNat = (List.range' 0 (l.length - 0)).map fun j => UInt8.ofNat (l.getD j 0) := by
      apply List.ext_getElem?
      intro j
      by_cases hj : j < l.length
      · rw [List.getElem?_map, List.getElem?_map, List.getElem?_range' (by omega), List.getElem?_eq_getElem hj]
        simp [List.getD, List.getElem?_eq_getElem hj]
      · rw [List.getElem?_eq_none (by simp; omega), List.getElem?_eq_none (by simp; omega)]
    rw [he]
    rfl
  · have h0 : l = [] := List.eq_nil_of_length_eq_zero (by omega)
    subst h0
    obtain ⟨ao, cap, rfl⟩ := h.shape
    rcases h.2 with ⟨h1, _⟩ | ⟨g, cap', cur, h1, _⟩
    · rw [h1]
      have := run_convert_bytes_nil (P := Tryz.prog) w 140 5 Tryz.underlying140 Tryz.underlying5 0 0 9 Tryz.underlying9
      rw [this]; rfl
    · rw [h1]
      have := run_convert_bytes_back (P := Tryz.prog) w 140 9 5 ⟨g, 0, none⟩ cap' [] Tryz.underlying140 Tryz.underlying5 Tryz.underlying9 (fun j hj => by simp at hj)
      exact this
theorem range_map_snoc (f : Nat → Nat) (k : Nat) : (List.range (k + 1)).map f = (List.range k).map f ++ [f k] := by rw [List.range_succ, List.map_append]; rfl
theorem seeB_at {S : List Se} {k : Nat} {x : Se} (h : S[k]? = some x) : seeB S k = bif x.hid then 35 else x.b := by
  unfold seeB seAt; simp [List.getD, h]
theorem seeB_lt {S : List Se} (h : ∀ x, x ∈ S → x.b < 256) (k : Nat) : seeB S k < 256 := by
  unfold seeB seAt
  cases hk : S[k]? with
  | none => simp [List.getD, hk]
  | some x =>
    have := h x (List.mem_of_getElem? hk)
    simp only [List.getD, hk, Option.getD_some]
    cases x.hid
    · exact this
    · exact (by decide : (35 : Nat) < 256)
set_option maxRecDepth 100000 in
set_option maxHeartbeats 4000000 in
theorem vwTextOf_any (S : List Se) (vs : Value) (w : World) (hvs : SeqV 4 seV w vs S) (hS : S.length ≤ 1000000) (hb : ∀ x, x ∈ S → x.b < 256) :
    Calls Tryz.prog 141 #[vs] w fun e w' => e = .returned (.string (seeT S)) ∧ Below w.heap.size w w' := by
  obtain ⟨ao, cap, gs, rfl, hao, hcs⟩ := hvs
  have HC := hide hcs
  have HAO := hide hao
  have HBY := hide (seeB_lt hb)
  have HCV := hide (fun (wz : World) (vl : Value) (h : OwnL 5 1 byV wz w.heap.size vl ((List.range S.length).map (seeB S))) => conv_own h (fun n hn => by obtain ⟨j, _, rfl⟩ := List.mem_map.1 hn; exact seeB_lt hb j))
  have HTX := hide (show textF (fun j => ((List.range S.length).map (seeB S)).getD j 0) 0 ((List.range S.length).map (seeB S)).length = seeT S by
    unfold seeT
    rw [List.length_map, List.length_range]
    exact textF_congr (fun j _ hj => by simp [List.getD, hj]))
  rw [HTX.out] at HCV
  clear hcs hao hb HTX
  go_enter Tryz.func141, Tryz.ntmps141
  go_wp2
  go_loopw [3, 8] (fun vl i wr => ∃ k : Nat, k ≤ S.length ∧ i = .int .i64 k ∧ OwnL 5 1 byV wr w.heap.size vl ((List.range k).map (seeB S)) ∧ Below w.heap.size w wr) (fun _ i _ => S.length - (intOf i).toNat)
  case atStart => exact ⟨0, Nat.zero_le _, rfl, OwnL.nil _ _ _ _ _, Below.refl _ _⟩
  case round =>
    obtain ⟨wo, rfl⟩ : ∃ x, x = wr := ⟨_, rfl⟩
    obtain ⟨k, hk, rfl, hvl, hbel⟩ := hrel
    have HVL := hide hvl
    clear hvl
    by_cases hlt : k < S.length
    · have hki : (k : Int) < (S.length : Int) := by omega
      have hne : S ≠ [] := fun e => by rw [e] at hlt; simp at hlt
      obtain ⟨rfl, hgs⟩ := HAO.out.resolve_left hne
      have hej : S[k]? = some S[k] := List.getElem?_eq_getElem hlt
      have c0 := HC.out k _ hej 0 (by omega)
      have c1 := HC.out k _ hej 1 (by omega)
      have c2 := HC.out k _ hej 2 (by omega)
      have c3 := HC.out k _ hej 3 (by omega)
      have HSB := hide (seeB_at hej)
      have HSN := hide (range_map_snoc (seeB S) k)
      have hbl := HBY.out k
      have hln : ((List.range k).map (seeB S)).length = k := by simp
      generalize S[k] = x at *
      obtain ⟨x1, x2, x3, x4⟩ := x
      have d0 : wo.cell? ⟨gs, k * 4, none⟩ = some (.int .i64 x1) := (hbel.cell (p := ⟨gs, k * 4, none⟩) hgs).trans c0
      have d1 : wo.cell? ⟨gs, k * 4 + 1, none⟩ = some (.int .u8 x2) := (hbel.cell (p := ⟨gs, k * 4 + 1, none⟩) hgs).trans c1
      have d2 : wo.cell? ⟨gs, k * 4 + 2, none⟩ = some (.bool x3) := (hbel.cell (p := ⟨gs, k * 4 + 2, none⟩) hgs).trans c2
      have d3 : wo.cell? ⟨gs, k * 4 + 3, none⟩ = some (.bool x4) := (hbel.cell (p := ⟨gs, k * 4 + 3, none⟩) hgs).trans c3
      have hbB : Below wo.heap.size wo (wo.alloc (.cells #[.int .i64 x1, .int .u8 x2, .bool x3, .bool x4] 199)) := below_box _ _
      have hbelB := hbel.trans (hbB.mono hbel.size)
      have HVB := hide (HVL.out.below hbB)
      clear c0 c1 c2 c3 hej hne
      cases x3
      · rw [show (bif (⟨x1, x2, false, x4⟩ : Se).hid then 35 else (⟨x1, x2, false, x4⟩ : Se).b) = x2 from rfl] at HSB
        rw [HSB.out] at HSN
        have hbC := below_box (wo.alloc (.cells #[.int .i64 x1, .int .u8 x2, .bool false, .bool x4] 199)) (.cells #[.int .u8 x2] 5)
        have hbelC := hbelB.trans (hbC.mono hbelB.size)
        have HVC := hide (HVB.out.below hbC)
        have HNC := hide (heap_alloc2_new wo (.cells #[.int .i64 x1, .int .u8 x2, .bool false, .bool x4] 199) (.cells #[.int .u8 x2] 5))
        go_wp2_with (at_builtin; refine wpList_push rfl (.tmp 17) (.tmp 20) 140 rfl (.int .u8 0) 1 Tryz.underlying140 Tryz.infoU8 rfl (by decide) rfl HVC.out (wo.heap.size + 1) 1 x2 rfl 5 (0, 0) HNC.out rfl (by intro u hu; simp [byV] at hu; rcases hu with rfl; rfl) (by omega) (by decide) hbelC.size (wo.heap.size + 2) (by simp) ?_; intro g6 cap6 w6 hown6 hgrow6 hat6 hlt6)
        have hb6 := hbelC.trans (below_of_grown hgrow6 (fun b hb => (HVC.out.lt hb).1) hbelC.size)
        go_roundw
        case rel => exact ⟨k + 1, by omega, by go_num, by rw [HSN.out]; simpa [hln] using hown6, hb6⟩
        case measure => simp [intOf]; omega
      · rw [show (bif (⟨x1, x2, true, x4⟩ : Se).hid then 35 else (⟨x1, x2, true, x4⟩ : Se).b) = 35 from rfl] at HSB
        rw [HSB.out] at HSN
        have hbC := below_box (wo.alloc (.cells #[.int .i64 x1, .int .u8 x2, .bool true, .bool x4] 199)) (.cells #[.int .u8 35] 5)
        have hbelC := hbelB.trans (hbC.mono hbelB.size)
        have HVC := hide (HVB.out.below hbC)
        have HNC := hide (heap_alloc2_new wo (.cells #[.int .i64 x1, .int .u8 x2, .bool true, .bool x4] 199) (.cells #[.int .u8 35] 5))
        go_wp2_with (at_builtin; refine wpList_push rfl (.tmp 14) (.tmp 15) 140 rfl (.int .u8 0) 1 Tryz.underlying140 Tryz.infoU8 rfl (by decide) rfl HVC.out (wo.heap.size + 1) 1 35 rfl 5 (0, 0) HNC.out rfl (by intro u hu; simp [byV] at hu; rcases hu with rfl; rfl) (by omega) (by decide) hbelC.size (wo.heap.size + 2) (by simp) ?_; intro g6 cap6 w6 hown6 hgrow6 hat6 hlt6)
        have hb6 := hbelC.trans (below_of_grown hgrow6 (fun b hb => (HVC.out.lt hb).1) hbelC.size)
        go_roundw
        case rel => exact ⟨k + 1, by omega, by go_num, by rw [HSN.out]; simpa [hln] using hown6, hb6⟩
        case measure => simp [intOf]; omega
    · obtain rfl : k = S.length := by omega
      have hkc : decide ((S.length : Int) < (S.length : Int)) = false := by simp
      have hcv := HCV.out wo _ HVL.out
      go_wp2
      go_ret
      exact ⟨rfl, hbel⟩
theorem plB_at {P : List Pl} {k : Nat} {p : Pl} (h : P[k]? = some p) : plB P k = p.b := by simp [plB, List.getD, h]
set_option maxRecDepth 100000 in
set_option maxHeartbeats 4000000 in
theorem vwText_any (P : List Pl) (vs : Value) (w : World) (hvs : SeqV 3 placeV w vs P) (hS : P.length ≤ 1000000) (hb : ∀ j, plB P j < 256) :
    Calls Tryz.prog 113 #[vs] w fun e w' => e = .returned (.string (viewT P)) ∧ Below w.heap.size w w' := by
  obtain ⟨ao, cap, gs, rfl, hao, hcs⟩ := hvs
  have HC := hide hcs
  have HAO := hide hao
  have HCV := hide (fun (wz : World) (vl : Value) (h : OwnL 5 1 byV wz w.heap.size vl ((List.range P.length).map (plB P))) => conv_own h (fun n hn => by obtain ⟨j, _, rfl⟩ := List.mem_map.1 hn; exact hb j))
  have HTX := hide (show textF (fun j => ((List.range P.length).map (plB P)).getD j 0) 0 ((List.range P.length).map (plB P)).length = viewT P by
    unfold viewT
    rw [List.length_map, List.length_range]
    exact textF_congr (fun j _ hj => by simp [List.getD, hj]))
  rw [HTX.out] at HCV
  clear hcs hao hb HTX
  go_enter Tryz.func113, Tryz.ntmps113
  go_wp2
  go_loopw [3, 8] (fun vl i wr => ∃ k : Nat, k ≤ P.length ∧ i = .int .i64 k ∧ OwnL 5 1 byV wr w.heap.size vl ((List.range k).map (plB P)) ∧ Below w.heap.size w wr) (fun _ i _ => P.length - (intOf i).toNat)
  case atStart => exact ⟨0, Nat.zero_le _, rfl, OwnL.nil _ _ _ _ _, Below.refl _ _⟩
  case round =>
    obtain ⟨wo, rfl⟩ : ∃ x, x = wr := ⟨_, rfl⟩
    obtain ⟨k, hk, rfl, hvl, hbel⟩ := hrel
    have HVL := hide hvl
    clear hvl
    by_cases hlt : k < P.length
    · have hki : (k : Int) < (P.length : Int) := by omega
      have hne : P ≠ [] := fun e => by rw [e] at hlt; simp at hlt
      obtain ⟨rfl, hgs⟩ := HAO.out.resolve_left hne
      have hej : P[k]? = some P[k] := List.getElem?_eq_getElem hlt
      have c0 := HC.out k _ hej 0 (by omega)
      have c1 := HC.out k _ hej 1 (by omega)
      have c2 := HC.out k _ hej 2 (by omega)
      have HSB := hide (plB_at hej)
      have HSN := hide (range_map_snoc (plB P) k)
      have hln : ((List.range k).map (plB P)).length = k := by simp
      generalize P[k] = x at *
      obtain ⟨x1, x2, x3⟩ := x
      have d0 : wo.cell? ⟨gs, k * 3, none⟩ = some (.int .u8 x1) := (hbel.cell (p := ⟨gs, k * 3, none⟩) hgs).trans c0
      have d1 : wo.cell? ⟨gs, k * 3 + 1, none⟩ = some (.int .i64 x2) := (hbel.cell (p := ⟨gs, k * 3 + 1, none⟩) hgs).trans c1
      have d2 : wo.cell? ⟨gs, k * 3 + 2, none⟩ = some (.int .i64 x3) := (hbel.cell (p := ⟨gs, k * 3 + 2, none⟩) hgs).trans c2
      have hbB : Below wo.heap.size wo (wo.alloc (.cells #[.int .u8 x1, .int .i64 x2, .int .i64 x3] 148)) := below_box _ _
      have hbelB := hbel.trans (hbB.mono hbel.size)
      have HVB := hide (HVL.out.below hbB)
      clear c0 c1 c2 hej hne
      rw [HSB.out] at HSN
      have hbC := below_box (wo.alloc (.cells #[.int .u8 x1, .int .i64 x2, .int .i64 x3] 148)) (.cells #[.int .u8 x1] 5)
      have hbelC := hbelB.trans (hbC.mono hbelB.size)
      have HVC := hide (HVB.out.below hbC)
      have HNC := hide (heap_alloc2_new wo (.cells #[.int .u8 x1, .int .i64 x2, .int .i64 x3] 148) (.cells #[.int .u8 x1] 5))
      go_wp2_with (at_builtin; refine wpList_push rfl (.tmp 12) (.tmp 15) 140 rfl (.int .u8 0) 1 Tryz.underlying140 Tryz.infoU8 rfl (by decide) rfl HVC.out (wo.heap.size + 1) 1 x1 rfl 5 (0, 0) HNC.out rfl (by intro u hu; simp [byV] at hu; rcases hu with rfl; rfl) (by omega) (by decide) hbelC.size (wo.heap.size + 2) (by simp) ?_; intro g6 cap6 w6 hown6 hgrow6 hat6 hlt6)
      have hb6 := hbelC.trans (below_of_grown hgrow6 (fun b hb => (HVC.out.lt hb).1) hbelC.size)
      go_roundw
      case rel => exact ⟨k + 1, by omega, by go_num, by rw [HSN.out]; simpa [hln] using hown6, hb6⟩
      case measure => simp [intOf]; omega
    · obtain rfl : k = P.length := by omega
      have hkc : decide ((P.length : Int) < (P.length : Int)) = false := by simp
      have hcv := HCV.out wo _ HVL.out
      go_wp2
      go_ret
      exact ⟨rfl, hbel⟩
/-- A piece of a list of places, for reading. -/
def PiecesAt (w : World) (g off : Nat) (P : List Pl) : Prop := g < w.heap.size ∧ ∀ i p, P[i]? = some p → w.cell? ⟨g, off + i * 3, none⟩ = some (.int .u8 p.b) ∧ w.cell? ⟨g, off + i * 3 + 1, none⟩ = some (.int .i64 p.first) ∧ w.cell? ⟨g, off + i * 3 + 2, none⟩ = some (.int .i64 p.last)
set_option maxRecDepth 100000 in
set_option maxHeartbeats 4000000 in
theorem vwHave_any (P : List Pl) (g off cap : Nat) (w : World) (hvs : PiecesAt w g off P) (hS : P.length ≤ 1000000) :
    Calls Tryz.prog 108 #[.slice (some ⟨g, off, none⟩) P.length cap] w fun e w' => e = .returned (.bool (P.any fun p => p.b == 35)) ∧ Below w.heap.size w w' := by
  obtain ⟨hgs, hcs⟩ := hvs
  have HC := hide hcs
  clear hcs
  go_enter Tryz.func108, Tryz.ntmps108
  go_wp2
  go_loopw [7] (fun i wr => ∃ k : Nat, k ≤ P.length ∧ i = .int .i64 k ∧ ((P.take k).any fun p => p.b == 35) = false ∧ Below w.heap.size w wr) (fun i _ => P.length - (intOf i).toNat)
  case atStart => exact ⟨0, Nat.zero_le _, rfl, rfl, Below.refl _ _⟩
  case round =>
    obtain ⟨wo, rfl⟩ : ∃ x, x = wr := ⟨_, rfl⟩
    obtain ⟨k, hk, rfl, hno, hbel⟩ := hrel
    have HNO := hide hno
    clear hno
    by_cases hlt : k < P.length
    · have hki : (k : Int) < (P.length : Int) := by omega
      have hej : P[k]? = some P[k] := List.getElem?_eq_getElem hlt
      obtain ⟨c0, c1, c2⟩ := HC.out k _ hej
      have HS := hide (any_snoc (fun p : Pl => p.b == 35) P k _ hej)
      have HM := hide (any_mem (fun p : Pl => p.b == 35) P k _ hej)
      generalize P[k] = x at *
      obtain ⟨x1, x2, x3⟩ := x
      have d0 : wo.cell? ⟨g, off + k * 3, none⟩ = some (.int .u8 x1) := (hbel.cell (p := ⟨g, off + k * 3, none⟩) hgs).trans c0
      have d1 : wo.cell? ⟨g, off + k * 3 + 1, none⟩ = some (.int .i64 x2) := (hbel.cell (p := ⟨g, off + k * 3 + 1, none⟩) hgs).trans c1
      have d2 : wo.cell? ⟨g, off + k * 3 + 2, none⟩ = some (.int .i64 x3) := (hbel.cell (p := ⟨g, off + k * 3 + 2, none⟩) hgs).trans c2
      have hbB : Below wo.heap.size wo (wo.alloc (.cells #[.int .u8 x1, .int .i64 x2, .int .i64 x3] 148)) := below_box _ _
      have hbelB := hbel.trans (hbB.mono hbel.size)
      clear c0 c1 c2 hej
      simp only at HS HM
      cases hx : ((x1 : Int) == 35)
      · have e1 : (x1 == 35) = false := by simp at hx ⊢; omega
        rw [e1] at HS
        clear HM e1
        go_wp2
        go_roundw
        case rel => exact ⟨k + 1, by omega, by go_num, by rw [HS.out, HNO.out]; rfl, hbelB⟩
        case measure => simp [intOf]; omega
      · have e1 : (x1 == 35) = true := by simp at hx ⊢; omega
        have HT := hide (HM.out e1)
        clear HS HM e1
        go_wp2
        go_ret
        exact ⟨ret_bool (by rw [HT.out]), hbelB⟩
    · obtain rfl : k = P.length := by omega
      have hkc : decide ((P.length : Int) < (P.length : Int)) = false := by simp
      have HT := hide (show (P.any fun p => p.b == 35) = false by have := HNO.out; rwa [List.take_length] at this)
      go_wp2
      go_ret
      exact ⟨ret_bool (by rw [HT.out]), hbel⟩
end Go.Proofs.YthgcpjdlcooncaaGreat
namespace Go.Proofs.YthgcpjdlcooncaaGreat
open Go.RowKit Veil
def findAll (s p : ByteArray) : List Sp := (spansTo s s.size).filter (hitB s p)
theorem findTo_all (s p : ByteArray) : findTo s p (spansTo s s.size) (spansTo s s.size).length = findAll s p := by
  unfold findTo findAll; rw [List.take_length]
def struckTo (s : ByteArray) (ps : List ByteArray) (k : Nat) : List Sp := (ps.take k).flatMap (findAll s)
theorem struckTo_succ {s : ByteArray} {ps : List ByteArray} {k : Nat} {p : ByteArray} (h : ps[k]? = some p) : struckTo s ps (k + 1) = struckTo s ps k ++ findAll s p := by
  unfold struckTo; rw [List.take_add_one, h, List.flatMap_append]; simp
theorem struckTo_all (s : ByteArray) (ps : List ByteArray) : struckTo s ps ps.length = struckL s ps := by
  unfold struckTo struckL findAll; rw [List.take_length]
theorem findAll_length (s p : ByteArray) : (findAll s p).length ≤ s.size := Nat.le_trans (List.length_filter_le _ _) (spansTo_length s s.size)
theorem struckTo_length (s : ByteArray) (ps : List ByteArray) (k : Nat) : (struckTo s ps k).length ≤ k * s.size := by
  induction k with
  | zero => simp [struckTo]
  | succ k ih =>
    cases h : ps[k]? with
    | none =>
      have : struckTo s ps (k + 1) = struckTo s ps k := by unfold struckTo; rw [List.take_add_one, h]; simp
      rw [this, Nat.add_mul]; omega
    | some p =>
      rw [struckTo_succ h, List.length_append, Nat.add_mul]
      have := findAll_length s p
      omega
theorem own_src {α : Type} {e : TypeId} {sz : Nat} {f : α → List Value} {w : World} {B : Nat} {ao : Option Addr} {n cap : Nat} {l : List α} (h : OwnL e sz f w B (.slice ao n cap) l) : (ao = none → n = 0 ∧ cap = 0) ∧ ∀ a, ao = some a → ∀ j u, (l.flatMap f)[j]? = some u → w.cell? (a.add j) = some u := by
  refine ⟨fun ha => ?_, fun a ha j u hu => ?_⟩
  · rcases h.2 with ⟨h1, _⟩ | ⟨g, cap', cur, h1, _⟩
    · simp only [Value.slice.injEq] at h1
      exact ⟨h1.2.1, h1.2.2⟩
    · simp only [Value.slice.injEq] at h1
      rw [ha] at h1; cases h1.1
  · subst ha
    rcases h.2 with ⟨h1, _⟩ | ⟨g, cap', cur, h1, _⟩
    · simp only [Value.slice.injEq] at h1; cases h1.1
    · simp only [Value.slice.injEq] at h1
      obtain ⟨h2, _, _⟩ := h1
      obtain rfl := Option.some.inj h2
      exact World.ownsRow.cells h (g := g) rfl j u hu
set_option maxRecDepth 100000 in
set_option maxHeartbeats 4000000 in
theorem vwStrike_any (s : ByteArray) (ps : List ByteArray) (vs : Value) (w : World) (hvs : SeqV 1 strV w vs ps) (hS : ps.length ≤ 8) (hs : s.size ≤ 1000000) (hv : ∀ p, p ∈ ps → validB p = true) :
    Calls Tryz.prog 142 #[.string s, vs] w fun e w' => ∃ vl, e = .returned vl ∧ OwnL 57 3 spV w' w.heap.size vl (struckL s ps) ∧ Below w.heap.size w w' := by
  obtain ⟨ao, cap, gs, rfl, hao, hcs⟩ := hvs
  have HC := hide hcs
  have HAO := hide hao
  have HFD := hide (fun (p : ByteArray) (w' : World) (h : p ∈ ps) => spFind_any s p w' hs (hv p h))
  have HAL := hide (struckTo_all s ps)
  clear hcs hao hv
  go_enter Tryz.func142, Tryz.ntmps142
  go_wp2
  go_loopw [5, 11] (fun vl i wr => ∃ k : Nat, k ≤ ps.length ∧ i = .int .i64 k ∧ OwnL 57 3 spV wr w.heap.size vl (struckTo s ps k) ∧ Below w.heap.size w wr) (fun _ i _ => ps.length - (intOf i).toNat)
  case atStart => exact ⟨0, Nat.zero_le _, rfl, OwnL.nil _ _ _ _ _, Below.refl _ _⟩
  case round =>
    obtain ⟨wo, rfl⟩ : ∃ x, x = wr := ⟨_, rfl⟩
    obtain ⟨k, hk, rfl, hvl, hbel⟩ := hrel
    have HVL := hide hvl
    clear hvl
    by_cases hlt : k < ps.length
    · have hki : (k : Int) < (ps.length : Int) := by omega
      have hne : ps ≠ [] := fun e => by rw [e] at hlt; simp at hlt
      obtain ⟨rfl, hgs⟩ := HAO.out.resolve_left hne
      have hej : ps[k]? = some ps[k] := List.getElem?_eq_getElem hlt
      have c0 := HC.out k _ hej 0 (by omega)
      have HF1 := hide (HFD.out ps[k] wo (List.getElem_mem hlt))
      have HSU := hide (struckTo_succ (s := s) hej)
      have hl1 := struckTo_length s ps k
      have hl2 := findAll_length s ps[k]
      have hl3 : k * s.size ≤ 8 * 1000000 := Nat.mul_le_mul (by omega) hs
      rw [findTo_all] at HF1
      generalize ps[k] = p at *
      generalize findAll s p = L at *
      have d0 : wo.cell? ⟨gs, k, none⟩ = some (.string p) := by
        have := (hbel.cell (p := ⟨gs, k * 1 + 0, none⟩) hgs).trans c0
        simpa [strV] using this
      clear c0 hej hne
      go_wp2_with fail
      refine (HF1.out).mono ?_
      rintro e w3 ⟨vf, rfl, hvf, hb3⟩
      obtain ⟨fao, fcap, rfl⟩ := hvf.shape
      obtain ⟨hsrc, hcell⟩ := own_src hvf
      have hbel3 := hbel.trans (hb3.mono hbel.size)
      have HV3 := hide (HVL.out.below hb3)
      have HSRC := hide hsrc
      have HCELL := hide hcell
      clear hsrc hcell hvf
      go_wp2_with (at_builtin; refine wpList_pushes rfl (.tmp 18) (.tmp 19) 55 rfl (.agg #[.int .i64 0, .int .i64 0, .int .i64 0]) 24 Tryz.underlying55 Tryz.infoSpan rfl (by decide) rfl HV3.out fao L.length fcap L rfl rfl HSRC.out HCELL.out (fun _ => rfl) (by intro a _ u hu; simp [spV] at hu; rcases hu with rfl | rfl | rfl <;> rfl) (by omega) (by decide) hbel3.size ?_; intro v6 w6 hown6 hgrow6 hat6)
      have hb6 := hbel3.trans (below_of_grown hgrow6 (fun b hb => (HV3.out.lt hb).1) hbel3.size)
      go_roundw
      case rel => exact ⟨k + 1, by omega, by go_num, by rw [HSU.out]; exact hown6, hb6⟩
      case measure => simp [intOf]; omega
    · obtain rfl : k = ps.length := by omega
      have hkc : decide ((ps.length : Int) < (ps.length : Int)) = false := by simp
      go_wp2
      go_ret
      exact ⟨_, rfl, by rw [← HAL.out]; exact HVL.out, hbel⟩
/-- The bytes of a text that is worked at. -/
def BytesAt (w : World) (g m : Nat) (F : Nat → Nat) : Prop := ∃ cur, w.heap[g]? = some (.cells cur 5 (cur.size, cur.size + 1)) ∧ m ≤ cur.size ∧ ∀ j, j < m → cur[j]? = some (.int .u8 (F j))
theorem BytesAt.cell {w : World} {g m : Nat} {F : Nat → Nat} (h : BytesAt w g m F) {j : Nat} (hj : j < m) : w.cell? ⟨g, j, none⟩ = some (.int .u8 (F j)) ∧ w.frozen? ⟨g, j, none⟩ = false := by
  obtain ⟨cur, h1, h2, h3⟩ := h
  refine ⟨by rw [cell_of_row _ _ _ _ _ _ h1]; exact h3 j hj, ?_⟩
  simp only [World.frozen?, h1]
  simp
  omega
theorem BytesAt.lt {w : World} {g m : Nat} {F : Nat → Nat} (h : BytesAt w g m F) : g < w.heap.size := by
  obtain ⟨cur, h1, _⟩ := h; exact lt_of_row h1
theorem BytesAt.below {w w' : World} {g m : Nat} {F : Nat → Nat} (h : BytesAt w g m F) (hb : Below w.heap.size w w') : BytesAt w' g m F := by
  have hl := h.lt
  obtain ⟨cur, h1, h2, h3⟩ := h
  exact ⟨cur, Below.row hb h1 hl, h2, h3⟩
theorem BytesAt.congr {w : World} {g m : Nat} {F G : Nat → Nat} (h : BytesAt w g m F) (hfg : ∀ j, j < m → F j = G j) : BytesAt w g m G := by
  obtain ⟨cur, h1, h2, h3⟩ := h
  exact ⟨cur, h1, h2, fun j hj => by rw [h3 j hj, hfg j hj]⟩
theorem BytesAt.set {w : World} {g m : Nat} {F G : Nat → Nat} (h : BytesAt w g m F) {i x : Nat} (hG : ∀ j, j < m → G j = if j = i then x else F j) : BytesAt (w.setCell ⟨g, i, none⟩ (.int .u8 x)) g m G := by
  obtain ⟨cur, h1, h2, h3⟩ := h
  have hh : (w.setCell ⟨g, i, none⟩ (.int .u8 x)).heap[g]? = some (.cells (cur.setIfInBounds i (.int .u8 x)) 5 (cur.size, cur.size + 1)) := by
    rw [setCell_eq_setRow w g i cur _ _ _ h1]
    exact setRow_heap w g cur _ _ _ h1
  refine ⟨cur.setIfInBounds i (.int .u8 x), by rw [hh]; simp, by simpa using h2, fun j hj => ?_⟩
  rw [Array.getElem?_setIfInBounds, hG j hj]
  by_cases hij : i = j
  · subst hij; rw [if_pos rfl, if_pos (by omega), if_pos rfl]
  · rw [if_neg hij, if_neg (fun h => hij h.symm), h3 j hj]
theorem bytes_made (w : World) (T : Nat → Nat) (m : Nat) (hT : ∀ j, j < m → T j < 256) : ∃ cap w1, (convert 9 140 (.string (textF T 0 m))).run Tryz.prog w = .ok (.slice (some ⟨w.heap.size, 0, none⟩) m cap) w1 ∧ BytesAt w1 w.heap.size m T ∧ Below w.heap.size w w1 := by
  have h := run_bytes_of_string (P := Tryz.prog) w 9 140 5 (textF T 0 m) Tryz.underlying9 Tryz.underlying140 Tryz.underlying5
  have hsz : (textF T 0 m).size = m := by rw [textF_size]; omega
  rw [hsz] at h
  refine ⟨_, _, h, ⟨_, heap_alloc_new w.drew _, ?_, fun j hj => ?_⟩, ?_⟩
  · unfold bytesRow
    rw [Array.size_append, Array.size_map]
    have : (textF T 0 m).data.size = m := hsz
    omega
  · have hd : j < (textF T 0 m).data.size := by have : (textF T 0 m).data.size = m := hsz; omega
    rw [bytesRow_at _ _ _ hd]
    have hb := bt_textF T m j hj (hT j hj)
    rw [bt_get _ _ (by omega)] at hb
    have hb' : (textF T 0 m).data[j].toNat = T j := hb
    rw [hb']
  · exact (Below.refl w.heap.size w).drew.alloc (Nat.le_refl _) _
/-- As far as it is done. -/
def maskK (S : List Se) (T : Nat → Nat) (L : List Sp) (k lo i j : Nat) : Nat := bif ((L.take k).any (fun x => inSp x j) || (decide (lo ≤ j) && decide (j < i))) && !(seAt S j).free then 35 else T j
theorem maskK_zero (S : List Se) (T : Nat → Nat) (L : List Sp) (j : Nat) : maskK S T L 0 0 0 j = T j := by simp [maskK]
theorem maskK_start (S : List Se) (T : Nat → Nat) (L : List Sp) (k lo j : Nat) : maskK S T L k 0 0 j = maskK S T L k lo lo j := by
  unfold maskK
  have h1 : (decide (0 ≤ j) && decide (j < 0)) = false := by simp
  have h2 : (decide (lo ≤ j) && decide (j < lo)) = false := by
    rw [Bool.and_eq_false_iff, decide_eq_false_iff_not, decide_eq_false_iff_not]; omega
  rw [h1, h2]
theorem maskK_end {S : List Se} {T : Nat → Nat} {L : List Sp} {k : Nat} {x : Sp} (h : L[k]? = some x) (j : Nat) : maskK S T L k x.lo x.hi j = maskK S T L (k + 1) 0 0 j := by
  unfold maskK
  rw [any_snoc (fun x => inSp x j) L k x h]
  have h1 : (decide (0 ≤ j) && decide (j < 0)) = false := by simp
  rw [h1, Bool.or_false]
  rfl
theorem maskK_all (S : List Se) (T : Nat → Nat) (L : List Sp) (j : Nat) : maskK S T L L.length 0 0 j = maskedF S T L j := by
  unfold maskK maskedF
  have h1 : (decide (0 ≤ j) && decide (j < 0)) = false := by simp
  rw [h1, Bool.or_false, List.take_length]
theorem maskK_free {S : List Se} {T : Nat → Nat} {L : List Sp} {k lo i : Nat} (hi : (seAt S i).free = true) (j : Nat) : maskK S T L k lo i j = maskK S T L k lo (i + 1) j := by
  unfold maskK
  by_cases hj : j = i
  · subst hj; rw [hi]; simp
  · have : decide (j < i + 1) = decide (j < i) := by rw [decide_eq_decide]; omega
    rw [this]
theorem maskK_not {S : List Se} {T : Nat → Nat} {L : List Sp} {k lo i : Nat} (hlo : lo ≤ i) (hi : (seAt S i).free = false) (j : Nat) : maskK S T L k lo (i + 1) j = if j = i then 35 else maskK S T L k lo i j := by
  unfold maskK
  by_cases hj : j = i
  · subst hj
    rw [if_pos rfl, hi]
    have : (decide (lo ≤ j) && decide (j < j + 1)) = true := by simp [hlo]
    rw [this]; simp
  · have : decide (j < i + 1) = decide (j < i) := by rw [decide_eq_decide]; omega
    rw [this, if_neg hj]
theorem maskK_lt {S : List Se} {T : Nat → Nat} {L : List Sp} {k lo i j : Nat} (h : T j < 256) : maskK S T L k lo i j < 256 := by
  unfold maskK
  cases (((L.take k).any (fun x => inSp x j) || (decide (lo ≤ j) && decide (j < i))) && !(seAt S j).free)
  · exact h
  · exact (by decide : (35 : Nat) < 256)
theorem conv_at {w : World} {g m cap : Nat} {F : Nat → Nat} (h : BytesAt w g m F) (hb : ∀ j, j < m → F j < 256) : (convert 140 9 (.slice (some ⟨g, 0, none⟩) m cap)).run Tryz.prog w = .ok (.string (textF F 0 m)) w := by
  have hl : ((List.range' 0 (m - 0)).map fun j => UInt8.ofNat (F j)).length = m := by simp
  have := run_convert_bytes_back (P := Tryz.prog) w 140 9 5 ⟨g, 0, none⟩ cap ((List.range' 0 (m - 0)).map fun j => UInt8.ofNat (F j)) Tryz.underlying140 Tryz.underlying5 Tryz.underlying9 (fun j hj => by
    have hj' : j < m := by rw [hl] at hj; exact hj
    have hadd : (⟨g, 0, none⟩ : Addr).add j = ⟨g, j, none⟩ := by unfold Addr.add; split <;> simp_all
    rw [hadd, (h.cell hj').1]
    have := hb j hj'
    simp only [List.getElem_map, List.getElem_range', Nat.zero_add, Nat.one_mul]
    congr 2
    have : (UInt8.ofNat (F j)).toNat = F j := by simp; omega
    rw [this])
  rw [hl] at this
  rw [this]; rfl
set_option maxRecDepth 100000 in
set_option maxHeartbeats 4000000 in
theorem vwMask_any (S : List Se) (T : Nat → Nat) (L : List Sp) (vs vl : Value) (w : World) (hvs : SeqV 4 seV w vs S) (hvl : SeqV 3 spV w vl L) (hS : S.length ≤ 1000000) (hLl : L.length ≤ 100000000) (hT : ∀ j, T j < 256) (hL : ∀ x, x ∈ L → x.lo ≤ x.hi ∧ x.hi ≤ S.length) :
    Calls Tryz.prog 143 #[vs, .string (textF T 0 S.length), vl] w fun e w' => e = .returned (.string (textF (maskedF S T L) 0 S.length)) ∧ Below w.heap.size w w' := by
  obtain ⟨ao, cap, gs, rfl, hao, hcs⟩ := hvs
  obtain ⟨lao, lcap, gl, rfl, hlao, hcl⟩ := hvl
  obtain ⟨mcap, w1, hcv, hba, hb1⟩ := bytes_made w T S.length (fun j _ => hT j)
  have HC := hide hcs
  have HAO := hide hao
  have HLC := hide hcl
  have HLAO := hide hlao
  have HT := hide hT
  have HL := hide hL
  have HBA := hide hba
  have HALL := hide (textF_congr (a := 0) (b := S.length) (fun j _ _ => maskK_all S T L j))
  have HCV := hide (fun (wz : World) (h : BytesAt wz w.heap.size S.length (maskK S T L L.length 0 0)) => conv_at (cap := mcap) h (fun j _ => maskK_lt (HT.out j)))
  rw [HALL.out] at HCV
  clear hcs hao hcl hlao hba HALL hT hL
  go_enter Tryz.func143, Tryz.ntmps143
  go_wp2
  go_loopw [15] (fun i wr => ∃ k : Nat, k ≤ L.length ∧ i = .int .i64 k ∧ BytesAt wr w.heap.size S.length (maskK S T L k 0 0) ∧ Below w.heap.size w wr) (fun i _ => L.length - (intOf i).toNat)
  case atStart => exact ⟨0, Nat.zero_le _, rfl, HBA.out.congr (fun j _ => (maskK_zero S T L j).symm), hb1⟩
  case round =>
    clear hcv hb1 HBA
    obtain ⟨wo, rfl⟩ : ∃ x, x = wr := ⟨_, rfl⟩
    obtain ⟨k, hk, rfl, hby, hbel⟩ := hrel
    have HBY := hide hby
    clear hby
    by_cases hlt : k < L.length
    · have hki : (k : Int) < (L.length : Int) := by omega
      have hne : L ≠ [] := fun e => by rw [e] at hlt; simp at hlt
      obtain ⟨rfl, hgl⟩ := HLAO.out.resolve_left hne
      have hej : L[k]? = some L[k] := List.getElem?_eq_getElem hlt
      have c0 := HLC.out k _ hej 0 (by omega)
      have c1 := HLC.out k _ hej 1 (by omega)
      have c2 := HLC.out k _ hej 2 (by omega)
      obtain ⟨hx1, hx2⟩ := HL.out _ (List.getElem_mem hlt)
      have HEND := hide (fun j => maskK_end (S := S) (T := T) hej j)
      generalize L[k] = x at *
      obtain ⟨x1, x2, x3⟩ := x
      simp only at hx1 hx2
      have d0 : wo.cell? ⟨gl, k * 3, none⟩ = some (.int .i64 x1) := (hbel.cell (p := ⟨gl, k * 3, none⟩) hgl).trans c0
      have d1 : wo.cell? ⟨gl, k * 3 + 1, none⟩ = some (.int .i64 x2) := (hbel.cell (p := ⟨gl, k * 3 + 1, none⟩) hgl).trans c1
      have d2 : wo.cell? ⟨gl, k * 3 + 2, none⟩ = some (.int .i64 x3) := (hbel.cell (p := ⟨gl, k * 3 + 2, none⟩) hgl).trans c2
      have hbB : Below wo.heap.size wo (wo.alloc (.cells #[.int .i64 x1, .int .i64 x2, .int .i64 x3] 57)) := below_box _ _
      have hbelB := hbel.trans (hbB.mono hbel.size)
      have HBB := hide ((HBY.out.below hbB).congr (fun j _ => maskK_start S T L k x2 j))
      have HNB := hide (Go.heap_alloc_new wo (.cells #[.int .i64 x1, .int .i64 x2, .int .i64 x3] 57))
      have hgw := HBY.out.lt
      clear c0 c1 c2 hej hne
      go_wp2
      go_loopw [10] (fun i wr => ∃ p : Nat, x2 ≤ p ∧ p ≤ x3 ∧ i = .int .i64 p ∧ BytesAt wr w.heap.size S.length (maskK S T L k x2 p) ∧ wr.heap[wo.heap.size]? = some (.cells #[.int .i64 x1, .int .i64 x2, .int .i64 x3] 57 (0, 0)) ∧ Below w.heap.size w wr) (fun i _ => x3 - (intOf i).toNat)
      case atStart => exact ⟨x2, Nat.le_refl _, hx1, rfl, HBB.out, HNB.out, hbelB⟩
      case round =>
        clear hbelB HBB HNB hbB
        obtain ⟨wi, rfl⟩ : ∃ x, x = wr := ⟨_, rfl⟩
        obtain ⟨p, hp1, hp2, rfl, hbyi, hnb, hbeli⟩ := hrel
        have HBI := hide hbyi
        have HNI := hide hnb
        have n2 : wi.cell? ⟨wo.heap.size, 2, none⟩ = some (.int .i64 x3) := by rw [cell_of_row _ _ _ _ _ _ hnb]; rfl
        clear hbyi hnb d0 d1 d2
        have hp0 : (0 : Int) ≤ (p : Int) := by omega
        by_cases hpl : p < x3
        · have hpi : (p : Int) < (x3 : Int) := by omega
          have hps : (p : Int) < (S.length : Int) := by omega
          have hpS : p < S.length := by omega
          have hne : S ≠ [] := fun e => by rw [e] at hpS; simp at hpS
          obtain ⟨rfl, hgs⟩ := HAO.out.resolve_left hne
          have hej : S[p]? = some S[p] := List.getElem?_eq_getElem hpS
          have c3 := HC.out p _ hej 3 (by omega)
          have hsa : seAt S p = S[p] := by simp [seAt, List.getD, hej]
          have HFR := hide (fun (h : (seAt S p).free = true) => maskK_free (S := S) (T := T) (L := L) (k := k) (lo := x2) h)
          have HNF := hide (fun (h : (seAt S p).free = false) => maskK_not (S := S) (T := T) (L := L) (k := k) hp1 h)
          rw [hsa] at HFR HNF
          generalize S[p] = y at *
          obtain ⟨y1, y2, y3, y4⟩ := y
          have e3 : wi.cell? ⟨gs, p * 4 + 3, none⟩ = some (.bool y4) := (hbeli.cell (p := ⟨gs, p * 4 + 3, none⟩) hgs).trans c3
          simp only at HFR HNF
          obtain ⟨m0, m1⟩ := HBI.out.cell hpS
          clear c3 hej hne hsa
          cases y4
          · have HN1 := hide (HNF.out rfl)
            have hbS : Below w.heap.size w (wi.setCell ⟨w.heap.size, p, none⟩ (.int .u8 35)) := hbeli.setCell (show w.heap.size ≤ (⟨w.heap.size, p, none⟩ : Addr).block from Nat.le_refl _) _
            have HBS : Hid (BytesAt (wi.setCell ⟨w.heap.size, p, none⟩ (.int .u8 35)) w.heap.size S.length (maskK S T L k x2 (p + 1))) := HBI.out.set (fun j _ => HN1.out j)
            have HNS := hide (row_other (v := .int .u8 35) (j := p) HNI.out (show wo.heap.size ≠ w.heap.size by omega))
            go_wp2
            go_roundw
            case rel => exact ⟨p + 1, by omega, by omega, by go_num, HBS.out, HNS.out, hbS⟩
            case measure => simp [intOf]; omega
          · have HF1 := hide (HFR.out rfl)
            go_wp2
            go_roundw
            case rel => exact ⟨p + 1, by omega, by omega, by go_num, HBI.out.congr (fun j _ => HF1.out j), HNI.out, hbeli⟩
            case measure => simp [intOf]; omega
        · obtain rfl : p = x3 := by omega
          have hpc : decide ((p : Int) < (p : Int)) = false := by simp
          go_wp2
          go_roundw
          case rel => exact ⟨k + 1, by omega, by go_num, HBI.out.congr (fun j _ => HEND.out j), hbeli⟩
          case measure => simp [intOf]; omega
    · obtain rfl : k = L.length := by omega
      have hkc : decide ((L.length : Int) < (L.length : Int)) = false := by simp
      have hcv2 := HCV.out wo HBY.out
      go_wp2
      go_ret
      exact ⟨rfl, hbel⟩
end Go.Proofs.YthgcpjdlcooncaaGreat
