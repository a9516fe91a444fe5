/- Doch, Pair4, VeilLaw. -/
import Derived.Test.YthgcpjdlcooncaaGreatE39
import Derived.Test.YthgcpjdlcooncaaGreatE22
import Derived.Test.YthgcpjdlcooncaaGreatE43
import Derived.Test.YthgcpjdlcooncaaGreatE44
namespace Go.Proofs.YthgcpjdlcooncaaGreat
open Go.RowKit Veil
theorem pslice {ao : Option Addr} {n cap a b : Nat} (hab : a ≤ b) (hbn : b ≤ n) (hnc : n ≤ cap) (hac : a < cap) (w : World) : (Instr.slice 145 (.slice ao n cap) (some (.int .i64 (a : Int))) (some (.int .i64 (b : Int))) none).run Tryz.prog w = .ok (.slice (ao.map (·.add (a * 3))) (b - a) (cap - a)) w := by
  obtain ⟨i, hi, hzz⟩ := Option.map_eq_some_iff.1 Tryz.infoPPlace
  simp only [Prod.mk.injEq] at hzz
  have h0 : (0 : Int) ≤ (a : Int) ∧ (a : Int) ≤ (b : Int) := by omega
  have h1 : (0 : Int) ≤ (b : Int) ∧ (b : Int) ≤ (cap : Int) := by omega
  have hc : ¬ cap = a := by omega
  simp [Instr.slice, run_underlying Tryz.underlying145, Instr.sliceBounds, Instr.sliceBound, asIntOf, h0, h1, sizeOf, typeInfo, hi, hzz.2.1, hc]
  rw [if_pos (by omega), if_pos (by omega)]
theorem pieces_at {w : World} {B gp cap : Nat} {P : List Pl} {a b : Nat} (h : OwnL 148 3 placeV w B (.slice (some ⟨gp, 0, none⟩) P.length cap) P) : PiecesAt w gp (a * 3) ((P.drop a).take (b - a)) := by
  refine ⟨(h.lt (k := gp) rfl).2, fun i p hp => ?_⟩
  have hp' : P[a + i]? = some p := by
    rw [List.getElem?_take] at hp
    split at hp
    · rw [List.getElem?_drop] at hp; exact hp
    · cases hp
  have c0 := h.cell (show ∀ a, (placeV a).length = 3 from fun _ => rfl) rfl hp' (j := 0) (by omega)
  have c1 := h.cell (show ∀ a, (placeV a).length = 3 from fun _ => rfl) rfl hp' (j := 1) (by omega)
  have c2 := h.cell (show ∀ a, (placeV a).length = 3 from fun _ => rfl) rfl hp' (j := 2) (by omega)
  have e : (a + i) * 3 = a * 3 + i * 3 := by rw [Nat.add_mul]
  rw [e] at c0 c1 c2
  exact ⟨c0, c1, c2⟩
set_option maxRecDepth 100000 in
set_option maxHeartbeats 4000000 in
theorem dcRelease_lv (g n : Nat) (f : Nat → Nat → Bool) (rv pv : Value) (GR : Nat → Nat → Bool) (I Lg : Nat → Nat) (level : Int) (a b lb : Int) (w : World) (hbox : PBox w g n f rv GR pv I Lg) (hlv : okL n level = false) :
    Calls Tryz.prog 76 #[.pointer (some ⟨g, 0, none⟩), .int .i64 level, .int .i64 a, .int .i64 b, .int .i64 lb] w fun e w' => e = .returned (.int .i64 6) ∧ Below w.heap.size w w' := by
  have i0 := hbox.is
  have a0 := hbox.at
  have r0 := hbox.not
  have HQ := hide (has_any n f level w)
  rw [hlv] at HQ
  clear hlv hbox
  go_enter Tryz.func76, Tryz.ntmps76
  go_wp2_with fail
  refine (HQ.out).mono ?_
  rintro e w1 ⟨rfl, hb1⟩
  clear i0 a0 r0
  go_wp2
  go_ret
  exact ⟨rfl, hb1⟩
set_option maxRecDepth 100000 in
set_option maxHeartbeats 4000000 in
theorem dcRelease_lb (g n : Nat) (f : Nat → Nat → Bool) (rv pv : Value) (GR : Nat → Nat → Bool) (I Lg : Nat → Nat) (level : Int) (a b lb : Int) (w : World) (hbox : PBox w g n f rv GR pv I Lg) (hlv : okL n level = true) (hlb : okL n lb = false) :
    Calls Tryz.prog 76 #[.pointer (some ⟨g, 0, none⟩), .int .i64 level, .int .i64 a, .int .i64 b, .int .i64 lb] w fun e w' => e = .returned (.int .i64 6) ∧ Below w.heap.size w w' := by
  have HBX := hide hbox
  have hgl := hbox.lt
  have i0 := hbox.is
  have a0 := hbox.at
  have r0 := hbox.not
  have HQ := hide (has_any n f level w)
  have HQ2 := hide (fun w' => has_any n f lb w')
  rw [hlv] at HQ
  rw [hlb] at HQ2
  clear hlv hlb hbox
  go_enter Tryz.func76, Tryz.ntmps76
  go_wp2_with fail
  refine (HQ.out).mono ?_
  rintro e w1 ⟨rfl, hb1⟩
  have i1 := (HBX.out.below hb1 hgl).is
  have a1 := (HBX.out.below hb1 hgl).at
  have r1 := (HBX.out.below hb1 hgl).not
  clear i0 a0 r0
  go_wp2_with fail
  refine (HQ2.out w1).mono ?_
  rintro e w1' ⟨rfl, hb1'⟩
  clear i1 a1 r1
  replace hb1 := hb1.trans (hb1'.mono hb1.size)
  clear hb1'
  go_wp2
  go_ret
  exact ⟨rfl, hb1⟩
set_option maxRecDepth 100000 in
set_option maxHeartbeats 4000000 in
theorem dcRelease_gr (g n : Nat) (f : Nat → Nat → Bool) (rv pv : Value) (GR : Nat → Nat → Bool) (I Lg : Nat → Nat) (lv tg : Nat) (a b : Int) (w : World) (hbox : PBox w g n f rv GR pv I Lg) (hn6 : n ≤ 6) (hlv : lv < n) (htg : tg < n) (hgr : GR lv tg = false) :
    Calls Tryz.prog 76 #[.pointer (some ⟨g, 0, none⟩), .int .i64 lv, .int .i64 a, .int .i64 b, .int .i64 tg] w fun e w' => e = .returned (.int .i64 10) ∧ Below w.heap.size w w' := by
  have hlv6 : lv < 6 := by omega
  have htg6 : tg < 6 := by omega
  have hli : (lv : Int) < 6 := by omega
  have hti : (tg : Int) < 6 := by omega
  have HBX := hide hbox
  have hgl := hbox.lt
  have i0 := hbox.is
  have a0 := hbox.at
  have r0 := hbox.not
  have HQ := hide (has_any n f lv w)
  rw [okL_lt hlv] at HQ
  have HQ2 := hide (fun w' => has_any n f tg w')
  rw [okL_lt htg] at HQ2
  clear hbox
  go_enter Tryz.func76, Tryz.ntmps76
  go_wp2_with fail
  refine (HQ.out).mono ?_
  rintro e w1 ⟨rfl, hb1⟩
  have i1 := (HBX.out.below hb1 hgl).is
  have a1 := (HBX.out.below hb1 hgl).at
  have r1 := (HBX.out.below hb1 hgl).not
  clear i0 a0 r0
  go_wp2_with fail
  refine (HQ2.out w1).mono ?_
  rintro e w1' ⟨rfl, hb1'⟩
  clear i1 a1 r1
  replace hb1 := hb1.trans (hb1'.mono hb1.size)
  clear hb1'
  have g1 := (HBX.out.below hb1 hgl).gr lv tg hlv6 htg6
  rw [hgr] at g1
  go_wp2
  go_ret
  exact ⟨rfl, hb1⟩
set_option maxRecDepth 100000 in
set_option maxHeartbeats 4000000 in
theorem dcRelease_at (c : Cfg) (row : List RC) (g n : Nat) (f : Nat → Nat → Bool) (rv pv : Value) (GR : Nat → Nat → Bool) (I Lg : Nat → Nat) (B : Nat) (lv tg : Nat) (a b : Int) (w : World) (hbox : PBox w g n f rv GR pv I Lg) (hrl : OwnL 96 2 ruleV w B rv c.rules) (hce : OwnL 188 20 (pcV c) w B pv row) (hn : n = c.n) (hf : f = tT c) (hR : CfgRight c) (hrow : RowGood c row) (hlv : lv < c.n) (htg : tg < c.n) (hgr : GR lv tg = true) (hpc : pieceB a b (placesR c row lv).length = false) :
    Calls Tryz.prog 76 #[.pointer (some ⟨g, 0, none⟩), .int .i64 lv, .int .i64 a, .int .i64 b, .int .i64 tg] w fun e w' => e = .returned (.int .i64 7) ∧ Below w.heap.size w w' := by
  have hn6 : n ≤ 6 := by have := (labels_of hR.labels).2.2.2.2.2.1; omega
  have hlv6 : lv < 6 := by omega
  have htg6 : tg < 6 := by omega
  have hli : (lv : Int) < 6 := by omega
  have hti : (tg : Int) < 6 := by omega
  have HPL := hide (fun (w' : World) (hb : Below w.heap.size w w') => dcPlaces_any c row g n f rv pv GR I Lg B lv w' (hbox.below hb hbox.lt) (hrl.below hb) (hce.below hb) hn hf hR hrow hlv)
  have HBX := hide hbox
  have hgl := hbox.lt
  have i0 := hbox.is
  have a0 := hbox.at
  have r0 := hbox.not
  have HQ := hide (has_any n f lv w)
  rw [okL_lt (show lv < n by omega)] at HQ
  have HQ2 := hide (fun w' => has_any n f tg w')
  rw [okL_lt (show tg < n by omega)] at HQ2
  have HPC := hide (fun (w' : World) => dcPiece_any a b (placesR c row lv).length w')
  rw [hpc] at HPC
  generalize placesR c row lv = P at *
  clear hbox hrl hce hn hf hR hrow hlv htg
  clear hpc
  go_enter Tryz.func76, Tryz.ntmps76
  go_wp2_with fail
  refine (HQ.out).mono ?_
  rintro e w1 ⟨rfl, hb1⟩
  have i1 := (HBX.out.below hb1 hgl).is
  have a1 := (HBX.out.below hb1 hgl).at
  have r1 := (HBX.out.below hb1 hgl).not
  clear i0 a0 r0
  go_wp2_with fail
  refine (HQ2.out w1).mono ?_
  rintro e w1' ⟨rfl, hb1'⟩
  clear i1 a1 r1
  replace hb1 := hb1.trans (hb1'.mono hb1.size)
  clear hb1'
  have g1 := (HBX.out.below hb1 hgl).gr lv tg hlv6 htg6
  rw [hgr] at g1
  go_wp2_with fail
  refine (HPL.out _ hb1).mono ?_
  rintro e w2 ⟨vl, rfl, hvl, hb2⟩
  have hbw := hb1.trans (hb2.mono hb1.size)
  have hw1s := hb1.size
  have HVL := hide hvl
  obtain ⟨ao, cap, hvv⟩ := hvl.shape
  subst hvv
  clear hb1 hb2 hvl g1
  go_wp2_with fail
  refine (HPC.out _).mono ?_
  rintro e w2' ⟨rfl, rfl⟩
  go_wp2
  go_ret
  exact ⟨rfl, hbw⟩
set_option maxRecDepth 100000 in
set_option maxHeartbeats 8000000 in
theorem dcRelease_mask (c : Cfg) (row : List RC) (g n : Nat) (f : Nat → Nat → Bool) (rv pv : Value) (GR : Nat → Nat → Bool) (I Lg : Nat → Nat) (B : Nat) (lv a b tg : Nat) (w : World) (hbox : PBox w g n f rv GR pv I Lg) (hrl : OwnL 96 2 ruleV w B rv c.rules) (hce : OwnL 188 20 (pcV c) w B pv row) (hn : n = c.n) (hf : f = tT c) (hR : CfgRight c) (hrow : RowGood c row) (hlv : lv < c.n) (htg : tg < c.n) (hgr : GR lv tg = true) (hne : ∀ b, pv.ownBlock = some b → g ≠ b) (hab : a < b) (hbl : b ≤ (placesR c row lv).length) (hmask : (((placesR c row lv).drop a).take (b - a)).any (fun p => p.b == 35) = true) :
    Calls Tryz.prog 76 #[.pointer (some ⟨g, 0, none⟩), .int .i64 lv, .int .i64 a, .int .i64 b, .int .i64 tg] w fun e w' => e = .returned (.int .i64 11) ∧ Below w.heap.size w w' := by
  have hn6 : n ≤ 6 := by have := (labels_of hR.labels).2.2.2.2.2.1; omega
  have hlv6 : lv < 6 := by omega
  have htg6 : tg < 6 := by omega
  have hli : (lv : Int) < 6 := by omega
  have hti : (tg : Int) < 6 := by omega
  have HPL := hide (fun (w' : World) (hb : Below w.heap.size w w') => dcPlaces_any c row g n f rv pv GR I Lg B lv w' (hbox.below hb hbox.lt) (hrl.below hb) (hce.below hb) hn hf hR hrow hlv)
  have HBX := hide hbox
  have hgl := hbox.lt
  have i0 := hbox.is
  have a0 := hbox.at
  have r0 := hbox.not
  have HQ := hide (has_any n f lv w)
  rw [okL_lt (show lv < n by omega)] at HQ
  have HQ2 := hide (fun w' => has_any n f tg w')
  rw [okL_lt (show tg < n by omega)] at HQ2
  have HPC := hide (fun (w' : World) => dcPiece_any a b (placesR c row lv).length w')
  have hpcB : pieceB a b (placesR c row lv).length = true := by unfold pieceB; simp; omega
  rw [hpcB] at HPC
  have hPl : (placesR c row lv).length ≤ 1200 := Nat.le_trans (placesR_ok c row lv (fun x hx => (hrow.cells x hx).1.byte)).1 hrow.length
  have hrl12 := hrow.length
  have HHM := hide (fun (g' cap' : Nat) (w' : World) (hp : PiecesAt w' g' (a * 3) (((placesR c row lv).drop a).take (b - a))) => vwHave_any (((placesR c row lv).drop a).take (b - a)) g' (a * 3) cap' w' hp (by rw [List.length_take, List.length_drop]; omega))
  have HSTM := hide (fun (w' : World) (hb : Below w.heap.size w w') (first last : Nat) => rwStem_any c row g 74 n f pv B lv first last tg w' (hce.below hb) (hbox.below hb hbox.lt).row hn hf hR.labels (fun x hx => (hrow.cells x hx).1) htg (by decide) (by omega))
  have HCMA := hide (cells_meant_all c row lv (fun x hx => (hrow.cells x hx).1.byte) hab hbl (mayR c row tg))
  have HMK := hide (cells_meant c row lv (fun x hx => (hrow.cells x hx).1.byte) hab hbl ⟨4, tg, 0⟩)
  have HRW := hide (fun (w' : World) (hb : Below w.heap.size w w') (first last : Nat) => rwRelease_any c row g 74 n f pv B lv tg first last w' (hce.below hb) (hbox.below hb hbox.lt).row hne hn hf hR.labels (fun x hx => (hrow.cells x hx).1) htg (by decide) (by omega))
  have HPB := hide (fun b' (h : pv.ownBlock = some b') => (hce.lt h).2)
  generalize hP : placesR c row lv = P at *
  clear hbox hrl hce hn hf hR hrow hlv htg hpcB hne hP
  go_enter Tryz.func76, Tryz.ntmps76
  go_wp2_with fail
  refine (HQ.out).mono ?_
  rintro e w1 ⟨rfl, hb1⟩
  have i1 := (HBX.out.below hb1 hgl).is
  have a1 := (HBX.out.below hb1 hgl).at
  have r1 := (HBX.out.below hb1 hgl).not
  clear i0 a0 r0
  go_wp2_with fail
  refine (HQ2.out w1).mono ?_
  rintro e w1' ⟨rfl, hb1'⟩
  clear i1 a1 r1
  replace hb1 := hb1.trans (hb1'.mono hb1.size)
  clear hb1'
  have g1 := (HBX.out.below hb1 hgl).gr lv tg hlv6 htg6
  rw [hgr] at g1
  go_wp2_with fail
  refine (HPL.out _ hb1).mono ?_
  rintro e w2 ⟨vl, rfl, hvl, hb2⟩
  have hbw := hb1.trans (hb2.mono hb1.size)
  have hw1s := hb1.size
  have HVL := hide hvl
  obtain ⟨ao, cap, hvv⟩ := hvl.shape
  subst hvv
  clear hb1 hb2 hvl g1
  go_wp2_with fail
  refine (HPC.out _).mono ?_
  rintro e w2' ⟨rfl, rfl⟩
  obtain ⟨gp, cp, hvv, hgp0, hgp⟩ := HVL.out.form (by omega)
  simp only [Value.slice.injEq] at hvv
  obtain ⟨rfl, _, rfl⟩ := hvv
  have hcapP : P.length ≤ cap := by
    obtain ⟨cap', cur, h1, _, _, h4, _⟩ := HVL.out.row (g := gp) rfl
    simp only [Value.slice.injEq] at h1
    omega
  have hsl := pslice (ao := some ⟨gp, 0, none⟩) (n := P.length) (cap := cap) (a := a) (b := b) (by omega) (by omega) (by omega) (by omega)
  have HLT := hide (show ((P.drop a).take (b - a)).length = b - a by rw [List.length_take, List.length_drop]; omega)
  have HM1 := hide (HHM.out gp (cap - a) w2 (pieces_at HVL.out))
  rw [HLT.out] at HM1
  rw [hmask] at HM1
  go_wp2_with fail
  refine (HM1.out).mono ?_
  rintro e w3 ⟨rfl, hb3⟩
  have hbw3 := hbw.trans (hb3.mono hbw.size)
  clear hsl
  go_wp2
  go_ret
  exact ⟨rfl, hbw3⟩
set_option maxRecDepth 100000 in
set_option maxHeartbeats 8000000 in
theorem dcRelease_stem (c : Cfg) (row : List RC) (g n : Nat) (f : Nat → Nat → Bool) (rv pv : Value) (GR : Nat → Nat → Bool) (I Lg : Nat → Nat) (B : Nat) (lv a b tg : Nat) (w : World) (hbox : PBox w g n f rv GR pv I Lg) (hrl : OwnL 96 2 ruleV w B rv c.rules) (hce : OwnL 188 20 (pcV c) w B pv row) (hn : n = c.n) (hf : f = tT c) (hR : CfgRight c) (hrow : RowGood c row) (hlv : lv < c.n) (htg : tg < c.n) (hgr : GR lv tg = true) (hne : ∀ b, pv.ownBlock = some b → g ≠ b) (hab : a < b) (hbl : b ≤ (placesR c row lv).length) (hmask : (((placesR c row lv).drop a).take (b - a)).any (fun p => p.b == 35) = false) (hstem : (cellsTo c row lv (placesR c row lv) a b).all (mayR c row tg) = false) :
    Calls Tryz.prog 76 #[.pointer (some ⟨g, 0, none⟩), .int .i64 lv, .int .i64 a, .int .i64 b, .int .i64 tg] w fun e w' => e = .returned (.int .i64 12) ∧ Below w.heap.size w w' := by
  have hn6 : n ≤ 6 := by have := (labels_of hR.labels).2.2.2.2.2.1; omega
  have hlv6 : lv < 6 := by omega
  have htg6 : tg < 6 := by omega
  have hli : (lv : Int) < 6 := by omega
  have hti : (tg : Int) < 6 := by omega
  have HPL := hide (fun (w' : World) (hb : Below w.heap.size w w') => dcPlaces_any c row g n f rv pv GR I Lg B lv w' (hbox.below hb hbox.lt) (hrl.below hb) (hce.below hb) hn hf hR hrow hlv)
  have HBX := hide hbox
  have hgl := hbox.lt
  have i0 := hbox.is
  have a0 := hbox.at
  have r0 := hbox.not
  have HQ := hide (has_any n f lv w)
  rw [okL_lt (show lv < n by omega)] at HQ
  have HQ2 := hide (fun w' => has_any n f tg w')
  rw [okL_lt (show tg < n by omega)] at HQ2
  have HPC := hide (fun (w' : World) => dcPiece_any a b (placesR c row lv).length w')
  have hpcB : pieceB a b (placesR c row lv).length = true := by unfold pieceB; simp; omega
  rw [hpcB] at HPC
  have hPl : (placesR c row lv).length ≤ 1200 := Nat.le_trans (placesR_ok c row lv (fun x hx => (hrow.cells x hx).1.byte)).1 hrow.length
  have hrl12 := hrow.length
  have HHM := hide (fun (g' cap' : Nat) (w' : World) (hp : PiecesAt w' g' (a * 3) (((placesR c row lv).drop a).take (b - a))) => vwHave_any (((placesR c row lv).drop a).take (b - a)) g' (a * 3) cap' w' hp (by rw [List.length_take, List.length_drop]; omega))
  have HSTM := hide (fun (w' : World) (hb : Below w.heap.size w w') (first last : Nat) => rwStem_any c row g 74 n f pv B lv first last tg w' (hce.below hb) (hbox.below hb hbox.lt).row hn hf hR.labels (fun x hx => (hrow.cells x hx).1) htg (by decide) (by omega))
  have HCMA := hide (cells_meant_all c row lv (fun x hx => (hrow.cells x hx).1.byte) hab hbl (mayR c row tg))
  have HMK := hide (cells_meant c row lv (fun x hx => (hrow.cells x hx).1.byte) hab hbl ⟨4, tg, 0⟩)
  have HRW := hide (fun (w' : World) (hb : Below w.heap.size w w') (first last : Nat) => rwRelease_any c row g 74 n f pv B lv tg first last w' (hce.below hb) (hbox.below hb hbox.lt).row hne hn hf hR.labels (fun x hx => (hrow.cells x hx).1) htg (by decide) (by omega))
  have HPB := hide (fun b' (h : pv.ownBlock = some b') => (hce.lt h).2)
  generalize hP : placesR c row lv = P at *
  clear hbox hrl hce hn hf hR hrow hlv htg hpcB hne hP
  go_enter Tryz.func76, Tryz.ntmps76
  go_wp2_with fail
  refine (HQ.out).mono ?_
  rintro e w1 ⟨rfl, hb1⟩
  have i1 := (HBX.out.below hb1 hgl).is
  have a1 := (HBX.out.below hb1 hgl).at
  have r1 := (HBX.out.below hb1 hgl).not
  clear i0 a0 r0
  go_wp2_with fail
  refine (HQ2.out w1).mono ?_
  rintro e w1' ⟨rfl, hb1'⟩
  clear i1 a1 r1
  replace hb1 := hb1.trans (hb1'.mono hb1.size)
  clear hb1'
  have g1 := (HBX.out.below hb1 hgl).gr lv tg hlv6 htg6
  rw [hgr] at g1
  go_wp2_with fail
  refine (HPL.out _ hb1).mono ?_
  rintro e w2 ⟨vl, rfl, hvl, hb2⟩
  have hbw := hb1.trans (hb2.mono hb1.size)
  have hw1s := hb1.size
  have HVL := hide hvl
  obtain ⟨ao, cap, hvv⟩ := hvl.shape
  subst hvv
  clear hb1 hb2 hvl g1
  go_wp2_with fail
  refine (HPC.out _).mono ?_
  rintro e w2' ⟨rfl, rfl⟩
  obtain ⟨gp, cp, hvv, hgp0, hgp⟩ := HVL.out.form (by omega)
  simp only [Value.slice.injEq] at hvv
  obtain ⟨rfl, _, rfl⟩ := hvv
  have hcapP : P.length ≤ cap := by
    obtain ⟨cap', cur, h1, _, _, h4, _⟩ := HVL.out.row (g := gp) rfl
    simp only [Value.slice.injEq] at h1
    omega
  have hsl := pslice (ao := some ⟨gp, 0, none⟩) (n := P.length) (cap := cap) (a := a) (b := b) (by omega) (by omega) (by omega) (by omega)
  have HLT := hide (show ((P.drop a).take (b - a)).length = b - a by rw [List.length_take, List.length_drop]; omega)
  have HM1 := hide (HHM.out gp (cap - a) w2 (pieces_at HVL.out))
  rw [HLT.out] at HM1
  rw [hmask] at HM1
  go_wp2_with fail
  refine (HM1.out).mono ?_
  rintro e w3 ⟨rfl, hb3⟩
  have hbw3 := hbw.trans (hb3.mono hbw.size)
  clear hsl
  have hea : P[a]? = some (P[a]'(by omega)) := List.getElem?_eq_getElem (by omega)
  have heb : P[b - 1]? = some (P[b - 1]'(by omega)) := List.getElem?_eq_getElem (by omega)
  have HV3 := hide (HVL.out.below hb3)
  have p1 := HV3.out.cell (show ∀ a, (placeV a).length = 3 from fun _ => rfl) rfl hea (j := 1) (by omega)
  have p2 := HV3.out.cell (show ∀ a, (placeV a).length = 3 from fun _ => rfl) rfl heb (j := 2) (by omega)
  have hfa : plAt P a = P[a]'(by omega) := plAt_lt (by omega)
  have hlb1 : plAt P (b - 1) = P[b - 1]'(by omega) := plAt_lt (by omega)
  rw [hfa, hlb1] at HMK HCMA
  generalize (P[a]'(by omega)) = pa at *
  generalize (P[b - 1]'(by omega)) = pb at *
  obtain ⟨m, hm1, hm2⟩ : ∃ m : Nat, (b : Int) - 1 = (m : Int) ∧ b - 1 = m := ⟨b - 1, by omega, rfl⟩
  have hmi : (m : Int) < (P.length : Int) := by omega
  have hai : (a : Int) < (P.length : Int) := by omega
  have hwm : IntKind.i64.wrap (m : Int) = (m : Int) := by rw [IntKind.wrap_i64]; omega
  rw [hm2] at p2
  obtain ⟨pa1, pa2, pa3⟩ := pa
  obtain ⟨pb1, pb2, pb3⟩ := pb
  have p1' : w3.cell? ⟨gp, a * 3 + 1, none⟩ = some (.int .i64 pa2) := p1
  have p2' : w3.cell? ⟨gp, m * 3 + 2, none⟩ = some (.int .i64 pb3) := p2
  simp only at HMK HCMA
  have HSE := hide (show (List.range row.length).all (stemB c row lv pa2 pb3 tg) = (cellsTo c row lv P a b).all (mayR c row tg) from HCMA.out.symm)
  have HST1 := hide (HSTM.out w3 hbw3 pa2 pb3)
  rw [HSE.out, hstem] at HST1
  have HM2 := hide hm2
  clear hea heb p1 p2 hfa hlb1 hm2
  go_wp2_with fail
  refine (HST1.out).mono ?_
  rintro e w4 ⟨rfl, hb4⟩
  have hbw4 := hbw3.trans (hb4.mono hbw3.size)
  clear p1' p2'
  go_wp2
  go_ret
  exact ⟨rfl, hbw4⟩
set_option maxRecDepth 100000 in
set_option maxHeartbeats 8000000 in
theorem dcRelease_full (c : Cfg) (row : List RC) (g n : Nat) (f : Nat → Nat → Bool) (rv pv : Value) (GR : Nat → Nat → Bool) (I Lg : Nat → Nat) (B : Nat) (lv a b tg : Nat) (w : World) (hbox : PBox w g n f rv GR pv I Lg) (hrl : OwnL 96 2 ruleV w B rv c.rules) (hce : OwnL 188 20 (pcV c) w B pv row) (hn : n = c.n) (hf : f = tT c) (hR : CfgRight c) (hrow : RowGood c row) (hlv : lv < c.n) (htg : tg < c.n) (hgr : GR lv tg = true) (hne : ∀ b, pv.ownBlock = some b → g ≠ b) (hab : a < b) (hbl : b ≤ (placesR c row lv).length) (hmask : (((placesR c row lv).drop a).take (b - a)).any (fun p => p.b == 35) = false) (hstem : (cellsTo c row lv (placesR c row lv) a b).all (mayR c row tg) = true) (hfull : 8 ≤ Lg tg) (hbig : Lg tg ≤ 4000000000000) :
    Calls Tryz.prog 76 #[.pointer (some ⟨g, 0, none⟩), .int .i64 lv, .int .i64 a, .int .i64 b, .int .i64 tg] w fun e w' => e = .returned (.int .i64 13) ∧ Below w.heap.size w w' := by
  have hn6 : n ≤ 6 := by have := (labels_of hR.labels).2.2.2.2.2.1; omega
  have hlv6 : lv < 6 := by omega
  have htg6 : tg < 6 := by omega
  have hli : (lv : Int) < 6 := by omega
  have hti : (tg : Int) < 6 := by omega
  have HPL := hide (fun (w' : World) (hb : Below w.heap.size w w') => dcPlaces_any c row g n f rv pv GR I Lg B lv w' (hbox.below hb hbox.lt) (hrl.below hb) (hce.below hb) hn hf hR hrow hlv)
  have HBX := hide hbox
  have hgl := hbox.lt
  have i0 := hbox.is
  have a0 := hbox.at
  have r0 := hbox.not
  have HQ := hide (has_any n f lv w)
  rw [okL_lt (show lv < n by omega)] at HQ
  have HQ2 := hide (fun w' => has_any n f tg w')
  rw [okL_lt (show tg < n by omega)] at HQ2
  generalize hlg : Lg tg = lg at *
  have HLG := hide hlg
  clear hlg
  have HPC := hide (fun (w' : World) => dcPiece_any a b (placesR c row lv).length w')
  have hpcB : pieceB a b (placesR c row lv).length = true := by unfold pieceB; simp; omega
  rw [hpcB] at HPC
  have hPl : (placesR c row lv).length ≤ 1200 := Nat.le_trans (placesR_ok c row lv (fun x hx => (hrow.cells x hx).1.byte)).1 hrow.length
  have hrl12 := hrow.length
  have HHM := hide (fun (g' cap' : Nat) (w' : World) (hp : PiecesAt w' g' (a * 3) (((placesR c row lv).drop a).take (b - a))) => vwHave_any (((placesR c row lv).drop a).take (b - a)) g' (a * 3) cap' w' hp (by rw [List.length_take, List.length_drop]; omega))
  have HSTM := hide (fun (w' : World) (hb : Below w.heap.size w w') (first last : Nat) => rwStem_any c row g 74 n f pv B lv first last tg w' (hce.below hb) (hbox.below hb hbox.lt).row hn hf hR.labels (fun x hx => (hrow.cells x hx).1) htg (by decide) (by omega))
  have HCMA := hide (cells_meant_all c row lv (fun x hx => (hrow.cells x hx).1.byte) hab hbl (mayR c row tg))
  have HMK := hide (cells_meant c row lv (fun x hx => (hrow.cells x hx).1.byte) hab hbl ⟨4, tg, 0⟩)
  have HRW := hide (fun (w' : World) (hb : Below w.heap.size w w') (first last : Nat) => rwRelease_any c row g 74 n f pv B lv tg first last w' (hce.below hb) (hbox.below hb hbox.lt).row hne hn hf hR.labels (fun x hx => (hrow.cells x hx).1) htg (by decide) (by omega))
  have HPB := hide (fun b' (h : pv.ownBlock = some b') => (hce.lt h).2)
  generalize hP : placesR c row lv = P at *
  clear hbox hrl hce hn hf hR hrow hlv htg hpcB hne hP
  have hfi : (8 : Int) ≤ (lg : Int) := by omega
  go_enter Tryz.func76, Tryz.ntmps76
  go_wp2_with fail
  refine (HQ.out).mono ?_
  rintro e w1 ⟨rfl, hb1⟩
  have i1 := (HBX.out.below hb1 hgl).is
  have a1 := (HBX.out.below hb1 hgl).at
  have r1 := (HBX.out.below hb1 hgl).not
  clear i0 a0 r0
  go_wp2_with fail
  refine (HQ2.out w1).mono ?_
  rintro e w1' ⟨rfl, hb1'⟩
  clear i1 a1 r1
  replace hb1 := hb1.trans (hb1'.mono hb1.size)
  clear hb1'
  have g1 := (HBX.out.below hb1 hgl).gr lv tg hlv6 htg6
  rw [hgr] at g1
  go_wp2_with fail
  refine (HPL.out _ hb1).mono ?_
  rintro e w2 ⟨vl, rfl, hvl, hb2⟩
  have hbw := hb1.trans (hb2.mono hb1.size)
  have hw1s := hb1.size
  have HVL := hide hvl
  obtain ⟨ao, cap, hvv⟩ := hvl.shape
  subst hvv
  clear hb1 hb2 hvl g1
  go_wp2_with fail
  refine (HPC.out _).mono ?_
  rintro e w2' ⟨rfl, rfl⟩
  obtain ⟨gp, cp, hvv, hgp0, hgp⟩ := HVL.out.form (by omega)
  simp only [Value.slice.injEq] at hvv
  obtain ⟨rfl, _, rfl⟩ := hvv
  have hcapP : P.length ≤ cap := by
    obtain ⟨cap', cur, h1, _, _, h4, _⟩ := HVL.out.row (g := gp) rfl
    simp only [Value.slice.injEq] at h1
    omega
  have hsl := pslice (ao := some ⟨gp, 0, none⟩) (n := P.length) (cap := cap) (a := a) (b := b) (by omega) (by omega) (by omega) (by omega)
  have HLT := hide (show ((P.drop a).take (b - a)).length = b - a by rw [List.length_take, List.length_drop]; omega)
  have HM1 := hide (HHM.out gp (cap - a) w2 (pieces_at HVL.out))
  rw [HLT.out] at HM1
  rw [hmask] at HM1
  go_wp2_with fail
  refine (HM1.out).mono ?_
  rintro e w3 ⟨rfl, hb3⟩
  have hbw3 := hbw.trans (hb3.mono hbw.size)
  clear hsl
  have hea : P[a]? = some (P[a]'(by omega)) := List.getElem?_eq_getElem (by omega)
  have heb : P[b - 1]? = some (P[b - 1]'(by omega)) := List.getElem?_eq_getElem (by omega)
  have HV3 := hide (HVL.out.below hb3)
  have p1 := HV3.out.cell (show ∀ a, (placeV a).length = 3 from fun _ => rfl) rfl hea (j := 1) (by omega)
  have p2 := HV3.out.cell (show ∀ a, (placeV a).length = 3 from fun _ => rfl) rfl heb (j := 2) (by omega)
  have hfa : plAt P a = P[a]'(by omega) := plAt_lt (by omega)
  have hlb1 : plAt P (b - 1) = P[b - 1]'(by omega) := plAt_lt (by omega)
  rw [hfa, hlb1] at HMK HCMA
  generalize (P[a]'(by omega)) = pa at *
  generalize (P[b - 1]'(by omega)) = pb at *
  obtain ⟨m, hm1, hm2⟩ : ∃ m : Nat, (b : Int) - 1 = (m : Int) ∧ b - 1 = m := ⟨b - 1, by omega, rfl⟩
  have hmi : (m : Int) < (P.length : Int) := by omega
  have hai : (a : Int) < (P.length : Int) := by omega
  have hwm : IntKind.i64.wrap (m : Int) = (m : Int) := by rw [IntKind.wrap_i64]; omega
  rw [hm2] at p2
  obtain ⟨pa1, pa2, pa3⟩ := pa
  obtain ⟨pb1, pb2, pb3⟩ := pb
  have p1' : w3.cell? ⟨gp, a * 3 + 1, none⟩ = some (.int .i64 pa2) := p1
  have p2' : w3.cell? ⟨gp, m * 3 + 2, none⟩ = some (.int .i64 pb3) := p2
  simp only at HMK HCMA
  have HSE := hide (show (List.range row.length).all (stemB c row lv pa2 pb3 tg) = (cellsTo c row lv P a b).all (mayR c row tg) from HCMA.out.symm)
  have HST1 := hide (HSTM.out w3 hbw3 pa2 pb3)
  rw [HSE.out, hstem] at HST1
  have HM2 := hide hm2
  clear hea heb p1 p2 hfa hlb1 hm2
  go_wp2_with fail
  refine (HST1.out).mono ?_
  rintro e w4 ⟨rfl, hb4⟩
  have hbw4 := hbw3.trans (hb4.mono hbw3.size)
  clear p1' p2'
  have l4 := (HBX.out.below hbw4 hgl).log tg htg6
  rw [HLG.out] at l4
  go_wp2
  go_ret
  exact ⟨rfl, hbw4⟩
set_option maxRecDepth 100000 in
set_option maxHeartbeats 8000000 in
theorem dcRelease_ok (c : Cfg) (row : List RC) (g n : Nat) (f : Nat → Nat → Bool) (rv pv : Value) (GR : Nat → Nat → Bool) (I Lg : Nat → Nat) (B : Nat) (lv a b tg : Nat) (w : World) (hbox : PBox w g n f rv GR pv I Lg) (hrl : OwnL 96 2 ruleV w B rv c.rules) (hce : OwnL 188 20 (pcV c) w B pv row) (hn : n = c.n) (hf : f = tT c) (hR : CfgRight c) (hrow : RowGood c row) (hlv : lv < c.n) (htg : tg < c.n) (hgr : GR lv tg = true) (hne : ∀ b, pv.ownBlock = some b → g ≠ b) (hab : a < b) (hbl : b ≤ (placesR c row lv).length) (hmask : (((placesR c row lv).drop a).take (b - a)).any (fun p => p.b == 35) = false) (hstem : (cellsTo c row lv (placesR c row lv) a b).all (mayR c row tg) = true) (hlog : Lg tg < 8) :
    Calls Tryz.prog 76 #[.pointer (some ⟨g, 0, none⟩), .int .i64 lv, .int .i64 a, .int .i64 b, .int .i64 tg] w fun e w' => e = .returned (.int .i64 0) ∧ PBox w' g n f rv GR pv I (insF Lg tg 1) ∧ OwnL 188 20 (pcV c) w' B pv (markAll row (cellsTo c row lv (placesR c row lv) a b) ⟨4, tg, 0⟩) ∧ Only (fun k => pv.ownBlock = some k ∨ k = g) w w' := by
  have HNE := hide hne
  have hn6 : n ≤ 6 := by have := (labels_of hR.labels).2.2.2.2.2.1; omega
  have hlv6 : lv < 6 := by omega
  have htg6 : tg < 6 := by omega
  have hli : (lv : Int) < 6 := by omega
  have hti : (tg : Int) < 6 := by omega
  have HPL := hide (fun (w' : World) (hb : Below w.heap.size w w') => dcPlaces_any c row g n f rv pv GR I Lg B lv w' (hbox.below hb hbox.lt) (hrl.below hb) (hce.below hb) hn hf hR hrow hlv)
  have HBX := hide hbox
  have hgl := hbox.lt
  have i0 := hbox.is
  have a0 := hbox.at
  have r0 := hbox.not
  have HQ := hide (has_any n f lv w)
  rw [okL_lt (show lv < n by omega)] at HQ
  have HQ2 := hide (fun w' => has_any n f tg w')
  rw [okL_lt (show tg < n by omega)] at HQ2
  generalize hlg : Lg tg = lg at *
  have HLG := hide hlg
  clear hlg
  have HPC := hide (fun (w' : World) => dcPiece_any a b (placesR c row lv).length w')
  have hpcB : pieceB a b (placesR c row lv).length = true := by unfold pieceB; simp; omega
  rw [hpcB] at HPC
  have hPl : (placesR c row lv).length ≤ 1200 := Nat.le_trans (placesR_ok c row lv (fun x hx => (hrow.cells x hx).1.byte)).1 hrow.length
  have hrl12 := hrow.length
  have HHM := hide (fun (g' cap' : Nat) (w' : World) (hp : PiecesAt w' g' (a * 3) (((placesR c row lv).drop a).take (b - a))) => vwHave_any (((placesR c row lv).drop a).take (b - a)) g' (a * 3) cap' w' hp (by rw [List.length_take, List.length_drop]; omega))
  have HSTM := hide (fun (w' : World) (hb : Below w.heap.size w w') (first last : Nat) => rwStem_any c row g 74 n f pv B lv first last tg w' (hce.below hb) (hbox.below hb hbox.lt).row hn hf hR.labels (fun x hx => (hrow.cells x hx).1) htg (by decide) (by omega))
  have HCMA := hide (cells_meant_all c row lv (fun x hx => (hrow.cells x hx).1.byte) hab hbl (mayR c row tg))
  have HMK := hide (cells_meant c row lv (fun x hx => (hrow.cells x hx).1.byte) hab hbl ⟨4, tg, 0⟩)
  have HRW := hide (fun (w' : World) (hb : Below w.heap.size w w') (first last : Nat) => rwRelease_any c row g 74 n f pv B lv tg first last w' (hce.below hb) (hbox.below hb hbox.lt).row hne hn hf hR.labels (fun x hx => (hrow.cells x hx).1) htg (by decide) (by omega))
  have HPB := hide (fun b' (h : pv.ownBlock = some b') => (hce.lt h).2)
  generalize hP : placesR c row lv = P at *
  clear hbox hrl hce hn hf hR hrow hlv htg hpcB hne hP
  have hfi : (lg : Int) < 8 := by omega
  go_enter Tryz.func76, Tryz.ntmps76
  go_wp2_with fail
  refine (HQ.out).mono ?_
  rintro e w1 ⟨rfl, hb1⟩
  have i1 := (HBX.out.below hb1 hgl).is
  have a1 := (HBX.out.below hb1 hgl).at
  have r1 := (HBX.out.below hb1 hgl).not
  clear i0 a0 r0
  go_wp2_with fail
  refine (HQ2.out w1).mono ?_
  rintro e w1' ⟨rfl, hb1'⟩
  clear i1 a1 r1
  replace hb1 := hb1.trans (hb1'.mono hb1.size)
  clear hb1'
  have g1 := (HBX.out.below hb1 hgl).gr lv tg hlv6 htg6
  rw [hgr] at g1
  go_wp2_with fail
  refine (HPL.out _ hb1).mono ?_
  rintro e w2 ⟨vl, rfl, hvl, hb2⟩
  have hbw := hb1.trans (hb2.mono hb1.size)
  have hw1s := hb1.size
  have HVL := hide hvl
  obtain ⟨ao, cap, hvv⟩ := hvl.shape
  subst hvv
  clear hb1 hb2 hvl g1
  go_wp2_with fail
  refine (HPC.out _).mono ?_
  rintro e w2' ⟨rfl, rfl⟩
  obtain ⟨gp, cp, hvv, hgp0, hgp⟩ := HVL.out.form (by omega)
  simp only [Value.slice.injEq] at hvv
  obtain ⟨rfl, _, rfl⟩ := hvv
  have hcapP : P.length ≤ cap := by
    obtain ⟨cap', cur, h1, _, _, h4, _⟩ := HVL.out.row (g := gp) rfl
    simp only [Value.slice.injEq] at h1
    omega
  have hsl := pslice (ao := some ⟨gp, 0, none⟩) (n := P.length) (cap := cap) (a := a) (b := b) (by omega) (by omega) (by omega) (by omega)
  have HLT := hide (show ((P.drop a).take (b - a)).length = b - a by rw [List.length_take, List.length_drop]; omega)
  have HM1 := hide (HHM.out gp (cap - a) w2 (pieces_at HVL.out))
  rw [HLT.out] at HM1
  rw [hmask] at HM1
  go_wp2_with fail
  refine (HM1.out).mono ?_
  rintro e w3 ⟨rfl, hb3⟩
  have hbw3 := hbw.trans (hb3.mono hbw.size)
  clear hsl
  have hea : P[a]? = some (P[a]'(by omega)) := List.getElem?_eq_getElem (by omega)
  have heb : P[b - 1]? = some (P[b - 1]'(by omega)) := List.getElem?_eq_getElem (by omega)
  have HV3 := hide (HVL.out.below hb3)
  have p1 := HV3.out.cell (show ∀ a, (placeV a).length = 3 from fun _ => rfl) rfl hea (j := 1) (by omega)
  have p2 := HV3.out.cell (show ∀ a, (placeV a).length = 3 from fun _ => rfl) rfl heb (j := 2) (by omega)
  have hfa : plAt P a = P[a]'(by omega) := plAt_lt (by omega)
  have hlb1 : plAt P (b - 1) = P[b - 1]'(by omega) := plAt_lt (by omega)
  rw [hfa, hlb1] at HMK HCMA
  generalize (P[a]'(by omega)) = pa at *
  generalize (P[b - 1]'(by omega)) = pb at *
  obtain ⟨m, hm1, hm2⟩ : ∃ m : Nat, (b : Int) - 1 = (m : Int) ∧ b - 1 = m := ⟨b - 1, by omega, rfl⟩
  have hmi : (m : Int) < (P.length : Int) := by omega
  have hai : (a : Int) < (P.length : Int) := by omega
  have hwm : IntKind.i64.wrap (m : Int) = (m : Int) := by rw [IntKind.wrap_i64]; omega
  rw [hm2] at p2
  obtain ⟨pa1, pa2, pa3⟩ := pa
  obtain ⟨pb1, pb2, pb3⟩ := pb
  have p1' : w3.cell? ⟨gp, a * 3 + 1, none⟩ = some (.int .i64 pa2) := p1
  have p2' : w3.cell? ⟨gp, m * 3 + 2, none⟩ = some (.int .i64 pb3) := p2
  simp only at HMK HCMA
  have HSE := hide (show (List.range row.length).all (stemB c row lv pa2 pb3 tg) = (cellsTo c row lv P a b).all (mayR c row tg) from HCMA.out.symm)
  have HST1 := hide (HSTM.out w3 hbw3 pa2 pb3)
  rw [HSE.out, hstem] at HST1
  have HM2 := hide hm2
  clear hea heb p1 p2 hfa hlb1 hm2
  go_wp2_with fail
  refine (HST1.out).mono ?_
  rintro e w4 ⟨rfl, hb4⟩
  have hbw4 := hbw3.trans (hb4.mono hbw3.size)
  clear p1' p2'
  have l4 := (HBX.out.below hbw4 hgl).log tg htg6
  rw [HLG.out] at l4
  have HRX := hide (HRW.out w4 hbw4 pa2 pb3)
  rw [← HMK.out] at HRX
  generalize hML : markAll row (cellsTo c row lv P a b) ⟨4, tg, 0⟩ = row' at *
  have HML := hide hML
  clear hML
  go_wp2_with fail
  refine (HRX.out).mono ?_
  rintro e w5 ⟨rfl, hown5, honly5⟩
  have hg5 : w5.heap[g]? = w4.heap[g]? := honly5.block g (Nat.lt_of_lt_of_le hgl hbw4.size) (fun e => HNE.out g e rfl)
  have HB5 := hide ((HBX.out.below hbw4 hgl).kept hg5)
  have l5 := HB5.out.log tg htg6
  have f5 := HB5.out.frozen (118 + tg)
  rw [HLG.out] at l5
  have HB7 : Hid (PBox (w5.drew.setCell ⟨g, 118 + tg, none⟩ (.int .i64 ((lg + 1 : Nat) : Int))) g n f rv GR pv I (insF Lg tg 1)) := PBox.setLog (w := w5.drew) (x := lg + 1) HB5.out htg6 (fun i _ => by unfold insF; by_cases hi : i = tg <;> simp [hi, HLG.out])
  have HO7 : Hid (OwnL 188 20 (pcV c) (w5.drew.setCell ⟨g, 118 + tg, none⟩ (.int .i64 ((lg + 1 : Nat) : Int))) B pv row') := OwnL.setOther (w := w5.drew) hown5 (fun b hb e => HNE.out b hb e.symm)
  have o1 : Only (fun k => pv.ownBlock = some k ∨ k = g) w w5 := (Only.of_below hbw4).trans honly5 (fun k h => Or.inl (Or.inl h))
  have HN7 : Hid (Only (fun k => pv.ownBlock = some k ∨ k = g) w (w5.drew.setCell ⟨g, 118 + tg, none⟩ (.int .i64 ((lg + 1 : Nat) : Int)))) := o1.drew.setCell (a := ⟨g, 118 + tg, none⟩) (Or.inr rfl)
  have HNUM := hide (show (lg : Int) + 1 = ((lg + 1 : Nat) : Int) by omega)
  have HWQ := hide (show IntKind.i64.wrap ((lg : Int) + 1) = (lg : Int) + 1 by rw [IntKind.wrap_i64]; omega)
  clear hown5 honly5 o1 l4 hg5
  go_wp2_with fail
  refine wp_region_held_drew (S := (fun (_ : World) => True)) (by kernel_rfl) ?_ (fun hHeld => ?_)
  · exact trivial
  refine takeW 0 (some 88) ?_ rfl rfl (by kernel_rfl) (by kernel_rfl) (by kernel_rfl) (fun _ _ _ h => h) ?_ (by assumption) ?_
  rotate_left 1
  · (intro o ho w hSw; obtain rfl := Option.some.inj ho; clear ho; (try dsimp only at hSw); go_simp; try (with_reducible rfl))
  (try simp only [Act.put, List.setIfInBounds_toArray, List.set_cons_zero, List.set_cons_succ])
  refine takeW 1 (some 89) ?_ rfl rfl (by kernel_rfl) (by kernel_rfl) (by kernel_rfl) (fun _ _ _ h => h) ?_ (by assumption) ?_
  rotate_left 1
  · (intro o ho w hSw; obtain rfl := Option.some.inj ho; clear ho; (try dsimp only at hSw); go_simp; try (with_reducible rfl))
  (try simp only [Act.put, List.setIfInBounds_toArray, List.set_cons_zero, List.set_cons_succ])
  refine takeW 2 (some 90) ?_ rfl rfl (by kernel_rfl) (by kernel_rfl) (by kernel_rfl) (fun _ _ _ h => h) ?_ (by assumption) ?_
  rotate_left 1
  · (intro o ho w hSw; obtain rfl := Option.some.inj ho; clear ho; (try dsimp only at hSw); go_simp; try (with_reducible rfl))
  (try simp only [Act.put, List.setIfInBounds_toArray, List.set_cons_zero, List.set_cons_succ])
  refine takeW 3 (some 91) ?_ rfl rfl (by kernel_rfl) (by kernel_rfl) (by kernel_rfl) (fun _ _ _ h => h) ?_ (by assumption) ?_
  rotate_left 1
  · (intro o ho w hSw; obtain rfl := Option.some.inj ho; clear ho; (try dsimp only at hSw); go_simp; try (with_reducible rfl))
  (try simp only [Act.put, List.setIfInBounds_toArray, List.set_cons_zero, List.set_cons_succ])
  refine takeW 4 (some 92) ?_ rfl rfl (by kernel_rfl) (by kernel_rfl) (by kernel_rfl) (fun _ _ _ h => h) ?_ (by assumption) ?_
  rotate_left 1
  · (intro o ho w hSw; obtain rfl := Option.some.inj ho; clear ho; (try dsimp only at hSw); go_simp; try (with_reducible rfl))
  (try simp only [Act.put, List.setIfInBounds_toArray, List.set_cons_zero, List.set_cons_succ])
  refine takeW 7 (some 95) ?_ rfl rfl (by kernel_rfl) (by kernel_rfl) (by kernel_rfl) (fun _ _ _ h => h) ?_ (by assumption) ?_
  rotate_left 1
  · (intro o ho w hSw; obtain rfl := Option.some.inj ho; clear ho; (try dsimp only at hSw); go_simp; try (with_reducible rfl))
  (try simp only [Act.put, List.setIfInBounds_toArray, List.set_cons_zero, List.set_cons_succ])
  refine takeW 8 (some 96) ?_ rfl rfl (by kernel_rfl) (by kernel_rfl) (by kernel_rfl) (fun _ _ _ h => h) ?_ (by assumption) ?_
  rotate_left 1
  · (intro o ho w hSw; obtain rfl := Option.some.inj ho; clear ho; (try dsimp only at hSw); go_simp; try (with_reducible rfl))
  (try simp only [Act.put, List.setIfInBounds_toArray, List.set_cons_zero, List.set_cons_succ])
  refine wpAnyH_ready (rs := [5]) (by kernel_rfl) (by simp) ?_
  refine AllReadyH.cons rfl (fun K hK => ?_) AllReadyH.nil
  go_simp
  refine hK.out _ _ ?_ (fun hHeld => ?_)
  · exact trivial
  clear hK K
  refine takeW 6 (some 94) ?_ rfl rfl (by kernel_rfl) (by kernel_rfl) (by kernel_rfl) (fun _ _ _ h => h) ?_ (by assumption) ?_
  rotate_left 1
  · (intro o ho w hSw; obtain rfl := Option.some.inj ho; clear ho; (try dsimp only at hSw); go_simp; try (with_reducible rfl))
  (try simp only [Act.put, List.setIfInBounds_toArray, List.set_cons_zero, List.set_cons_succ])
  refine takeW 9 (some 97) ?_ rfl rfl (by kernel_rfl) (by kernel_rfl) (by kernel_rfl) (fun _ _ _ h => h) ?_ (by assumption) ?_
  rotate_left 1
  · (intro o ho w hSw; obtain rfl := Option.some.inj ho; clear ho; (try dsimp only at hSw); go_simp; try (with_reducible rfl))
  (try simp only [Act.put, List.setIfInBounds_toArray, List.set_cons_zero, List.set_cons_succ])
  refine wpAnyH_ready (rs := [10]) (by kernel_rfl) (by simp) ?_
  refine AllReadyH.cons rfl (fun K hK => ?_) AllReadyH.nil
  go_simp
  refine hK.out _ _ ?_ (fun hHeld => ?_)
  · exact trivial
  clear hK K
  refine wpAnyH_done (by kernel_rfl) ?_ _
  go_wp2
  go_ret
  rw [← HNUM.out] at HB7 HO7 HN7
  first | (rw [HWQ.out]) | skip
  exact ⟨rfl, HB7.out, by rw [HML.out]; exact HO7.out, HN7.out⟩
end Go.Proofs.YthgcpjdlcooncaaGreat
namespace Go.Proofs.YthgcpjdlcooncaaGreat
open Go.RowKit Veil
theorem mask_places {P : List Pl} (hP : ∀ j, j < P.length → plB P j < 256) {a : Nat} : ∀ {b : Nat}, a ≤ b → b ≤ P.length → maskTo (viewT P) a b = ((P.drop a).take (b - a)).any (fun p => p.b == 35) := by
  intro b
  induction b with
  | zero => intro h _; obtain rfl : a = 0 := by omega
            simp [maskTo]
  | succ b ih =>
    intro hab hb
    by_cases h : a = b + 1
    · subst h; simp [maskTo]
    · have hle : a ≤ b := by omega
      rw [maskTo_succ hle, ih hle (by omega), show b + 1 - a = (b - a) + 1 by omega, List.take_add_one, List.any_append]
      have e1 : (P.drop a)[b - a]? = some P[b] := by
        rw [List.getElem?_drop, show a + (b - a) = b by omega, List.getElem?_eq_getElem (by omega)]
      rw [e1]
      have e2 : bt (viewT P) b = P[b].b := by
        unfold viewT
        rw [bt_textF _ _ _ (by omega) (hP b (by omega)), plB_at (List.getElem?_eq_getElem (by omega))]
      rw [e2]
      simp
theorem relN_snoc_yes {acts : List RA} {who n : Int} {tg : Nat} : relN (acts ++ [⟨4, who, tg, n⟩]) = insF (relN acts) tg 1 := by
  funext t
  unfold relN insF
  rw [List.filter_append, List.length_append]
  by_cases h : t = tg
  · subst h
    have : relP t ⟨4, who, t, n⟩ = true := by simp [relP]
    simp [this]
  · have : relP t ⟨4, who, tg, n⟩ = false := by
      have : ¬ ((tg : Int) = (t : Int)) := by omega
      simp [relP, this]
    simp [this, h]
theorem relN_le (acts : List RA) (t : Nat) : relN acts t ≤ acts.length := List.length_filter_le _ _
theorem doc_release (w0 w : World) (s : DS) (k : Nat) (o : OpR) (h : DocI w0 w s k) (hk : k ≤ 4000000000000) (hko : o.kind = 14) :
    Calls Tryz.prog 40 #[.agg (pairC s.pd s.rd), .agg o.cells] w fun e w' => e = .returned (.bool true) ∧ EditOk w0 w s k w' := by
  have hok := h.rdocOk (Nat.le_trans hk (by decide))
  obtain ⟨_, _, _, _, hn, _, hn1⟩ := labels_of h.right.labels
  have refuse : ∀ code : Int, (∀ w', Below w.heap.size w w' → Calls Tryz.prog 76 #[.pointer (some ⟨s.pd, 0, none⟩), .int .i64 o.b, .int .i64 o.c, .int .i64 o.d, .int .i64 o.e] w' fun e w'' => e = .returned (.int .i64 code) ∧ Below w'.heap.size w' w'') → (∀ w', Below w.heap.size w w' → Calls Tryz.prog 77 #[.pointer (some ⟨s.rd, 0, none⟩), .int .i64 o.b, .int .i64 o.c, .int .i64 o.d, .int .i64 o.e] w' fun e w'' => e = .returned (.int .i64 code) ∧ Below w'.heap.size w' w'') → Calls Tryz.prog 40 #[.agg (pairC s.pd s.rd), .agg o.cells] w fun e w' => e = .returned (.bool true) ∧ EditOk w0 w s k w' := fun code hP hR => by
    refine edited_release s.pd s.rd o (fun w' w'' code' => code' = code ∧ Below w'.heap.size w' w'') (EditOk w0 w s k) w hko (fun w' hb => (hP w' hb).mono fun e w'' ⟨h1, h2⟩ => ⟨code, h1, ⟨rfl, h2⟩, fun k _ hk => h2.block k hk⟩) (fun w' w'' code' hb ⟨hc, hb'⟩ => ?_)
    subst hc
    have hbb := hb.trans (hb'.mono hb.size)
    exact (hR w'' hbb).mono fun e w3 ⟨h1, h2⟩ => ⟨h1, EditOk.same h (hbb.trans (h2.mono hbb.size))⟩
  cases hlv : okL s.c.labels o.b
  · exact refuse 6 (fun w' hb => dcRelease_lv s.pd _ _ _ _ _ _ _ o.b o.c o.d o.e w' (h.box.below hb h.box.lt) (by rw [h.okL]; exact hlv)) (fun w' hb => rrelease_no1 s.c s.v s.rows s.rrv s.rav s.rd o.b o.c o.d o.e w' (h.below hb).ref.read hlv)
  cases hlb : okL s.c.labels o.e
  · exact refuse 6 (fun w' hb => dcRelease_lb s.pd _ _ _ _ _ _ _ o.b o.c o.d o.e w' (h.box.below hb h.box.lt) (by rw [h.okL]; exact hlv) (by rw [h.okL]; exact hlb)) (fun w' hb => rrelease_no1b s.c s.v s.rows s.rrv s.rav s.rd o.b o.c o.d o.e w' (h.below hb).ref.read hlv hlb)
  obtain ⟨lb, hlb1, hlb2⟩ := okL_nat' hn hlb
  obtain ⟨lv, hlv1, hlv2⟩ := okL_nat' hn hlv
  have hlv' : okL s.c.labels (lv : Int) = true := by rw [← hlv1]; exact hlv
  have hlb' : okL s.c.labels (lb : Int) = true := by rw [← hlb1]; exact hlb
  have hP : ∀ w', Below w.heap.size w w' → DocI w0 w' s k := fun w' hb => h.below hb
  cases hgr : s.c.grants.any (grantIs lv lb)
  · refine refuse 10 (fun w' hb => ?_) (fun w' hb => ?_)
    · rw [hlv1, hlb1]
      exact dcRelease_gr s.pd _ _ _ _ _ _ _ lv lb o.c o.d w' (hP w' hb).box h.n6 hlv2 hlb2 hgr
    · rw [hlv1, hlb1]
      exact rrelease_no2 s.c s.v s.rows s.rrv s.rav s.rd lv o.c o.d lb w' (hP w' hb).ref.read hok hlv' hlb' hgr
  cases hpc : pieceB o.c o.d (placesR s.c s.row lv).length
  · refine refuse 7 (fun w' hb => ?_) (fun w' hb => ?_)
    · rw [hlv1, hlb1]
      exact dcRelease_at s.c s.row s.pd _ _ s.prv s.ppv _ _ _ w0.heap.size lv lb o.c o.d w' (hP w' hb).box (hP w' hb).rules (hP w' hb).cells rfl rfl h.right h.rowGood hlv2 hlb2 hgr hpc
    · rw [hlv1, hlb1]
      exact rrelease_no3 s.c s.v s.rows s.rrv s.rav s.rd lv o.c o.d lb w' (hP w' hb).ref.read hok hlv' hlb' hgr (piece_no hpc)
  obtain ⟨x, y, hx, hy, hxy, hyl⟩ := piece_yes hpc
  have hcb := cells_bound h.bytes (h.good.length h.n6) hxy hyl
  have hmm := cells_meant s.c s.row lv h.bytes hxy hyl ⟨4, lb, 0⟩
  obtain ⟨_, hp2⟩ := places_of hok lv
  have hmk : maskTo (viewT (placesR s.c s.row lv)) x y = (((placesR s.c s.row lv).drop x).take (y - x)).any (fun p => p.b == 35) := mask_places (fun j _ => plB_ok hp2 j) (Nat.le_of_lt hxy) hyl
  have hlg := relN_log s.c s.acts lb
  have hany : ∀ w'', RDocO w0 w'' s.rd s.c s.v s.rows s.acts s.rrv s.rav → Calls Tryz.prog 77 #[.pointer (some ⟨s.rd, 0, none⟩), .int .i64 lv, .int .i64 x, .int .i64 y, .int .i64 lb] w'' fun e w' => ∃ code, e = .returned (.int .i64 code) ∧ RelIs w0 w'' w' s.rd s.c s.v s.rows s.acts s.rrv s.rav lv x y lb (cellsTo s.c s.row lv (placesR s.c s.row lv) x y) (viewT (placesR s.c s.row lv)) code := fun w'' hrefk =>
    rrelease_any w0 w'' s.rd s.c s.v s.rows s.acts s.rrv s.rav lv x y lb hrefk hok hlv' hlb' hgr hxy hyl h.acts.2 (h.mks hk) (Nat.le_trans h.acts.1 hk) (by simpa [DS.row] using hcb)
  cases hmask : (((placesR s.c s.row lv).drop x).take (y - x)).any (fun p => p.b == 35)
  case true =>
    refine refuse 11 (fun w' hb => ?_) (fun w' hb => ?_)
    · rw [hlv1, hx, hy, hlb1]
      exact dcRelease_mask s.c s.row s.pd _ _ s.prv s.ppv _ _ _ w0.heap.size lv x y lb w' (hP w' hb).box (hP w' hb).rules (hP w' hb).cells rfl rfl h.right h.rowGood hlv2 hlb2 hgr h.ne hxy hyl hmask
    · rw [hlv1, hx, hy, hlb1]
      refine (hany w' (hP w' hb).ref).mono ?_
      rintro e w'' ⟨code, rfl, hI⟩
      obtain ⟨rfl, hb'⟩ := hI.mask (by rw [hmk]; exact hmask)
      exact ⟨rfl, hb'⟩
  rw [hmask] at hmk
  cases hst : (cellsTo s.c s.row lv (placesR s.c s.row lv) x y).all (mayR s.c s.row lb)
  · refine refuse 12 (fun w' hb => ?_) (fun w' hb => ?_)
    · rw [hlv1, hx, hy, hlb1]
      exact dcRelease_stem s.c s.row s.pd _ _ s.prv s.ppv _ _ _ w0.heap.size lv x y lb w' (hP w' hb).box (hP w' hb).rules (hP w' hb).cells rfl rfl h.right h.rowGood hlv2 hlb2 hgr h.ne hxy hyl hmask hst
    · rw [hlv1, hx, hy, hlb1]
      refine (hany w' (hP w' hb).ref).mono ?_
      rintro e w'' ⟨code, rfl, hI⟩
      obtain ⟨rfl, hb'⟩ := hI.origin hmk hst
      exact ⟨rfl, hb'⟩
  by_cases hfu : 8 ≤ relN s.acts lb
  · refine refuse 13 (fun w' hb => ?_) (fun w' hb => ?_)
    · rw [hlv1, hx, hy, hlb1]
      exact dcRelease_full s.c s.row s.pd _ _ s.prv s.ppv _ _ _ w0.heap.size lv x y lb w' (hP w' hb).box (hP w' hb).rules (hP w' hb).cells rfl rfl h.right h.rowGood hlv2 hlb2 hgr h.ne hxy hyl hmask hst hfu (Nat.le_trans (relN_le _ _) (Nat.le_trans h.acts.1 hk))
    · rw [hlv1, hx, hy, hlb1]
      refine (hany w' (hP w' hb).ref).mono ?_
      rintro e w'' ⟨code, rfl, hI⟩
      obtain ⟨rfl, hb'⟩ := hI.full hmk hst (by rw [hlg]; exact hfu)
      exact ⟨rfl, hb'⟩
  refine edited_release s.pd s.rd o (fun w' w'' code => code = 0 ∧ PBox w'' s.pd s.c.n (tT s.c) s.prv (grF s.c) s.ppv (ownC s.row) (insF (relN s.acts) lb 1) ∧ OwnL 188 20 (pcV s.c) w'' w0.heap.size s.ppv (markAll s.row (cellsTo s.c s.row lv (placesR s.c s.row lv) x y) ⟨4, lb, 0⟩) ∧ Only (fun k => s.ppv.ownBlock = some k ∨ k = s.pd) w' w'') (EditOk w0 w s k) w hko (fun w' hb => ?_) (fun w' w'' code hb ⟨hc, hbox2, hown, hon⟩ => ?_)
  · have hd := hP w' hb
    rw [hlv1, hx, hy, hlb1]
    refine (dcRelease_ok s.c s.row s.pd _ _ s.prv s.ppv _ _ _ w0.heap.size lv x y lb w' hd.box hd.rules hd.cells rfl rfl h.right h.rowGood hlv2 hlb2 hgr h.ne hxy hyl hmask hst (by omega)).mono ?_
    rintro e w'' ⟨rfl, hbox2, hown, hon⟩
    refine ⟨0, rfl, ⟨rfl, hbox2, hown, hon⟩, fun j hj1 hj2 => hon.block j hj2 (fun e => ?_)⟩
    rcases e with e | e
    · have := (h.low .cells j e).2; omega
    · have := (h.low .box j (by rw [e]; rfl)).2; omega
  · subst hc
    have hd := hP w' hb
    have hrefk : RDocO w0 w'' s.rd s.c s.v s.rows s.acts s.rrv s.rav := hd.ref.kept hon (fun b hb => by
      rcases hb with e | e
      · exact (h.low .cells b e).1
      · exact (h.low .box b (by rw [e]; rfl)).1) (fun p b hp e => by
      rcases e with e | e
      · have := h.apart (.ref p) .cells b hp e; cases this
      · have := h.apart (.ref p) .box b hp (by rw [e]; rfl); cases this)
    rw [hlv1, hx, hy, hlb1]
    refine (hany w'' hrefk).mono ?_
    rintro e w3 ⟨code, rfl, hI⟩
    obtain ⟨rfl, rows', av', hr1, hr2, hr3, hr4⟩ := hI.ok hmk hst (by rw [hlg]; omega)
    refine ⟨rfl, ?_⟩
    refine EditOk.mark h hb hown hbox2 hon hr1 hr2 hr3 hr4 ?_ ?_ ?_ ?_ ?_
    · rw [hmm]; exact ownC_marked _ _ _
    · exact relN_snoc_yes.symm
    · exact fun _ => ⟨lb, rfl, hlb2⟩
    · rw [hmm]; exact markIf_ok _ h.good ⟨hlb2, by show 0 < s.c.n; omega⟩
    · rw [hmm]; exact markIf_no35 _ h.no35
end Go.Proofs.YthgcpjdlcooncaaGreat
namespace Go.Proofs.YthgcpjdlcooncaaGreat
open Go.RowKit Veil
theorem veil_inv {co : Option Addr} {cn cap : Nat} {cs : Nat → Cfg} {vs : Nat → CfgV} {n : Nat} {ops : Nat → OpR} {w : World} {Lp Lh : List Int} (hcs : CfgsAt w co cn cs vs) (hcn : cn < 2 ^ 57) (hn : n ≤ 1759218604441) (hL : ∀ k, Lp.contains k = true → k = 6 ∨ k = 7 ∨ k = 8 ∨ k = 9 ∨ k = 12 ∨ k = 13 ∨ k = 14)
    (ha : ∀ i, i < n → (ops i).s.size ≤ 140737488355328 ∧ -9223372036854775808 ≤ (ops i).a ∧ (ops i).a ≤ 9223372036854775807) : PlayInv w n ops Lp Lh (LawI w (.slice co cn cap)) := by
  have H := docs_inv (Lp := [6, 7, 8, 9, 12, 13]) (Lh := Lh) (ops := ops) (cap := cap) hcs hcn hn (fun k hk => by simp at hk; omega) ha
  refine ⟨H.low, H.frame, H.skip, ?_, H.looks⟩
  intro g k F w' hkn hin hI
  by_cases hk : (ops k).kind = 14
  · obtain ⟨D, dv, h⟩ := hI
    have hk4 : k ≤ 4000000000000 := by omega
    obtain ⟨hs, ha1, ha2⟩ := ha k hkn
    have hc : Calls Tryz.prog 13 #[.pointer (some ⟨g, 0, none⟩), .agg (ops k).cells] w' fun e w'' => e = .returned (.bool true) ∧ StepOk w (.slice co cn cap) g k F w' w'' := step_pair w w' _ g k F D dv (ops k) h hk4 (by omega) (by omega) ⟨ha1, ha2⟩ (fun s _ w1 _ hd => onDoc_release g s.pd s.rd (ops k) (EditOk w w1 s k) w1 hk (fun w2 hb2 => (doc_release w w2 s k (ops k) (hd.below hb2) hk4 hk).mono fun e w'' ⟨h1, h2⟩ => ⟨h1, h2.pre hb2⟩))
    exact hc.mono fun e w'' ⟨h1, F', h2, h3, h4⟩ => ⟨true, F', h1, fun _ => rfl, h2, h3, h4⟩
  · refine H.step g k F w' hkn ?_ hI
    have := hL _ hin
    simp only [List.contains_cons, Bool.or_eq_true, beq_iff_eq]
    omega
set_option maxHeartbeats 1000000 in
theorem law_veils (co : Option Addr) (cn cc : Nat) (ao : Option Addr) (n cap : Nat) (ops : Nat → OpR) (cs : Nat → Cfg) (vs : Nat → CfgV) (w : World) (hops : OpsAt w ao n ops) (hn : n ≤ 1759218604441)
    (hcs : CfgsAt w co cn cs vs) (hcn : cn < 2 ^ 57) (ha : ∀ i, i < n → (ops i).s.size ≤ 140737488355328 ∧ -9223372036854775808 ≤ (ops i).a ∧ (ops i).a ≤ 9223372036854775807) :
    Calls Tryz.prog 9 #[.slice co cn cc, .slice ao n cap] w fun e w' => e = .returned (.bool true) ∧ Below w.heap.size w w' := by
  have HO := hide hops
  have HC := hide hcs
  have HA := hide ha
  have HN := hide hcn
  clear hops hcs ha hcn
  go_enter Tryz.func9, Tryz.ntmps9
  go_wp2_with fail
  have hbel : ∀ o : Obj, Below w.heap.size w (w.alloc o) := fun o => (Below.refl _ _).alloc (Nat.le_refl _) _
  refine (plays_inv co cn cc ao n cap ops w.heap.size w.heap.size [6, 7, 8, 13, 14, 9] [6, 7, 8, 13, 14, 9] (w.alloc (.cells #[.int .i64 6, .int .i64 7, .int .i64 8, .int .i64 13, .int .i64 14, .int .i64 9] 3)) (LawI (w.alloc (.cells #[.int .i64 6, .int .i64 7, .int .i64 8, .int .i64 13, .int .i64 14, .int .i64 9] 3)) (.slice co cn cc)) (OpsAt.below HO.out (hbel _)) (by omega) (Go.heap_alloc_new _ _) (Go.heap_alloc_new _ _) (by decide) (by decide) ?_ ?_).mono ?_
  · exact veil_inv (HC.out.below (hbel _)) HN.out hn (fun k hk => by simp at hk; omega) HA.out
  · exact law_start _ _
  · rintro e w1 ⟨rfl, hb1⟩
    have HB := hide ((hbel (.cells #[.int .i64 6, .int .i64 7, .int .i64 8, .int .i64 13, .int .i64 14, .int .i64 9] 3)).trans (hb1.mono (by simp)))
    clear hb1 hbel
    go_wp2
    go_ret
    exact ⟨rfl, HB.out⟩
end Go.Proofs.YthgcpjdlcooncaaGreat
