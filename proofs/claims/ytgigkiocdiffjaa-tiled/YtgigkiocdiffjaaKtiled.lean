/- veilkeep.Tiled. -/
import Derived.Test.YtgigkiocdiffjaaKtiles
import Derived.Test.YtgigkiocdiffjaaTKuno3
import Derived.Test.YtgigkiocdiffjaaTOpenCase
import Derived.Test.YtgigkiocdiffjaaKcheck
namespace Go.Proofs.Ytgigkiocdiffjaa
open Go.RowKit Veil
theorem case5 {w : World} {g : Nat} {c : Cfg} {v : CfgV} {sv : Value} {ty : TypeId} (h : w.heap[g]? = some (.cells #[.int .i64 c.labels, .slice v.ea c.edges.length v.ec, .slice v.ra c.rules.length v.rc, .slice v.ga c.grants.length v.gc, sv] ty (0, 0))) : w.cell? ⟨g, 0, none⟩ = some (.int .i64 c.labels) ∧ w.cell? ⟨g, 1, none⟩ = some (.slice v.ea c.edges.length v.ec) ∧ w.cell? ⟨g, 2, none⟩ = some (.slice v.ra c.rules.length v.rc) ∧ w.cell? ⟨g, 3, none⟩ = some (.slice v.ga c.grants.length v.gc) ∧ w.cell? ⟨g, 4, none⟩ = some sv :=
  ⟨(cell_of_row _ _ _ _ _ _ h).trans rfl, (cell_of_row _ _ _ _ _ _ h).trans rfl, (cell_of_row _ _ _ _ _ _ h).trans rfl, (cell_of_row _ _ _ _ _ _ h).trans rfl, (cell_of_row _ _ _ _ _ _ h).trans rfl⟩
theorem one_open {B : Nat} {g : Nat} {w : World} {c : Cfg} {s : PSt} {p : PV} (h : PInv B w g c s p 0) (x : Nat) (hx : x < B) : One (fun y => y = x) B w g c s 0 := by
  refine ⟨p, h, fun y hy => ⟨?_, fun i hi => ?_⟩⟩
  · have := h.old
    omega
  · have := (h.own.low i y hi).1
    omega
/-- How many of the first k are words or numbers. -/
def longN (L : List Sp) (k : Nat) : Nat := ((L.take k).filter fun x => longB x.kind).length
theorem longN_yes {L : List Sp} {k : Nat} (h : k < L.length) (hl : longB L[k].kind = true) : longN L (k + 1) = longN L k + 1 := by
  unfold longN
  rw [List.take_add_one, List.getElem?_eq_getElem h, List.filter_append, List.length_append]
  simp [hl]
theorem longN_no {L : List Sp} {k : Nat} (h : k < L.length) (hl : longB L[k].kind = false) : longN L (k + 1) = longN L k := by
  unfold longN
  rw [List.take_add_one, List.getElem?_eq_getElem h, List.filter_append, List.length_append]
  simp [hl]
theorem longN_at {L : List Sp} {k : Nat} (h : k < L.length) (hl : longB L[k].kind = true) : (L.filter fun x => longB x.kind)[longN L k]? = some L[k] := by
  have e : L = L.take k ++ L[k] :: L.drop (k + 1) := by
    rw [← List.drop_eq_getElem_cons h, List.take_append_drop]
  have e2 : (L.filter fun x => longB x.kind) = (L.take k).filter (fun x => longB x.kind) ++ L[k] :: (L.drop (k + 1)).filter (fun x => longB x.kind) := by
    conv => lhs; rw [e]
    rw [List.filter_append, List.filter_cons, if_pos hl]
  rw [e2]
  unfold longN
  rw [List.getElem?_append_right (Nat.le_refl _)]
  simp
theorem longN_all (L : List Sp) : longN L L.length = (L.filter fun x => longB x.kind).length := by
  unfold longN
  rw [List.take_length]
theorem longN_le (L : List Sp) (k : Nat) : longN L k ≤ L.length := by
  unfold longN
  exact Nat.le_trans (List.length_filter_le _ _) (by rw [List.length_take]; omega)
set_option maxRecDepth 100000 in
set_option maxHeartbeats 8000000 in
theorem ktiled_walk (c : Cfg) (v : CfgV) (ao : Option Addr) (m cap : Nat) (st : Nat → KS) (w : World) (s0 : PSt)
    (hO : ∀ w', Below w.heap.size w w' → Calls Try.prog 17 #[.agg (caseC c v (.slice ao m cap))] w' fun e w'' => ∃ g p, e = .returned (.tuple #[.pointer (some ⟨g, 0, none⟩), .bool true]) ∧ PInv w'.heap.size w'' g c s0 p 0 ∧ Below w'.heap.size w' w'')
    (hcn : (c.n : Int) = c.labels) (hn6 : c.n ≤ 6) (hst : StepsAt w ao m st) (hm : m ≤ 2513169434916) (htx : ∀ i, i < m → (st i).text.size ≤ 140737488355328) :
    Calls Try.prog 5 #[.agg (caseC c v (.slice ao m cap))] w fun e w' => e = .returned (.bool true) ∧ Below w.heap.size w w' := by
  have HO := hide hO
  have HST := hide hst
  have HTX := hide htx
  have HX0 := hide (Go.heap_alloc_new w (.cells (caseC c v (.slice ao m cap)) 45))
  have HB0 := hide (below_box w (.cells (caseC c v (.slice ao m cap)) 45))
  clear hO hst htx
  unfold caseC at *
  obtain ⟨q0, q1, q2, q3, q4⟩ := case5 HX0.out
  go_enter Try.func5, Try.ntmps5
  go_wp2_with fail
  generalize hW0 : w.alloc (.cells #[.int .i64 c.labels, .slice v.ea c.edges.length v.ec, .slice v.ra c.rules.length v.rc, .slice v.ga c.grants.length v.gc, .slice ao m cap] 45) = w0 at *
  have hs0 : w0.heap.size = w.heap.size + 1 := by rw [← hW0]; simp
  have HS0 := hide hs0
  clear hs0 hW0
  refine (HO.out _ HB0.out).mono ?_
  rintro e w1 ⟨g, p, rfl, hia, hb1⟩
  have HO1 := hide (one_open hia w.heap.size (by rw [HS0.out]; omega))
  have HX1 := hide (Below.row hb1 HX0.out (lt_of_row HX0.out))
  have HB1 := hide (HB0.out.trans (hb1.mono HB0.out.size))
  clear hia hb1 q0 q1 q2 q3 q4
  have HL1 := hide (LeftF.refl (fun y => y = w.heap.size) w0.heap.size w1)
  go_wp2_with fail
  go_loopw [5] (fun i wr => ∃ k : Nat, k ≤ m + 1 ∧ i = .int .i64 k ∧ (∃ s' k', k' ≤ k ∧ k' ≤ m ∧ One (fun y => y = w.heap.size) w0.heap.size wr g c s' k') ∧ LeftF (fun y => y = w.heap.size) w0.heap.size w1 wr) (fun i _ => m + 1 - (intOf i).toNat)
  case atStart => exact ⟨0, Nat.zero_le _, rfl, ⟨s0, 0, Nat.le_refl _, Nat.zero_le _, HO1.out⟩, HL1.out⟩
  case round =>
    obtain ⟨wo, rfl⟩ : ∃ x, x = wr := ⟨_, rfl⟩
    obtain ⟨k, hk, rfl, ⟨s, k', hk1, hk2, hone⟩, hleft⟩ := hrel
    have HON := hide hone
    have HLE := hide hleft
    have HXO := hide ((hleft.kept w.heap.size rfl).trans HX1.out)
    obtain ⟨q0, q1, q2, q3, q4⟩ := case5 HXO.out
    clear hone hleft
    by_cases hkm : k ≤ m
    · have hki : (k : Int) ≤ (m : Int) := by omega
      clear q0 q1 q2 q3
      go_wp2_with fail
      go_loopw [6] (fun i wr => ∃ a : Nat, a ≤ c.n ∧ i = .int .i64 a ∧ Below wo.heap.size wo wr) (fun i _ => c.n - (intOf i).toNat)
      case atStart => exact ⟨0, Nat.zero_le _, rfl, Below.refl _ _⟩
      case round =>
        obtain ⟨wi, rfl⟩ : ∃ x, x = wr := ⟨_, rfl⟩
        obtain ⟨a, ha, rfl, hbi⟩ := hrel
        have HXI := hide (Below.row hbi HXO.out (lt_of_row HXO.out))
        obtain ⟨r0, r1, r2, r3, r4⟩ := case5 HXI.out
        rw [← hcn] at r0
        clear q4
        by_cases han : a < c.n
        · have hai : (a : Int) < (c.n : Int) := by omega
          have HAN := hide han
          have HV := hide (fun (w' : World) (hb : Below wo.heap.size wo w') => one_view (HON.out.below hb) a han)
          have HSP := hide (fun (w' : World) (hb : Below wo.heap.size wo w') => one_spans (HON.out.below hb) a han)
          have HFI := hide (fun (w' : World) (hb : Below wo.heap.size wo w') => one_star (HON.out.below hb) a han)
          have hVs : (viewT (placesR c s.row a)).size ≤ 1200 := viewT_len c s.row a HON.out.rowGood
          generalize viewT (placesR c s.row a) = V at *
          clear r1 r2 r3 r4
          go_wp2_with fail
          refine (HV.out wi hbi).mono ?_
          rintro e w2 ⟨rfl, hb2⟩
          have hbi2 := hbi.trans (hb2.mono hbi.size)
          clear r0
          go_wp2_with fail
          refine (HSP.out w2 hbi2).mono ?_
          rintro e w3 ⟨vl, rfl, hol, hb3⟩
          have hbi3 := hbi2.trans (hb3.mono hbi2.size)
          have HOL := hide hol
          obtain ⟨lao, lcap, hvl⟩ := hol.shape
          clear hol
          subst hvl
          go_wp2_with fail
          refine (HFI.out w3 hbi3).mono ?_
          rintro e w4 ⟨vm, rfl, hom, hb4⟩
          have hbi4 := hbi3.trans (hb4.mono hbi3.size)
          have HOM := hide hom
          obtain ⟨mao, mcap, hvm⟩ := hom.shape
          clear hom
          subst hvm
          have HL4 := hide (HOL.out.below hb4)
          have hLs : (spansTo V V.size).length ≤ 1200 := Nat.le_trans (spansTo_length _ _) hVs
          have HTI := hide (ktiles_any V (spansTo V V.size) _ w4 hVs hLs (HL4.out.seqV (fun _ => rfl)) (tiles_all V))
          have HML := hide (show longL V = (spansTo V V.size).filter (fun x => longB x.kind) from rfl)
          generalize spansTo V V.size = L at *
          generalize longL V = M at *
          go_wp2_with fail
          refine (HTI.out).mono ?_
          rintro e w5 ⟨rfl, hb5⟩
          have hbi5 := hbi4.trans (hb5.mono hbi4.size)
          have hl5 := (HL4.out.below hb5).seqV (show ∀ a : Sp, (spV a).length = 3 from fun _ => rfl)
          have hm5 := (HOM.out.below hb5).seqV (show ∀ a : Sp, (spV a).length = 3 from fun _ => rfl)
          obtain ⟨lao2, lcap2, lb, hlv, hla, hlc⟩ := hl5
          obtain ⟨mao2, mcap2, mb, hmv, hma, hmc⟩ := hm5
          simp only [Value.slice.injEq, true_and] at hlv hmv
          obtain ⟨rfl, rfl⟩ := hlv
          obtain ⟨rfl, rfl⟩ := hmv
          have HLA := hide hla
          have HLC := hide hlc
          have HMA := hide hma
          have HMC := hide hmc
          clear hla hlc hma hmc
          go_wp2_with fail
          go_loopw [14, 15] (fun nn kk wr => ∃ j : Nat, j ≤ L.length ∧ kk = .int .i64 j ∧ nn = .int .i64 (longN L j) ∧ Below w5.heap.size w5 wr) (fun _ kk _ => L.length - (intOf kk).toNat)
          case atStart => exact ⟨0, Nat.zero_le _, rfl, rfl, Below.refl _ _⟩
          case round =>
            obtain ⟨wj, rfl⟩ : ∃ x, x = wr := ⟨_, rfl⟩
            obtain ⟨j, hj, rfl, rfl, hbj⟩ := hrel
            have hnle := longN_le L j
            by_cases hjl : j < L.length
            · have hji : (j : Int) < (L.length : Int) := by omega
              have hg : L[j]? = some L[j] := List.getElem?_eq_getElem hjl
              obtain ⟨rfl, hlbl⟩ := HLA.out.resolve_left (fun e => by rw [e] at hjl; simp at hjl)
              have c0 := (hbj.cell (p := ⟨lb, j * 3, none⟩) hlbl).trans (HLC.out j _ hg 0 (by omega))
              have c1 := (hbj.cell (p := ⟨lb, j * 3 + 1, none⟩) hlbl).trans (HLC.out j _ hg 1 (by omega))
              have c2 := (hbj.cell (p := ⟨lb, j * 3 + 2, none⟩) hlbl).trans (HLC.out j _ hg 2 (by omega))
              cases hlong : longB L[j].kind
              · have HN := hide (longN_no hjl hlong)
                generalize longN L j = n at *
                generalize L[j] = x at *
                obtain ⟨x0, x1, x2⟩ := x
                have d0 : wj.cell? ⟨lb, j * 3, none⟩ = some (.int .i64 x0) := c0
                have e1 : ((x0 : Int) == 1) = false := by unfold longB at hlong; simp at hlong ⊢; omega
                have e2 : ((x0 : Int) == 2) = false := by unfold longB at hlong; simp at hlong ⊢; omega
                clear hlong c0 c1 c2 hg
                go_wp2
                go_roundw
                case rel => exact ⟨j + 1, by omega, by go_num, by rw [HN.out], hbj⟩
                case measure => simp [intOf]; omega
              · have HY := hide (longN_yes hjl hlong)
                have hat := longN_at hjl hlong
                rw [← HML.out] at hat
                have hnM := (List.getElem?_eq_some_iff.1 hat).1
                obtain ⟨rfl, hmbl⟩ := HMA.out.resolve_left (fun e => by rw [e] at hnM; simp at hnM)
                generalize longN L j = n at *
                have f0 := (hbj.cell (p := ⟨mb, n * 3, none⟩) hmbl).trans (HMC.out n _ hat 0 (by omega))
                have f1 := (hbj.cell (p := ⟨mb, n * 3 + 1, none⟩) hmbl).trans (HMC.out n _ hat 1 (by omega))
                have f2 := (hbj.cell (p := ⟨mb, n * 3 + 2, none⟩) hmbl).trans (HMC.out n _ hat 2 (by omega))
                generalize L[j] = x at *
                obtain ⟨x0, x1, x2⟩ := x
                have d0 : wj.cell? ⟨lb, j * 3, none⟩ = some (.int .i64 x0) := c0
                have d1 : wj.cell? ⟨lb, j * 3 + 1, none⟩ = some (.int .i64 x1) := c1
                have d2 : wj.cell? ⟨lb, j * 3 + 2, none⟩ = some (.int .i64 x2) := c2
                have g0 : wj.cell? ⟨mb, n * 3, none⟩ = some (.int .i64 x0) := f0
                have g1 : wj.cell? ⟨mb, n * 3 + 1, none⟩ = some (.int .i64 x1) := f1
                have g2 : wj.cell? ⟨mb, n * 3 + 2, none⟩ = some (.int .i64 x2) := f2
                have hni : (n : Int) < (M.length : Int) := by omega
                have hng : decide ((M.length : Int) ≤ (n : Int)) = false := by simp; omega
                have hx12 : x0 = 1 ∨ x0 = 2 := by unfold longB at hlong; simp at hlong; omega
                clear hlong c0 c1 c2 f0 f1 f2 hg hat
                rcases hx12 with rfl | rfl
                · go_wp2_with fail
                  go_quiet (fail)
                  go_wp2
                  go_roundw
                  case rel => exact ⟨j + 1, by omega, by go_num, by rw [HY.out]; go_num, bel_drawn hbj _⟩
                  case measure => simp [intOf]; omega
                · go_wp2_with fail
                  go_quiet (fail)
                  go_wp2
                  go_roundw
                  case rel => exact ⟨j + 1, by omega, by go_num, by rw [HY.out]; go_num, bel_drawn hbj _⟩
                  case measure => simp [intOf]; omega
            · obtain rfl : j = L.length := by omega
              have hkc : decide ((L.length : Int) < (L.length : Int)) = false := by simp
              have hnM : longN L L.length = M.length := by rw [longN_all, ← HML.out]
              rw [hnM]
              have hne : ((M.length : Int) == (M.length : Int)) = true := by simp
              go_wp2
              go_roundw
              case rel => exact ⟨a + 1, HAN.out, by go_num, hbi5.trans (hbj.mono hbi5.size)⟩
              case measure => have := HAN.out; simp [intOf]; omega
        · obtain rfl : a = c.n := by omega
          have hkc : decide ((c.n : Int) < (c.n : Int)) = false := by simp
          have HBW := hide (HB1.out.trans ((HLE.out.low.trans (hbi.mono HON.out.old)).mono (by rw [HS0.out]; omega)))
          have HLI := hide (HLE.out.trans (LeftF.below hbi HON.out.old HON.out.lt))
          by_cases hlt : k < m
          · have hkl : (k : Int) < (m : Int) := by omega
            obtain ⟨b, off, hao, hbl, hcs⟩ := HST.out.resolve_left (by omega)
            obtain ⟨z0, z1, z2, z3, z4, z5⟩ := StepsAt.cells hcs HBW.out hbl k hlt
            have HD := hide (one_does (HON.out.below hbi) (by omega) (st k) (HTX.out k hlt))
            have hidx : ∀ w', (Instr.indexAt 43 (.slice ao m cap) (.int .i64 (k : Int))).run Try.prog w' = .ok (.pointer (some ⟨b, off + k * 6, none⟩)) w' := by
              intro w'
              rw [hao]
              go_simp
            generalize st k = o at *
            clear hao hcs
            obtain ⟨kind, level, lo, hi, label, text⟩ := o
            unfold KS.cells at *
            simp only at *
            go_wp2_with fail
            refine (HD.out).mono ?_
            rintro e w2 ⟨vl, rfl, _, hone2, hl2⟩
            have HO2 := hide hone2
            have HL2 := hide (HLI.out.trans hl2)
            clear hone2 hl2
            go_wp2
            go_roundw
            case rel => exact ⟨k + 1, by omega, by go_num, ⟨_, k' + 1, by omega, by omega, HO2.out⟩, HL2.out⟩
            case measure => simp [intOf]; omega
          · obtain rfl : k = m := by omega
            have hkl : decide ((k : Int) < (k : Int)) = false := by simp
            have HO2 := hide (HON.out.below hbi)
            go_wp2
            go_roundw
            case rel => exact ⟨k + 1, by omega, by go_num, ⟨_, k', by omega, by omega, HO2.out⟩, HLI.out⟩
            case measure => simp [intOf]
    · obtain rfl : k = m + 1 := by omega
      have hkc : decide (((m + 1 : Nat) : Int) ≤ (m : Int)) = false := by simp; omega
      have HBE := hide (HB1.out.trans (HLE.out.low.mono (by rw [HS0.out]; omega)))
      go_wp2
      go_ret
      exact ⟨rfl, HBE.out⟩
set_option maxRecDepth 100000 in
set_option maxHeartbeats 4000000 in
theorem ktiled_no (c : Cfg) (v : CfgV) (sv : Value) (w : World)
    (hO : ∀ w', Below w.heap.size w w' → Calls Try.prog 17 #[.agg (caseC c v sv)] w' fun e w'' => e = .returned (.tuple #[.pointer none, .bool true]) ∧ Below w'.heap.size w' w'') :
    Calls Try.prog 5 #[.agg (caseC c v sv)] w fun e w' => e = .returned (.bool true) ∧ Below w.heap.size w w' := by
  have HO := hide hO
  have HX0 := hide (Go.heap_alloc_new w (.cells (caseC c v sv) 45))
  have HB0 := hide (below_box w (.cells (caseC c v sv) 45))
  clear hO
  unfold caseC at *
  obtain ⟨q0, q1, q2, q3, q4⟩ := case5 HX0.out
  go_enter Try.func5, Try.ntmps5
  go_wp2_with fail
  refine (HO.out _ HB0.out).mono ?_
  rintro e w1 ⟨rfl, hb1⟩
  have HB1 := hide (HB0.out.trans (hb1.mono HB0.out.size))
  clear hb1 q0 q1 q2 q3 q4
  go_wp2
  go_ret
  exact ⟨rfl, HB1.out⟩
theorem ktiled_any (c : Cfg) (v : CfgV) (ao : Option Addr) (m cap : Nat) (st : Nat → KS) (w : World) (hok : CfgOk c) (hat : CfgAt w c v) (hcap : c.rules.length ≤ v.rc) (hst : StepsAt w ao m st) (hm : m ≤ 2513169434916) (htx : ∀ i, i < m → (st i).text.size ≤ 140737488355328) :
    Calls Try.prog 5 #[.agg (caseC c v (.slice ao m cap))] w fun e w' => e = .returned (.bool true) ∧ Below w.heap.size w w' := by
  obtain ⟨k, hk⟩ := kcheck_ex c
  by_cases h0 : k = 0
  · subst h0
    obtain ⟨_, _, _, _, hc, hn6, _⟩ := labels_of (right_of hk).labels
    exact ktiled_walk c v ao m cap st w stZ (fun w' hb => kopen_ok c v _ w' hok (hat.below hb) hcap hk) hc hn6 hst hm htx
  · exact ktiled_no c v _ w (fun w' hb => kopen_no c v _ k w' hok (hat.below hb) hcap hk h0)
end Go.Proofs.Ytgigkiocdiffjaa
