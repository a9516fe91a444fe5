/- veilkeep.Refused. -/
import Derived.Test.YtgigkiocdiffjabKalike
import Derived.Test.YtgigkiocdiffjabKnothing
import Derived.Test.YtgigkiocdiffjabUOpenCase
import Derived.Test.YtgigkiocdiffjabKcheck
namespace Go.Proofs.Ytgigkiocdiffjab
open Go.RowKit Veil
theorem two_open {B ga gb : Nat} {w1 w2 : World} {c : Cfg} {s : PSt} {pa pb : PV} (hB : B ≤ w1.heap.size) (ha : PInv B w1 ga c s pa 0) (hb : PInv w1.heap.size w2 gb c s pb 0) (hbel : Below w1.heap.size w1 w2) (x : Nat) (hx : x < B) : Two (fun y => y = x) B w2 ga gb c s s 0 0 := by
  refine ⟨pa, pb, ha.below hbel, hb.base hB, fun y i j hi hj => ?_, fun y hy => ⟨?_, fun i hi => ?_, fun j hj => ?_⟩⟩
  · have := (ha.own.low i y hi).2
    have := (hb.own.low j y hj).1
    omega
  · have := hbel.size
    omega
  · have := (ha.own.low i y hi).1
    omega
  · have := (hb.own.low j y hj).1
    omega
theorem case5 {w : World} {g : Nat} {c : Cfg} {v : CfgV} {sv : Value} {ty : TypeId} (h : w.heap[g]? = some (.cells #[.int .i64 c.labels, .slice v.ea c.edges.length v.ec, .slice v.ra c.rules.length v.rc, .slice v.ga c.grants.length v.gc, sv] ty (0, 0))) : w.cell? ⟨g, 0, none⟩ = some (.int .i64 c.labels) ∧ w.cell? ⟨g, 1, none⟩ = some (.slice v.ea c.edges.length v.ec) ∧ w.cell? ⟨g, 2, none⟩ = some (.slice v.ra c.rules.length v.rc) ∧ w.cell? ⟨g, 3, none⟩ = some (.slice v.ga c.grants.length v.gc) ∧ w.cell? ⟨g, 4, none⟩ = some sv :=
  ⟨(cell_of_row _ _ _ _ _ _ h).trans rfl, (cell_of_row _ _ _ _ _ _ h).trans rfl, (cell_of_row _ _ _ _ _ _ h).trans rfl, (cell_of_row _ _ _ _ _ _ h).trans rfl, (cell_of_row _ _ _ _ _ _ h).trans rfl⟩
/-- What is held behind so many steps. -/
def stN (c : Cfg) (s0 : PSt) (st : Nat → KS) : Nat → PSt
  | 0 => s0
  | k + 1 => stepSt c (stN c s0 st k) (st k)
set_option maxRecDepth 100000 in
set_option maxHeartbeats 4000000 in
theorem krefused_walk (c : Cfg) (v : CfgV) (ao : Option Addr) (m cap : Nat) (st : Nat → KS) (n : Int) (w : World) (s0 : PSt)
    (hO : ∀ w', Below w.heap.size w w' → Calls Try.prog 7 #[.agg (caseC c v (.slice ao m cap))] w' fun e w'' => ∃ g p, e = .returned (.tuple #[.pointer (some ⟨g, 0, none⟩), .bool true]) ∧ PInv w'.heap.size w'' g c s0 p 0 ∧ Below w'.heap.size w' w'')
    (hst : StepsAt w ao m st) (hm : m ≤ 2513169434916) (htx : ∀ i, i < m → (st i).text.size ≤ 140737488355328) (hn : -9223372036854775808 ≤ n ∧ n ≤ 9223372036854775807) :
    Calls Try.prog 6 #[.agg (caseC c v (.slice ao m cap)), .int .i64 n] w fun e w' => e = .returned (.bool true) ∧ Below w.heap.size w w' := by
  have HO := hide hO
  have HST := hide hst
  have HTX := hide htx
  have HPK := hide (fun w' => kpick_any n 1000 w' hn (by decide) (by decide))
  have HPL := hide (pickK_lt (n := 1000) hn.1 (by decide))
  have HX0 := hide (Go.heap_alloc_new w (.cells (caseC c v (.slice ao m cap)) 29))
  have HB0 := hide (below_box w (.cells (caseC c v (.slice ao m cap)) 29))
  clear hO hst htx hn
  unfold caseC at *
  obtain ⟨q0, q1, q2, q3, q4⟩ := case5 HX0.out
  go_enter Try.func6, Try.ntmps6
  go_wp2_with fail
  generalize hW0 : w.alloc (.cells #[.int .i64 c.labels, .slice v.ea c.edges.length v.ec, .slice v.ra c.rules.length v.rc, .slice v.ga c.grants.length v.gc, .slice ao m cap] 29) = w0 at *
  have hs0 : w0.heap.size = w.heap.size + 1 := by rw [← hW0]; simp
  have HS0 := hide hs0
  clear hs0
  refine (HO.out _ HB0.out).mono ?_
  rintro e w1 ⟨ga, pa, rfl, hia, hb1⟩
  have HIA := hide hia
  have HE1 := hide hb1
  have HX1 := hide (Below.row hb1 HX0.out (lt_of_row HX0.out))
  have HB1 := hide (HB0.out.trans (hb1.mono HB0.out.size))
  obtain ⟨r0, r1, r2, r3, r4⟩ := case5 HX1.out
  clear hia hb1 q0 q1 q2 q3 q4
  go_wp2_with fail
  refine (HO.out _ HB1.out).mono ?_
  rintro e w2 ⟨gb, pb, rfl, hib, hb2⟩
  have HT2 := hide (two_open (B := w0.heap.size) HE1.out.size HIA.out hib hb2 w.heap.size (by rw [HS0.out]; omega))
  have HX2 := hide (Below.row hb2 HX1.out (lt_of_row HX1.out))
  have HB2 := hide (HB1.out.trans (hb2.mono HB1.out.size))
  obtain ⟨s0', s1', s2', s3', s4'⟩ := case5 HX2.out
  clear hib hb2 r0 r1 r2 r3 r4
  go_wp2_with fail
  have HL2 := hide (LeftF.refl (fun y => y = w.heap.size) w0.heap.size w2)
  go_loopw [8] (fun i wr => ∃ k : Nat, k ≤ m ∧ i = .int .i64 k ∧ Two (fun y => y = w.heap.size) w0.heap.size wr ga gb c (stN c s0 st k) (stN c s0 st k) k k ∧ LeftF (fun y => y = w.heap.size) w0.heap.size w2 wr) (fun i _ => m - (intOf i).toNat)
  case atStart => exact ⟨0, Nat.zero_le _, rfl, HT2.out, HL2.out⟩
  case round =>
    obtain ⟨wo, rfl⟩ : ∃ x, x = wr := ⟨_, rfl⟩
    obtain ⟨k, hk, rfl, htwo, hbel⟩ := hrel
    have HTW := hide htwo
    have HLW := hide hbel
    have HXW := hide ((hbel.kept w.heap.size rfl).trans HX2.out)
    obtain ⟨t0, t1, t2, t3, t4⟩ := case5 HXW.out
    clear htwo hbel s0' s1' s2' s3' s4'
    by_cases hlt : k < m
    · have hki : (k : Int) < (m : Int) := by omega
      obtain ⟨pk, hpk, hpk2⟩ := HPL.out
      have hPK := HPK.out
      rw [hpk] at hPK
      have HPQ := hide (show ∀ w', Calls Try.prog 8 #[.int .i64 n, .int .i64 1000] w' fun e w'' => e = .returned (.int .i64 pk) ∧ w' = w'' from hPK)
      have HTD := hide (Two.below HTW.out (below_drew wo))
      have HLD := hide (HLW.out.trans (LeftF.below (below_drew wo) (Two.old HTW.out) (Two.lt HTW.out)))
      have HXD := hide (Below.row (below_drew wo) HXW.out (lt_of_row HXW.out))
      have hNO := knothing_ok (Two.swap HTD.out) (by omega) v (.slice ao m cap) ((pk : Int) + k) (by omega)
      unfold caseC at hNO
      have HNO := hide hNO
      have HWQ := hide (show IntKind.i64.wrap ((pk : Int) + (k : Int)) = (pk : Int) + k by rw [IntKind.wrap_i64]; omega)
      clear hPK hpk hNO
      go_wp2_with fail
      refine wp_region_held_drew (S := (fun w' => w'.cell? ⟨w.heap.size, 0, none⟩ = some (.int .i64 c.labels) ∧ w'.cell? ⟨w.heap.size, 1, none⟩ = some (.slice v.ea c.edges.length v.ec) ∧ w'.cell? ⟨w.heap.size, 2, none⟩ = some (.slice v.ra c.rules.length v.rc) ∧ w'.cell? ⟨w.heap.size, 3, none⟩ = some (.slice v.ga c.grants.length v.gc) ∧ w'.cell? ⟨w.heap.size, 4, none⟩ = some (.slice ao m cap))) (by kernel_rfl) ?_ (fun hHeld => ?_)
      · (try dsimp only); go_keep
      refine takeW 0 (some 44) ?_ rfl rfl (by kernel_rfl) (by kernel_rfl) (by kernel_rfl) (fun _ _ _ h => h) ?_ (by assumption) ?_
      rotate_left 1
      · (intro o ho w hSw; obtain rfl := Option.some.inj ho; clear ho; (try dsimp only at hSw); go_simp; try (with_reducible rfl))
      (try simp only [Act.put, List.setIfInBounds_toArray, List.set_cons_zero, List.set_cons_succ])
      refine takeW 1 (some 45) ?_ rfl rfl (by kernel_rfl) (by kernel_rfl) (by kernel_rfl) (fun _ _ _ h => h) ?_ (by assumption) ?_
      rotate_left 1
      · (intro o ho w hSw; obtain rfl := Option.some.inj ho; clear ho; (try dsimp only at hSw); go_simp; try (with_reducible rfl))
      (try simp only [Act.put, List.setIfInBounds_toArray, List.set_cons_zero, List.set_cons_succ])
      refine takeW 2 (some 46) ?_ rfl rfl (by kernel_rfl) (by kernel_rfl) (by kernel_rfl) (fun _ _ _ h => h) ?_ (by assumption) ?_
      rotate_left 1
      · (intro o ho w hSw; obtain rfl := Option.some.inj ho; clear ho; (try dsimp only at hSw); go_simp; try (with_reducible rfl))
      (try simp only [Act.put, List.setIfInBounds_toArray, List.set_cons_zero, List.set_cons_succ])
      refine takeW 4 (some 48) ?_ rfl rfl (by kernel_rfl) (by kernel_rfl) (by kernel_rfl) (fun _ _ _ h => h) ?_ (by assumption) ?_
      rotate_left 1
      · (intro o ho w hSw; obtain rfl := Option.some.inj ho; clear ho; (try dsimp only at hSw); go_simp; try (with_reducible rfl))
      (try simp only [Act.put, List.setIfInBounds_toArray, List.set_cons_zero, List.set_cons_succ])
      refine wpAnyH_ready (rs := [3]) (by kernel_rfl) (by simp) ?_
      refine AllReadyH.cons rfl (fun K hK => ?_) AllReadyH.nil
      go_simp
      go_wp2_with (go_at_call 8; refine (HPQ.out _).mono ?_; rintro e wz ⟨rfl, rfl⟩)
      refine hK.out _ _ ?_ (fun hHeld => ?_)
      · (try dsimp only); go_keep
      clear hK K
      refine takeW 5 (some 49) ?_ rfl rfl (by kernel_rfl) (by kernel_rfl) (by kernel_rfl) (fun _ _ _ h => h) ?_ (by assumption) ?_
      rotate_left 1
      · (intro o ho w hSw; obtain rfl := Option.some.inj ho; clear ho; (try dsimp only at hSw); go_simp; try (with_reducible rfl))
      (try simp only [Act.put, List.setIfInBounds_toArray, List.set_cons_zero, List.set_cons_succ])
      refine wpAnyH_ready (rs := [6]) (by kernel_rfl) (by simp) ?_
      refine AllReadyH.cons rfl (fun K hK => ?_) AllReadyH.nil
      go_simp
      rw [HWQ.out]
      go_wp2_with (go_at_call 22; refine (HNO.out).mono ?_; rintro e w3 ⟨rfl, ht3, hl3⟩; have HT3 := hide (Two.swap ht3); have HL3 := hide (HLD.out.trans hl3); have HX3 := hide ((hl3.kept w.heap.size rfl).trans HXD.out); obtain ⟨y0, y1, y2, y3, y4⟩ := case5 HX3.out; clear ht3 hl3)
      refine hK.out _ _ ?_ (fun hHeld => ?_)
      · exact ⟨y0, y1, y2, y3, y4⟩
      clear hK K
      refine takeW 7 (some 6) ?_ rfl rfl (by kernel_rfl) (by kernel_rfl) (by kernel_rfl) (fun _ _ _ h => h) ?_ (by assumption) ?_
      rotate_left 1
      · (intro o ho w hSw; obtain rfl := Option.some.inj ho; clear ho; (try dsimp only at hSw); go_simp; try (with_reducible rfl))
      (try simp only [Act.put, List.setIfInBounds_toArray, List.set_cons_zero, List.set_cons_succ])
      refine wpAnyH_done (by kernel_rfl) ?_ _
      clear t0 t1 t2 t3 t4 hHeld
      have hs3 := HL3.out.low.size
      have HBW := hide (HB2.out.trans (HL3.out.low.mono (by rw [HS0.out]; omega)))
      obtain ⟨b, off, hao, hbl, hcs⟩ := HST.out.resolve_left (by omega)
      obtain ⟨z0, z1, z2, z3, z4, z5⟩ := StepsAt.cells hcs HBW.out hbl k hlt
      have HZ := hide (fun (w' : World) (hb : Below w.heap.size w w') => StepsAt.cells hcs hb hbl k hlt)
      have HTB := hide (two_both HT3.out (by omega) (by omega) (st k) (HTX.out k hlt))
      have HTXk := hide (HTX.out k hlt)
      have HLE := hide (by obtain ⟨pa, pb, h1, h2, h3, h4⟩ := HT3.out; exact ans_le h1 (st k))
      have HSN := hide (show stN c s0 st (k + 1) = stepSt c (stN c s0 st k) (st k) from rfl)
      generalize hA : stepAns c (stN c s0 st k) (st k) = A at HTB HLE
      have HAE := hide hA
      have hidx : ∀ w', (Instr.indexAt 27 (.slice ao m cap) (.int .i64 (k : Int))).run Try.prog w' = .ok (.pointer (some ⟨b, off + k * 6, none⟩)) w' := by
        intro w'
        rw [hao]
        go_simp
      generalize st k = o at *
      generalize stN c s0 st k = sk at *
      clear hA hao hcs HST
      obtain ⟨kind, level, lo, hi, label, text⟩ := o
      obtain ⟨ae, an, ax, al⟩ := A
      unfold KS.cells toldC at *
      simp only at *
      go_wp2_with fail
      refine (HTB.out).mono ?_
      rintro e w4 ⟨vt, rfl, ⟨tao, tn, tcap, rfl⟩, htw4, hl4, hnext⟩
      have HT4 := hide htw4
      have HL4 := hide (HL3.out.trans hl4)
      have HX4 := hide ((hl4.kept w.heap.size rfl).trans HX3.out)
      have hnext2 := fun w2 hb => hnext w2 hb ⟨kind, level, lo, hi, label, text⟩ HTXk.out
      rw [HAE.out] at hnext2
      have HN4 := hide hnext2
      have HS4 := hide hl4.low.size
      clear htw4 hl4 hnext hnext2 z0 z1 z2 z3 z4 z5 y0 y1 y2 y3 y4
      have HBT := hide (below_box w4 (.cells #[.int .i64 ae, .int .i64 an, .string ax, .slice tao tn tcap] 37))
      have HXT := hide (Go.heap_alloc_new w4 (.cells #[.int .i64 ae, .int .i64 an, .string ax, .slice tao tn tcap] 37))
      have HX5 := hide (Below.row HBT.out HX4.out (lt_of_row HX4.out))
      obtain ⟨g0, g1, g2, g3, g4⟩ := case5 HX5.out
      have HBW5 := hide (HB2.out.trans ((HL4.out.low.trans (HBT.out.mono (Two.old HT4.out))).mono (by rw [HS0.out]; omega)))
      obtain ⟨f0, f1, f2, f3, f4, f5⟩ := HZ.out _ HBW5.out
      go_wp2_with fail
      refine (HN4.out _ HBT.out).mono ?_
      rintro e w6 ⟨vu, rfl, ⟨uao, un, ucap, rfl⟩, hot, hou, htw6, hl6, hs6, hkeep⟩
      have hx3 := (hkeep w4.heap.size HS4.out (by simp)).trans HXT.out
      have HB6 := hide (below_box w6 (.cells #[.int .i64 ae, .int .i64 an, .string ax, .slice uao un ucap] 37))
      have hx4 := Below.row HB6.out hx3 (lt_of_row hx3)
      generalize hW7 : w6.alloc (.cells #[.int .i64 ae, .int .i64 an, .string ax, .slice uao un ucap] 37) = w7 at *
      have hy4 : w7.heap[w6.heap.size]? = some (.cells #[.int .i64 ae, .int .i64 an, .string ax, .slice uao un ucap] 37 (0, 0)) := by rw [← hW7]; exact Go.heap_alloc_new w6 _
      have a0 : w7.cell? ⟨w4.heap.size, 0, none⟩ = some (.int .i64 ae) := (cell_of_row _ _ _ _ _ _ hx4).trans rfl
      have a1 : w7.cell? ⟨w4.heap.size, 1, none⟩ = some (.int .i64 an) := (cell_of_row _ _ _ _ _ _ hx4).trans rfl
      have a2 : w7.cell? ⟨w4.heap.size, 2, none⟩ = some (.string ax) := (cell_of_row _ _ _ _ _ _ hx4).trans rfl
      have a3 : w7.cell? ⟨w4.heap.size, 3, none⟩ = some (.slice tao tn tcap) := (cell_of_row _ _ _ _ _ _ hx4).trans rfl
      have b0 : w7.cell? ⟨w6.heap.size, 0, none⟩ = some (.int .i64 ae) := (cell_of_row _ _ _ _ _ _ hy4).trans rfl
      have b1 : w7.cell? ⟨w6.heap.size, 1, none⟩ = some (.int .i64 an) := (cell_of_row _ _ _ _ _ _ hy4).trans rfl
      have b2 : w7.cell? ⟨w6.heap.size, 2, none⟩ = some (.string ax) := (cell_of_row _ _ _ _ _ _ hy4).trans rfl
      have b3 : w7.cell? ⟨w6.heap.size, 3, none⟩ = some (.slice uao un ucap) := (cell_of_row _ _ _ _ _ _ hy4).trans rfl
      have HSM := hide (ksame_eq ae an ax al _ _ _ _ w7 (hot.below HB6.out) (hou.below HB6.out) HLE.out)
      have HT7 := hide (Two.below htw6 HB6.out)
      have HL7 := hide ((HL3.out.trans hl6).trans (LeftF.below HB6.out (Two.old htw6) (Two.lt htw6)))
      clear hot hou htw6 hl6 hs6 hkeep hx3 hx4 hy4 f0 f1 f2 f3 f4 f5 g0 g1 g2 g3 g4
      unfold toldC at *
      go_wp2_with fail
      refine (HSM.out).mono ?_
      rintro e w8 ⟨rfl, hb8⟩
      have HT8 := hide (Two.below HT7.out hb8)
      have HL8 := hide (HL7.out.trans (LeftF.below hb8 (Two.old HT7.out) (Two.lt HT7.out)))
      clear a0 a1 a2 a3 b0 b1 b2 b3
      rw [← HSN.out] at HT8
      go_wp2
      go_roundw
      case rel => exact ⟨k + 1, by omega, by go_num, HT8.out, HL8.out⟩
      case measure => simp [intOf]; omega
    · obtain rfl : k = m := by omega
      have hkc : decide ((k : Int) < (k : Int)) = false := by simp
      obtain ⟨_, _, _, _, hc, hn6, _⟩ := labels_of HTW.out.right.labels
      have HCN := hide hc
      have hn6' := hn6
      clear hc hn6
      go_wp2_with fail
      go_loopw [12] (fun i wr => ∃ j : Nat, j ≤ c.n ∧ i = .int .i64 j ∧ (∃ s', Two (fun y => y = w.heap.size) w0.heap.size wr ga gb c s' s' (k + 6 * j) (k + 6 * j)) ∧ LeftF (fun y => y = w.heap.size) w0.heap.size w2 wr) (fun i _ => c.n - (intOf i).toNat)
      case atStart => exact ⟨0, Nat.zero_le _, rfl, ⟨_, HTW.out⟩, HLW.out⟩
      case round =>
        obtain ⟨wi, rfl⟩ : ∃ x, x = wr := ⟨_, rfl⟩
        obtain ⟨j, hj, rfl, ⟨sj, htwo⟩, hleft⟩ := hrel
        have HTJ := hide htwo
        have HLJ := hide hleft
        have HXJ := hide ((hleft.kept w.heap.size rfl).trans HX2.out)
        obtain ⟨y0, y1, y2, y3, y4⟩ := case5 HXJ.out
        rw [← HCN.out] at y0
        clear htwo hleft t0 t1 t2 t3 t4
        by_cases hjl : j < c.n
        · have hji : (j : Int) < (c.n : Int) := by omega
          have HAL := hide (kalike_eq HTJ.out j hjl (by omega) (by omega))
          go_wp2_with fail
          refine (HAL.out).mono ?_
          rintro e w3 ⟨rfl, ht3, hl3⟩
          have HT3 := hide ht3
          have HL3 := hide (HLJ.out.trans hl3)
          clear ht3 hl3 y0 y1 y2 y3 y4
          rw [show k + 6 * j + 6 = k + 6 * (j + 1) by omega] at HT3
          go_wp2
          go_roundw
          case rel => exact ⟨j + 1, by omega, by go_num, ⟨_, HT3.out⟩, HL3.out⟩
          case measure => simp [intOf]; omega
        · obtain rfl : j = c.n := by omega
          have hkc : decide ((c.n : Int) < (c.n : Int)) = false := by simp
          have HBE := hide (HB2.out.trans (HLJ.out.low.mono (by rw [HS0.out]; omega)))
          go_wp2
          go_ret
          exact ⟨rfl, HBE.out⟩
set_option maxRecDepth 100000 in
set_option maxHeartbeats 4000000 in
theorem krefused_no (c : Cfg) (v : CfgV) (sv : Value) (n : Int) (w : World)
    (hO : ∀ w', Below w.heap.size w w' → Calls Try.prog 7 #[.agg (caseC c v sv)] w' fun e w'' => e = .returned (.tuple #[.pointer none, .bool true]) ∧ Below w'.heap.size w' w'') :
    Calls Try.prog 6 #[.agg (caseC c v sv), .int .i64 n] w fun e w' => e = .returned (.bool true) ∧ Below w.heap.size w w' := by
  have HO := hide hO
  have HX0 := hide (Go.heap_alloc_new w (.cells (caseC c v sv) 29))
  have HB0 := hide (below_box w (.cells (caseC c v sv) 29))
  clear hO
  unfold caseC at *
  obtain ⟨q0, q1, q2, q3, q4⟩ := case5 HX0.out
  go_enter Try.func6, Try.ntmps6
  go_wp2_with fail
  refine (HO.out _ HB0.out).mono ?_
  rintro e w1 ⟨rfl, hb1⟩
  have HB1 := hide (HB0.out.trans (hb1.mono HB0.out.size))
  clear hb1 q0 q1 q2 q3 q4
  go_wp2
  go_ret
  exact ⟨rfl, HB1.out⟩
theorem krefused_any (c : Cfg) (v : CfgV) (ao : Option Addr) (m cap : Nat) (st : Nat → KS) (n : Int) (w : World) (hok : CfgOk c) (hat : CfgAt w c v) (hcap : c.rules.length ≤ v.rc) (hst : StepsAt w ao m st) (hm : m ≤ 2513169434916) (htx : ∀ i, i < m → (st i).text.size ≤ 140737488355328) (hn : -9223372036854775808 ≤ n ∧ n ≤ 9223372036854775807) :
    Calls Try.prog 6 #[.agg (caseC c v (.slice ao m cap)), .int .i64 n] w fun e w' => e = .returned (.bool true) ∧ Below w.heap.size w w' := by
  obtain ⟨k, hk⟩ := kcheck_ex c
  by_cases h0 : k = 0
  · subst h0
    obtain ⟨_, _, _, _, hc, hn6, hn1⟩ := labels_of (right_of hk).labels
    exact krefused_walk c v ao m cap st n w stZ (fun w' hb => kopen_ok c v _ w' hok (hat.below hb) hcap hk) hst hm htx hn
  · exact krefused_no c v _ n w (fun w' hb => kopen_no c v _ k w' hok (hat.below hb) hcap hk h0)
end Go.Proofs.Ytgigkiocdiffjab
