/- veilkeep.Purged. -/
import Derived.Test.YtgigkiocdiffjabKalike
import Derived.Test.YtgigkiocdiffjabKleaks
import Derived.Test.YtgigkiocdiffjabUKeepP
import Derived.Test.YtgigkiocdiffjabKpurx
import Derived.Test.YtgigkiocdiffjabUOpenCase
import Derived.Test.YtgigkiocdiffjabKcheck
namespace Go.Proofs.Ytgigkiocdiffjab
open Go.RowKit Veil
theorem case5 {w : World} {g : Nat} {a b d e f : Value} {ty : TypeId} (h : w.heap[g]? = some (.cells #[a, b, d, e, f] ty (0, 0))) : w.cell? ⟨g, 0, none⟩ = some a ∧ w.cell? ⟨g, 1, none⟩ = some b ∧ w.cell? ⟨g, 2, none⟩ = some d ∧ w.cell? ⟨g, 3, none⟩ = some e ∧ w.cell? ⟨g, 4, none⟩ = some f := rows5 h
theorem two_open {B ga gb : Nat} {w1 w2 : World} {c : Cfg} {s : PSt} {pa pb : PV} (hB : B ≤ w1.heap.size) (ha : PInv B w1 ga c s pa 0) (hb : PInv w1.heap.size w2 gb c s pb 0) (hbel : Below w1.heap.size w1 w2) (x : Nat) (hx : x < B) : Two (fun y => y = x) B w2 ga gb c s s 0 0 := by
  refine ⟨pa, pb, ha.below hbel, hb.base hB, fun y i j hi hj => ?_, fun y hy => ⟨?_, fun i hi => ?_, fun j hj => ?_⟩⟩
  · have := (ha.own.low i y hi).2
    have := (hb.own.low j y hj).1
    omega
  · have := hbel.size
    omega
  · have := (ha.own.low i y hi).1
    omega
  · have := (hb.own.low j y hj).1
    omega
theorem Two.rowGood {F : Nat → Prop} {B ga gb ka kb : Nat} {w : World} {c : Cfg} {s s' : PSt} (h : Two F B w ga gb c s s' ka kb) : RowGood c s.row := by
  obtain ⟨pa, pb, h1, h2, h3, h4⟩ := h
  exact h1.rowGood
theorem pur_zero (c : Cfg) (z : Nat) : Pur c z stZ stZ := ⟨rfl, fun _ _ => rfl, fun _ _ _ => rfl, fun _ _ _ => rfl⟩
theorem tr_of {c : Cfg} (h : Right c) : Tr c := ⟨fun ha hb h1 h2 => le_trans' h ha hb h1 h2⟩
/-- A level at most z asks. -/
theorem pur_ask {c : Cfg} {z lv : Nat} {s s' : PSt} (h : Pur c z s s') (ht : Tr c) (hr : CfgRight c) (hn : (c.n : Int) = c.labels) (hg : RowGood c s.row) (hlv : lv < c.n) (hz : c.le lv z = true) : (∀ k : Nat, stepAns c s' (askK k lv) = stepAns c s (askK k lv)) ∧ Pur c z (polled s lv) (polled s' lv) := by
  have hok : okL c.labels (lv : Int) = true := by
    rw [← hn]
    simp [okL]
    omega
  refine ⟨fun k => (pur_in h ht hr hn hg (askK k lv) hok hz).1, ?_⟩
  have h10 := (pur_in h ht hr hn hg (askK 10 lv) hok hz).2
  have e : ∀ s : PSt, stepSt c s (askK 10 lv) = polled s lv := fun s => ask_st (s := s) (k := 10) hn hlv (by decide) (by decide)
  rw [e, e] at h10
  exact h10
theorem purged_in {c : Cfg} {level : Int} {z : Nat} (hn : (c.n : Int) = c.labels) (h : seesB c level z = true) : okL c.labels level = true ∧ c.le level.toNat z = true := by
  unfold seesB at h
  obtain ⟨h1, h2⟩ := Bool.and_eq_true_iff.1 h
  obtain ⟨_, hle⟩ := okL_nt hn h1
  exact ⟨h1, by rw [← hle]; exact h2⟩
theorem purged_out {c : Cfg} {level : Int} {z : Nat} (hn : (c.n : Int) = c.labels) (h : seesB c level z = false) (hl : okL c.labels level = true) : c.le level.toNat z = false := by
  unfold seesB at h
  rw [hl, Bool.true_and] at h
  obtain ⟨_, hle⟩ := okL_nt hn hl
  rw [← hle]
  exact h
theorem purged_leak {c : Cfg} {kind level lo hi label : Int} {text : ByteArray} {z : Nat} (hn : (c.n : Int) = c.labels) (h : seesB c level z = false) (hk : leakB c ⟨kind, level, lo, hi, label, text⟩ z = false) (k4 : kind = 4) (hl : okL c.labels level = true) (hb : okL c.labels label = true) : c.le label.toNat z = false := by
  have h1 := purged_out hn h hl
  obtain ⟨_, hle⟩ := okL_nt hn hl
  obtain ⟨_, hlb⟩ := okL_nt hn hb
  unfold leakB at hk
  simp only [k4, hl, hb] at hk
  rw [hle, h1] at hk
  rw [← hlb]
  simpa using hk
set_option maxRecDepth 100000 in
set_option maxHeartbeats 8000000 in
theorem kpurged_walk (c : Cfg) (v : CfgV) (ao : Option Addr) (m cap : Nat) (st : Nat → KS) (n : Int) (w : World) (hr : Right c) (hat : CfgAt w c v)
    (hO : ∀ w', Below w.heap.size w w' → Calls Try.prog 7 #[.agg (caseC c v (.slice ao m cap))] w' fun e w'' => ∃ g p, e = .returned (.tuple #[.pointer (some ⟨g, 0, none⟩), .bool true]) ∧ PInv w'.heap.size w'' g c stZ p 0 ∧ Below w'.heap.size w' w'')
    (hst : StepsAt w ao m st) (hm : m ≤ 2513169434916) (htx : ∀ i, i < m → (st i).text.size ≤ 140737488355328) (hn : -9223372036854775808 ≤ n ∧ n ≤ 9223372036854775807) :
    Calls Try.prog 5 #[.agg (caseC c v (.slice ao m cap)), .int .i64 n] w fun e w' => e = .returned (.bool true) ∧ Below w.heap.size w w' := by
  obtain ⟨_, _, _, _, hcn, hn6, hn1⟩ := labels_of hr.labels
  have HCN := hide hcn
  have HO := hide hO
  have HST := hide hst
  have HTX := hide htx
  obtain ⟨z, hp, hz⟩ := pickK_lt (n := c.n) hn.1 (by omega)
  have hP := fun w' => kpick_any n c.n w' hn (by omega) (by omega)
  rw [hp, hcn] at hP
  have HP := hide hP
  have HLK := hide (fun (o : KS) (w' : World) (hb : Below w.heap.size w w') => kleaks_any c v hr (.slice ao m cap) o z w' (hat.below hb) hz)
  have HSE := hide (fun (a : Int) (w' : World) (hb : Below w.heap.size w w') => ksees_any c v hr a z w' (hat.below hb) hz)
  have HBL := hide (fun (a : Nat) (ha : a < c.n) (w' : World) (hb : Below w.heap.size w w') => kbelow_lt c v hr a z w' (hat.below hb) ha hz)
  have HTR := hide (tr_of hr)
  have HX0 := hide (Go.heap_alloc_new w (.cells (caseC c v (.slice ao m cap)) 29))
  have HB0 := hide (below_box w (.cells (caseC c v (.slice ao m cap)) 29))
  clear hO hst htx hn hcn hP hp hr hat
  unfold cfgCells caseC at *
  obtain ⟨q0, q1, q2, q3, q4⟩ := case5 HX0.out
  go_enter Try.func5, Try.ntmps5
  go_wp2_with fail
  generalize hW0 : w.alloc (.cells #[.int .i64 c.labels, .slice v.ea c.edges.length v.ec, .slice v.ra c.rules.length v.rc, .slice v.ga c.grants.length v.gc, .slice ao m cap] 29) = w0 at *
  have hs0 : w0.heap.size = w.heap.size + 1 := by rw [← hW0]; simp
  have HS0 := hide hs0
  clear hs0 hW0
  refine (HO.out _ HB0.out).mono ?_
  rintro e w1 ⟨ga, pa, rfl, hia, hb1⟩
  have HIA := hide hia
  have HE1 := hide hb1
  have HX1 := hide (Below.row hb1 HX0.out (lt_of_row HX0.out))
  have HB1 := hide (HB0.out.trans (hb1.mono HB0.out.size))
  clear hia hb1 q0 q1 q2 q3 q4
  obtain ⟨q0, q1, q2, q3, q4⟩ := case5 HX1.out
  go_wp2_with fail
  refine (HO.out _ HB1.out).mono ?_
  rintro e w2 ⟨gb, pb, rfl, hib, hb2⟩
  have HT2 := hide (two_open (B := w0.heap.size) HE1.out.size HIA.out hib hb2 w.heap.size (by rw [HS0.out]; omega))
  have HX2 := hide (Below.row hb2 HX1.out (lt_of_row HX1.out))
  have HB2 := hide (HB1.out.trans (hb2.mono HB1.out.size))
  clear hib hb2 q0 q1 q2 q3 q4
  obtain ⟨q0, q1, q2, q3, q4⟩ := case5 HX2.out
  go_wp2_with fail
  refine (HP.out _).mono ?_
  rintro e wz ⟨rfl, rfl⟩
  have HL2 := hide (LeftF.refl (fun y => y = w.heap.size) w0.heap.size w2)
  go_wp2_with fail
  go_loopw [8] (fun i wr => ∃ (k : Nat) (sa sb : PSt) (ka kb : Nat), k ≤ m ∧ i = .int .i64 k ∧ ka ≤ k ∧ kb ≤ k ∧ Two (fun y => y = w.heap.size) w0.heap.size wr ga gb c sa sb ka kb ∧ Pur c z sa sb ∧ LeftF (fun y => y = w.heap.size) w0.heap.size w2 wr) (fun i _ => m - (intOf i).toNat)
  case atStart => exact ⟨0, _, _, 0, 0, Nat.zero_le _, rfl, Nat.le_refl _, Nat.le_refl _, HT2.out, pur_zero c z, HL2.out⟩
  case round =>
    obtain ⟨wo, rfl⟩ : ∃ x, x = wr := ⟨_, rfl⟩
    obtain ⟨k, sa, sb, ka, kb, hk, rfl, hka, hkb, htwo, hpur, hleft⟩ := hrel
    have HTW := hide htwo
    have HPU := hide hpur
    have HLW := hide hleft
    have HXW := hide ((hleft.kept w.heap.size rfl).trans HX2.out)
    have HBW := hide (HB2.out.trans (hleft.low.mono (by rw [HS0.out]; omega)))
    clear htwo hpur hleft q0 q1 q2 q3 q4
    obtain ⟨q0, q1, q2, q3, q4⟩ := case5 HXW.out
    by_cases hlt : k < m
    · have hki : (k : Int) < (m : Int) := by omega
      obtain ⟨b, off, hao, hbl, hcs⟩ := HST.out.resolve_left (by omega)
      obtain ⟨z0, z1, z2, z3, z4, z5⟩ := StepsAt.cells hcs HBW.out hbl k hlt
      have HTXk := hide (HTX.out k hlt)
      have hidx : ∀ w', (Instr.indexAt 27 (.slice ao m cap) (.int .i64 (k : Int))).run Try.prog w' = .ok (.pointer (some ⟨b, off + k * 6, none⟩)) w' := by
        intro w'
        rw [hao]
        go_simp
      generalize st k = o at *
      clear hao hcs
      obtain ⟨kind, level, lo, hi, label, text⟩ := o
      simp only at z0 z1 z2 z3 z4 z5 HTXk
      have HBo := hide (below_box wo (.cells #[.int .i64 kind, .int .i64 level, .int .i64 lo, .int .i64 hi, .int .i64 label, .string text] 40))
      have HXo := hide (Go.heap_alloc_new wo (.cells #[.int .i64 kind, .int .i64 level, .int .i64 lo, .int .i64 hi, .int .i64 label, .string text] 40))
      have HX1' := hide (Below.row HBo.out HXW.out (lt_of_row HXW.out))
      have HTo := hide (Two.new (F' := fun y => y = w.heap.size ∨ y = wo.heap.size) HTW.out HBo.out (fun x hx => hx.imp id (fun e => ⟨by omega, by simp; omega⟩)))
      have HLo := hide (HLW.out.trans (LeftF.below HBo.out (Two.old HTW.out) (Two.lt HTW.out)))
      have HBWo := hide (HBW.out.trans (HBo.out.mono HBW.out.size))
      obtain ⟨r0, r1, r2, r3, r4⟩ := case5 HX1'.out
      obtain ⟨o0, o1, o2, o3, o4, o5⟩ := rows6 HXo.out
      go_wp2_with fail
      generalize hWo : wo.alloc (.cells #[.int .i64 kind, .int .i64 level, .int .i64 lo, .int .i64 hi, .int .i64 label, .string text] 40) = wp at *
      clear hWo q0 q1 q2 q3 q4 z0 z1 z2 z3 z4 z5
      refine (HLK.out ⟨kind, level, lo, hi, label, text⟩ wp HBWo.out).mono ?_
      rintro e w3 ⟨rfl, hb3⟩
      have HX3 := hide (Below.row hb3 HX1'.out (lt_of_row HX1'.out))
      have HY3 := hide (Below.row hb3 HXo.out (lt_of_row HXo.out))
      have HT3 := hide (Two.below HTo.out hb3)
      have HL3 := hide (HLo.out.trans (LeftF.below hb3 (Two.old HTo.out) (fun x hx => Two.lt HTo.out x (Or.inl hx))))
      have HB3 := hide (HBWo.out.trans (hb3.mono HBWo.out.size))
      clear hb3 r0 r1 r2 r3 r4 o0 o1 o2 o3 o4 o5
      obtain ⟨q0, q1, q2, q3, q4⟩ := case5 HX3.out
      obtain ⟨o0, o1, o2, o3, o4, o5⟩ := rows6 HY3.out
      cases hlk : leakB c ⟨kind, level, lo, hi, label, text⟩ z
      rotate_left 1
      · clear hlk
        go_wp2
        go_roundw
        case rel => exact ⟨k + 1, sa, sb, ka, kb, by omega, by go_num, by omega, by omega, Two.sub HT3.out (fun x hx => Or.inl hx), HPU.out, HL3.out⟩
        case measure => simp [intOf]; omega
      have HLB := hide hlk
      have HTB := hide (two_both HT3.out (by omega) (by omega) ⟨kind, level, lo, hi, label, text⟩ HTXk.out)
      have HLE := hide (by obtain ⟨pa, pb, h1, h2, h3, h4⟩ := HT3.out; exact ans_le h1 ⟨kind, level, lo, hi, label, text⟩)
      generalize hA : stepAns c sa ⟨kind, level, lo, hi, label, text⟩ = A at HTB HLE
      have HAE := hide hA
      clear hA hlk
      obtain ⟨ae, an, ax, al⟩ := A
      unfold KS.cells toldC at *
      simp only at HTB HLE
      go_wp2_with fail
      refine (HTB.out).mono ?_
      rintro e w4 ⟨vt, rfl, ⟨tao, tn, tcap, rfl⟩, htw4, hl4, hnext⟩
      have HT4 := hide htw4
      have HL4 := hide (HL3.out.trans (hl4.sub (fun x hx => Or.inl hx)))
      have HX4 := hide ((hl4.kept w.heap.size (Or.inl rfl)).trans HX3.out)
      have HY4 := hide ((hl4.kept wo.heap.size (Or.inr rfl)).trans HY3.out)
      have HN4 := hide (fun w2 hb => hnext w2 hb ⟨kind, level, lo, hi, label, text⟩ HTXk.out)
      have HS4 := hide hl4.low.size
      have HL34 := hide hl4
      clear htw4 hl4 hnext q0 q1 q2 q3 q4 o0 o1 o2 o3 o4 o5
      have HBT := hide (below_box w4 (.cells #[.int .i64 ae, .int .i64 an, .string ax, .slice tao tn tcap] 37))
      have HXT := hide (Go.heap_alloc_new w4 (.cells #[.int .i64 ae, .int .i64 an, .string ax, .slice tao tn tcap] 37))
      have HX5 := hide (Below.row HBT.out HX4.out (lt_of_row HX4.out))
      have HY5 := hide (Below.row HBT.out HY4.out (lt_of_row HY4.out))
      obtain ⟨q0, q1, q2, q3, q4⟩ := case5 HX5.out
      obtain ⟨o0, o1, o2, o3, o4, o5⟩ := rows6 HY5.out
      have HB5 := hide (HB2.out.trans ((HL4.out.low.trans (HBT.out.mono (Two.old HT4.out))).mono (by rw [HS0.out]; omega)))
      have HT5 := hide (Two.below HT4.out HBT.out)
      have HL5 := hide (HL4.out.trans (LeftF.below HBT.out (Two.old HT4.out) (fun x hx => Two.lt HT4.out x (Or.inl hx))))
      go_wp2_with fail
      generalize hW5 : w4.alloc (.cells #[.int .i64 ae, .int .i64 an, .string ax, .slice tao tn tcap] 37) = w5 at *
      have hs5 : w5.heap.size = w4.heap.size + 1 := by rw [← hW5]; simp
      have HS5 := hide hs5
      clear hW5 hs5
      refine (HSE.out level w5 HB5.out).mono ?_
      rintro e w6 ⟨rfl, hb6⟩
      have HX6 := hide (Below.row hb6 HX5.out (lt_of_row HX5.out))
      have HY6 := hide (Below.row hb6 HY5.out (lt_of_row HY5.out))
      have HXT6 := hide (Below.row hb6 HXT.out (by rw [HS5.out]; omega))
      have HT6 := hide (Two.below HT5.out hb6)
      have HL6 := hide (HL5.out.trans (LeftF.below hb6 (Two.old HT5.out) (fun x hx => Two.lt HT5.out x (Or.inl hx))))
      have HB46 := hide (HBT.out.trans (hb6.mono HBT.out.size))
      clear hb6 q0 q1 q2 q3 q4 o0 o1 o2 o3 o4 o5
      obtain ⟨q0, q1, q2, q3, q4⟩ := case5 HX6.out
      obtain ⟨o0, o1, o2, o3, o4, o5⟩ := rows6 HY6.out
      have HS46 := hide HB46.out.size
      cases hse : seesB c level z
      · have HPO := hide (pur_out HPU.out HTR.out HCN.out ⟨kind, level, lo, hi, label, text⟩ (purged_out HCN.out hse) (purged_leak HCN.out hse HLB.out))
        clear hse
        go_wp2
        go_roundw
        case rel => exact ⟨k + 1, _, sb, ka + 1, kb, by omega, by go_num, by omega, by omega, Two.sub HT6.out (fun x hx => Or.inl hx), HPO.out, HL6.out⟩
        case measure => simp [intOf]; omega
      have HPI := hide (pur_in HPU.out HTR.out (Two.right HT3.out) HCN.out (Two.rowGood HT3.out) ⟨kind, level, lo, hi, label, text⟩ (purged_in HCN.out hse).1 (purged_in HCN.out hse).2)
      have hn4 := HN4.out
      rw [HPI.out.1, HAE.out] at hn4
      have HN5 := hide hn4
      clear hn4 HN4 hse
      go_wp2_with fail
      refine (HN5.out _ HB46.out).mono ?_
      rintro e w7 ⟨vu, rfl, ⟨uao, un, ucap, rfl⟩, hot, hou, htw7, hl7, hs7, hkeep⟩
      have hx3 := (hkeep w4.heap.size HS4.out (by have := HS46.out; have := HS5.out; have := lt_of_row HXT6.out; omega)).trans HXT6.out
      have HB8 := hide (below_box w7 (.cells #[.int .i64 ae, .int .i64 an, .string ax, .slice uao un ucap] 37))
      have hx4 := Below.row HB8.out hx3 (lt_of_row hx3)
      generalize hW8 : w7.alloc (.cells #[.int .i64 ae, .int .i64 an, .string ax, .slice uao un ucap] 37) = w8 at *
      have hy4 : w8.heap[w7.heap.size]? = some (.cells #[.int .i64 ae, .int .i64 an, .string ax, .slice uao un ucap] 37 (0, 0)) := by rw [← hW8]; exact Go.heap_alloc_new w7 _
      have a0 : w8.cell? ⟨w4.heap.size, 0, none⟩ = some (.int .i64 ae) := (cell_of_row _ _ _ _ _ _ hx4).trans rfl
      have a1 : w8.cell? ⟨w4.heap.size, 1, none⟩ = some (.int .i64 an) := (cell_of_row _ _ _ _ _ _ hx4).trans rfl
      have a2 : w8.cell? ⟨w4.heap.size, 2, none⟩ = some (.string ax) := (cell_of_row _ _ _ _ _ _ hx4).trans rfl
      have a3 : w8.cell? ⟨w4.heap.size, 3, none⟩ = some (.slice tao tn tcap) := (cell_of_row _ _ _ _ _ _ hx4).trans rfl
      have b0 : w8.cell? ⟨w7.heap.size, 0, none⟩ = some (.int .i64 ae) := (cell_of_row _ _ _ _ _ _ hy4).trans rfl
      have b1 : w8.cell? ⟨w7.heap.size, 1, none⟩ = some (.int .i64 an) := (cell_of_row _ _ _ _ _ _ hy4).trans rfl
      have b2 : w8.cell? ⟨w7.heap.size, 2, none⟩ = some (.string ax) := (cell_of_row _ _ _ _ _ _ hy4).trans rfl
      have b3 : w8.cell? ⟨w7.heap.size, 3, none⟩ = some (.slice uao un ucap) := (cell_of_row _ _ _ _ _ _ hy4).trans rfl
      have HSM := hide (ksame_eq ae an ax al _ _ _ _ w8 (hot.below HB8.out) (hou.below HB8.out) HLE.out)
      have HT8 := hide (Two.below htw7 HB8.out)
      have HL8 := hide (HL3.out.trans ((hl7.sub (fun x hx => Or.inl hx)).trans (LeftF.below HB8.out (Two.old htw7) (fun x hx => Two.lt htw7 x (Or.inl hx)))))
      clear hot hou htw7 hl7 hs7 hkeep hx3 hx4 hy4 q0 q1 q2 q3 q4 o0 o1 o2 o3 o4 o5
      unfold toldC at *
      go_wp2_with fail
      refine (HSM.out).mono ?_
      rintro e w9 ⟨rfl, hb9⟩
      have HT9 := hide (Two.below HT8.out hb9)
      have HL9 := hide (HL8.out.trans (LeftF.below hb9 (Two.old HT8.out) (fun x hx => Two.lt HT8.out x (Or.inl hx))))
      clear a0 a1 a2 a3 b0 b1 b2 b3
      go_wp2
      go_roundw
      case rel => exact ⟨k + 1, _, _, ka + 1, kb + 1, by omega, by go_num, by omega, by omega, Two.sub HT9.out (fun x hx => Or.inl hx), HPI.out.2, HL9.out⟩
      case measure => simp [intOf]; omega
    · obtain rfl : k = m := by omega
      have hkc : decide ((k : Int) < (k : Int)) = false := by simp
      go_wp2_with fail
      go_loopw [15] (fun i wr => ∃ (j : Nat) (sa sb : PSt) (ka kb : Nat), j ≤ c.n ∧ i = .int .i64 j ∧ ka ≤ k + 6 * j ∧ kb ≤ k + 6 * j ∧ Two (fun y => y = w.heap.size) w0.heap.size wr ga gb c sa sb ka kb ∧ Pur c z sa sb ∧ LeftF (fun y => y = w.heap.size) w0.heap.size w2 wr) (fun i _ => c.n - (intOf i).toNat)
      case atStart => exact ⟨0, _, _, ka, kb, Nat.zero_le _, rfl, by omega, by omega, HTW.out, HPU.out, HLW.out⟩
      case round =>
        obtain ⟨wi, rfl⟩ : ∃ x, x = wr := ⟨_, rfl⟩
        obtain ⟨j, sa, sb, ka, kb, hj, rfl, hka, hkb, htwo, hpur, hleft⟩ := hrel
        have HTJ := hide htwo
        have HPJ := hide hpur
        have HLJ := hide hleft
        have HXJ := hide ((hleft.kept w.heap.size rfl).trans HX2.out)
        have HBJ := hide (HB2.out.trans (hleft.low.mono (by rw [HS0.out]; omega)))
        clear htwo hpur hleft q0 q1 q2 q3 q4
        obtain ⟨y0, y1, y2, y3, y4⟩ := case5 HXJ.out
        by_cases hjl : j < c.n
        · have hji : (j : Int) < c.labels := by rw [← HCN.out]; omega
          go_wp2_with fail
          refine (HBL.out j hjl wi HBJ.out).mono ?_
          rintro e w3 ⟨rfl, hb3⟩
          have HT3 := hide (Two.below HTJ.out hb3)
          have HL3 := hide (HLJ.out.trans (LeftF.below hb3 (Two.old HTJ.out) (Two.lt HTJ.out)))
          clear hb3 y0 y1 y2 y3 y4
          cases hle : c.le j z
          · clear hle
            go_wp2
            go_roundw
            case rel => exact ⟨j + 1, sa, sb, ka, kb, by omega, by go_num, by omega, by omega, HT3.out, HPJ.out, HL3.out⟩
            case measure => simp [intOf]; omega
          · have HPA := hide (pur_ask HPJ.out HTR.out (Two.right HT3.out) HCN.out (Two.rowGood HT3.out) hjl hle)
            have HAL := hide (kalike_any HT3.out j hjl (by omega) (by omega) HPA.out.1)
            clear hle
            go_wp2_with fail
            refine (HAL.out).mono ?_
            rintro e w4 ⟨rfl, ht4, hl4⟩
            have HT4 := hide ht4
            have HL4 := hide (HL3.out.trans hl4)
            clear ht4 hl4
            go_wp2
            go_roundw
            case rel => exact ⟨j + 1, _, _, ka + 6, kb + 6, by omega, by go_num, by omega, by omega, HT4.out, HPA.out.2, HL4.out⟩
            case measure => simp [intOf]; omega
        · obtain rfl : j = c.n := by omega
          have hkc : decide ((c.n : Int) < c.labels) = false := by rw [← HCN.out]; simp
          go_wp2
          go_ret
          exact ⟨rfl, HBJ.out⟩
set_option maxRecDepth 100000 in
set_option maxHeartbeats 4000000 in
theorem kpurged_no (c : Cfg) (v : CfgV) (sv : Value) (n : Int) (w : World)
    (hO : ∀ w', Below w.heap.size w w' → Calls Try.prog 7 #[.agg (caseC c v sv)] w' fun e w'' => e = .returned (.tuple #[.pointer none, .bool true]) ∧ Below w'.heap.size w' w'') :
    Calls Try.prog 5 #[.agg (caseC c v sv), .int .i64 n] w fun e w' => e = .returned (.bool true) ∧ Below w.heap.size w w' := by
  have HO := hide hO
  have HX0 := hide (Go.heap_alloc_new w (.cells (caseC c v sv) 29))
  have HB0 := hide (below_box w (.cells (caseC c v sv) 29))
  clear hO
  unfold caseC at *
  obtain ⟨q0, q1, q2, q3, q4⟩ := case5 HX0.out
  go_enter Try.func5, Try.ntmps5
  go_wp2_with fail
  refine (HO.out _ HB0.out).mono ?_
  rintro e w1 ⟨rfl, hb1⟩
  have HB1 := hide (HB0.out.trans (hb1.mono HB0.out.size))
  clear hb1 q0 q1 q2 q3 q4
  go_wp2
  go_ret
  exact ⟨rfl, HB1.out⟩
theorem kpurged_any (c : Cfg) (v : CfgV) (ao : Option Addr) (m cap : Nat) (st : Nat → KS) (n : Int) (w : World) (hok : CfgOk c) (hat : CfgAt w c v) (hcap : c.rules.length ≤ v.rc) (hst : StepsAt w ao m st) (hm : m ≤ 2513169434916) (htx : ∀ i, i < m → (st i).text.size ≤ 140737488355328) (hn : -9223372036854775808 ≤ n ∧ n ≤ 9223372036854775807) :
    Calls Try.prog 5 #[.agg (caseC c v (.slice ao m cap)), .int .i64 n] w fun e w' => e = .returned (.bool true) ∧ Below w.heap.size w w' := by
  obtain ⟨k, hk⟩ := kcheck_ex c
  by_cases h0 : k = 0
  · subst h0
    exact kpurged_walk c v ao m cap st n w (right_of hk) hat (fun w' hb => kopen_ok c v _ w' hok (hat.below hb) hcap hk) hst hm htx hn
  · exact kpurged_no c v _ n w (fun w' hb => kopen_no c v _ k w' hok (hat.below hb) hcap hk h0)
end Go.Proofs.Ytgigkiocdiffjab
