/- veilkeep.moved. -/
import Derived.Test.YtgigkiocdiffjaaGreatSKsees
import Derived.Test.YtgigkiocdiffjaaGreatKchanged
import Derived.Test.YtgigkiocdiffjaaGreatSKopen
import Derived.Test.YtgigkiocdiffjaaGreatS07
import Derived.Deep.RegionHeld
namespace Go.Proofs.YtgigkiocdiffjaaGreat
open Go.RowKit Veil
/-- The views of all levels behind a step, by those ahead of it. -/
structure MovOk (c : Cfg) (o : KS) (e : Int) (was now : List ByteArray) : Prop where
  same : ∀ (d : Nat) (a b : ByteArray), was[d]? = some a → now[d]? = some b → (editB o e && seesB c (byI o) d) = false → b = a
  chg : ∀ (d : Nat) (a b : ByteArray), was[d]? = some a → now[d]? = some b → (editB o e && seesB c (byI o) d) = true → ChgOk o a b ∧ a.size ≤ 1200 ∧ b.size ≤ 1200 ∧ (o.kind = 1 → o.text.size ≤ 1000000)
theorem case_rows {w : World} {g : Nat} {c : Cfg} {v : CfgV} {sv : Value} {ty : TypeId} (h : w.heap[g]? = some (.cells #[.int .i64 c.labels, .slice v.ea c.edges.length v.ec, .slice v.ra c.rules.length v.rc, .slice v.ga c.grants.length v.gc, sv] ty (0, 0))) : w.cell? ⟨g, 0, none⟩ = some (.int .i64 c.labels) ∧ w.cell? ⟨g, 1, none⟩ = some (.slice v.ea c.edges.length v.ec) ∧ w.cell? ⟨g, 2, none⟩ = some (.slice v.ra c.rules.length v.rc) ∧ w.cell? ⟨g, 3, none⟩ = some (.slice v.ga c.grants.length v.gc) ∧ w.cell? ⟨g, 4, none⟩ = some sv :=
  ⟨(cell_of_row _ _ _ _ _ _ h).trans rfl, (cell_of_row _ _ _ _ _ _ h).trans rfl, (cell_of_row _ _ _ _ _ _ h).trans rfl, (cell_of_row _ _ _ _ _ _ h).trans rfl, (cell_of_row _ _ _ _ _ _ h).trans rfl⟩
set_option maxRecDepth 100000 in
set_option maxHeartbeats 8000000 in
theorem kmoved_rel (c : Cfg) (v : CfgV) (hr : Right c) (sv : Value) (o : KS) (e : Int) (was now : List ByteArray) (vw vn : Value) (w : World) (hat : CfgAt w c v) (hw : SeqV 1 strV w vw was) (hn : SeqV 1 strV w vn now) (hlw : was.length = c.n) (hln : now.length = c.n) (h : MovOk c o e was now) (k4 : o.kind = 4) :
    Calls Tryz.prog 16 #[.agg (caseC c v sv), .agg o.cells, .int .i64 e, vw, vn] w fun r w' => r = .returned (.bool true) ∧ Below w.heap.size w w' := by
  obtain ⟨_, _, _, _, hc, hn6, hn1⟩ := labels_of hr.labels
  obtain ⟨aw, cw, bw, rfl, haw, hcw⟩ := hw
  obtain ⟨an, cn, bn, rfl, han, hcn⟩ := hn
  have HLW := hide hlw
  have HLN := hide hln
  clear hlw hln
  have HAW := hide haw
  have HCW := hide hcw
  have HAN := hide han
  have HCN := hide hcn
  have HS := hide h.same
  have HG := hide h.chg
  have HSE := hide (fun (w' : World) (hb : Below w.heap.size w w') (d : Nat) (hd : d < c.n) => ksees_any c v hr o.label d w' (hat.below hb) hd)
  have HBY := hide (show byI o = o.label by unfold byI; rw [k4]; rfl)
  rw [HBY.out] at HS HG
  generalize hSB : (fun d => seesB c o.label d) = SB at *
  have hSBd : ∀ d, seesB c o.label d = SB d := fun d => by rw [← hSB]
  simp only [hSBd] at HS HG HSE
  clear hSBd hSB HBY
  have HED := hide (show ∀ b, editB o e = b → editB o e = b from fun _ h => h)
  unfold editB at HED HS HG
  have HCA := hide (fun (was now : ByteArray) (w' : World) (h : ChgOk o was now ∧ was.size ≤ 1200 ∧ now.size ≤ 1200 ∧ (o.kind = 1 → o.text.size ≤ 1000000)) (k1 : 1 ≤ o.kind) (k4 : o.kind ≤ 4) => kchanged_any o was now w' h.2.1 h.2.2.1 k1 k4 h.2.2.2 h.1)
  clear h haw hcw han hcn
  have HCL := hide hc.symm
  clear hc
  have HX0 := hide (Go.heap_alloc_new w (.cells (caseC c v sv) 34))
  have HB0 := hide (below_box w (.cells (caseC c v sv) 34))
  have HX1 := hide (Go.heap_alloc_new (w.alloc (.cells (caseC c v sv) 34)) (.cells o.cells 46))
  have HB1 := hide (below_box (w.alloc (.cells (caseC c v sv) 34)) (.cells o.cells 46))
  obtain ⟨kind, level, lo, hi, label, text⟩ := o
  unfold KS.cells cfgCells caseC at *
  simp only at *
  subst k4
  go_enter Tryz.func16, Tryz.ntmps16
  go_wp2
  generalize hW1 : (w.alloc (.cells #[.int .i64 c.labels, .slice v.ea c.edges.length v.ec, .slice v.ra c.rules.length v.rc, .slice v.ga c.grants.length v.gc, sv] 34)).alloc (.cells #[.int .i64 4, .int .i64 level, .int .i64 lo, .int .i64 hi, .int .i64 label, .string text] 46) = w1 at *
  have hs1 : w1.heap.size = w.heap.size + 2 := by rw [← hW1]; simp
  have HX01 := hide (Below.row HB1.out HX0.out (lt_of_row HX0.out))
  rw [show (w.alloc (.cells #[.int .i64 c.labels, .slice v.ea c.edges.length v.ec, .slice v.ra c.rules.length v.rc, .slice v.ga c.grants.length v.gc, sv] 34)).heap.size = w.heap.size + 1 by simp] at HX1 HB1
  have HBW := hide (HB0.out.trans (HB1.out.mono (by omega)))
  clear hW1 HX0 HB0 HB1
  go_loopw [11] (fun i wr => ∃ d : Nat, d ≤ c.n ∧ i = .int .i64 d ∧ Below w1.heap.size w1 wr) (fun i _ => c.n - (intOf i).toNat)
  case atStart => exact ⟨0, Nat.zero_le _, rfl, Below.refl _ _⟩
  case round =>
    obtain ⟨wo, rfl⟩ : ∃ x, x = wr := ⟨_, rfl⟩
    obtain ⟨d, hd, rfl, hbel⟩ := hrel
    have HXO := hide (Below.row hbel HX01.out (by omega))
    have HYO := hide (Below.row hbel HX1.out (by omega))
    obtain ⟨q0, q1, q2, q3, q4⟩ := case_rows HXO.out
    obtain ⟨p0, p1, p2, p3, p4, p5⟩ := o_cells (o := ⟨4, level, lo, hi, label, text⟩) HYO.out
    simp only at p0 p1 p2 p3 p4 p5
    have HBO := hide (HBW.out.trans (hbel.mono HBW.out.size))
    by_cases hlt : d < c.n
    · have hki : (d : Int) < c.labels := by rw [HCL.out]; omega
      obtain ⟨va, hga⟩ : ∃ x, was[d]? = some x := ⟨_, List.getElem?_eq_getElem (by have := HLW.out; omega)⟩
      obtain ⟨vb, hgb⟩ : ∃ x, now[d]? = some x := ⟨_, List.getElem?_eq_getElem (by have := HLN.out; omega)⟩
      obtain ⟨rfl, hbw⟩ := HAW.out.resolve_left (fun e => by have hlw := HLW.out; rw [e] at hlw; simp at hlw; omega)
      obtain ⟨rfl, hbn⟩ := HAN.out.resolve_left (fun e => by have hln := HLN.out; rw [e] at hln; simp at hln; omega)
      have c0 := HCW.out d _ hga 0 (by omega)
      have c1 := HCN.out d _ hgb 0 (by omega)
      have HSd := hide (HS.out d _ _ hga hgb)
      have HGd := hide (HG.out d _ _ hga hgb)
      have d0 : w.cell? ⟨bw, d, none⟩ = some (.string va) := by rw [Nat.mul_one, Nat.add_zero] at c0; exact c0
      have d1 : w.cell? ⟨bn, d, none⟩ = some (.string vb) := by rw [Nat.mul_one, Nat.add_zero] at c1; exact c1
      have hdw : (d : Int) < (was.length : Int) := by have := HLW.out; omega
      have hdn : (d : Int) < (now.length : Int) := by have := HLN.out; omega
      clear hga hgb c0 c1
      go_wp2_with fail
      refine (HSE.out wo HBO.out d hlt).mono ?_
      rintro r w2 ⟨rfl, hb2⟩
      have hbel2 := hbel.trans (hb2.mono hbel.size)
      have HY2 := hide (Below.row hb2 HYO.out (lt_of_row HYO.out))
      obtain ⟨r0, r1, r2, r3, r4, r5⟩ := o_cells (o := ⟨4, level, lo, hi, label, text⟩) HY2.out
      simp only at r0 r1 r2 r3 r4 r5
      have HB2 := hide (HBO.out.trans (hb2.mono HBO.out.size))
      have e0 : w2.cell? ⟨bw, d, none⟩ = some (.string va) := (HB2.out.cell (p := ⟨bw, d, none⟩) hbw).trans d0
      have e1 : w2.cell? ⟨bn, d, none⟩ = some (.string vb) := (HB2.out.cell (p := ⟨bn, d, none⟩) hbn).trans d1
      clear q0 q1 q2 q3 q4 p0 p1 p2 p3 p4 p5 d0 d1
      generalize SB d = sd at *
      by_cases he : e = 0
      rotate_left 1
      · have hsv := HSd.out (by rw [show (e == 0) = false by simpa using he, Bool.and_false]; rfl)
        subst hsv
        clear HSd HGd
        go_wp2_with fail
        go_quiet (fail)
        go_wp2
        go_roundw
        case rel => exact ⟨d + 1, by omega, by go_num, bel_drawn hbel2 _⟩
        case measure => simp [intOf]; omega
      subst he
      cases sd
      · have hsv := HSd.out (by rw [Bool.and_false])
        subst hsv
        clear HSd HGd
        go_wp2_with fail
        go_quiet (fail)
        go_wp2
        go_roundw
        case rel => exact ⟨d + 1, by omega, by go_num, bel_drawn hbel2 _⟩
        case measure => simp [intOf]; omega
      have hg := HGd.out (by rfl)
      have HCG := hide (HCA.out va vb w2.drew hg (by decide) (by decide))
      have hxs : w2.drew.heap.size = w2.heap.size := rfl
      clear HSd HGd hg
      go_wp2_with fail
      refine wp_region_held_drew (S := (fun w' => w'.cell? ⟨w.heap.size + 1, 0, none⟩ = some (.int .i64 4) ∧ w'.cell? ⟨w.heap.size + 1, 1, none⟩ = some (.int .i64 level) ∧ w'.cell? ⟨w.heap.size + 1, 2, none⟩ = some (.int .i64 lo) ∧ w'.cell? ⟨w.heap.size + 1, 3, none⟩ = some (.int .i64 hi) ∧ w'.cell? ⟨w.heap.size + 1, 4, none⟩ = some (.int .i64 label) ∧ w'.cell? ⟨w.heap.size + 1, 5, none⟩ = some (.string text) ∧ w'.cell? ⟨bw, d, none⟩ = some (.string va) ∧ w'.cell? ⟨bn, d, none⟩ = some (.string vb))) (by kernel_rfl) ?_ (fun hHeld => ?_)
      · (try dsimp only); go_keep
      refine takeW 0 (some 59) ?_ rfl rfl (by kernel_rfl) (by kernel_rfl) (by kernel_rfl) (fun _ _ _ h => h) ?_ (by assumption) ?_
      rotate_left 1
      · (intro o ho w hSw; obtain rfl := Option.some.inj ho; clear ho; (try dsimp only at hSw); go_simp; try (with_reducible rfl))
      (try simp only [Act.put, List.setIfInBounds_toArray, List.set_cons_zero, List.set_cons_succ])
      refine takeW 1 (some 60) ?_ rfl rfl (by kernel_rfl) (by kernel_rfl) (by kernel_rfl) (fun _ _ _ h => h) ?_ (by assumption) ?_
      rotate_left 1
      · (intro o ho w hSw; obtain rfl := Option.some.inj ho; clear ho; (try dsimp only at hSw); go_simp; try (with_reducible rfl))
      (try simp only [Act.put, List.setIfInBounds_toArray, List.set_cons_zero, List.set_cons_succ])
      refine takeW 2 (some 61) ?_ rfl rfl (by kernel_rfl) (by kernel_rfl) (by kernel_rfl) (fun _ _ _ h => h) ?_ (by assumption) ?_
      rotate_left 1
      · (intro o ho w hSw; obtain rfl := Option.some.inj ho; clear ho; (try dsimp only at hSw); go_simp; try (with_reducible rfl))
      (try simp only [Act.put, List.setIfInBounds_toArray, List.set_cons_zero, List.set_cons_succ])
      refine takeW 3 (some 62) ?_ rfl rfl (by kernel_rfl) (by kernel_rfl) (by kernel_rfl) (fun _ _ _ h => h) ?_ (by assumption) ?_
      rotate_left 1
      · (intro o ho w hSw; obtain rfl := Option.some.inj ho; clear ho; (try dsimp only at hSw); go_simp; try (with_reducible rfl))
      (try simp only [Act.put, List.setIfInBounds_toArray, List.set_cons_zero, List.set_cons_succ])
      refine takeW 4 (some 63) ?_ rfl rfl (by kernel_rfl) (by kernel_rfl) (by kernel_rfl) (fun _ _ _ h => h) ?_ (by assumption) ?_
      rotate_left 1
      · (intro o ho w hSw; obtain rfl := Option.some.inj ho; clear ho; (try dsimp only at hSw); go_simp; try (with_reducible rfl))
      (try simp only [Act.put, List.setIfInBounds_toArray, List.set_cons_zero, List.set_cons_succ])
      refine takeW 5 (some 64) ?_ rfl rfl (by kernel_rfl) (by kernel_rfl) (by kernel_rfl) (fun _ _ _ h => h) ?_ (by assumption) ?_
      rotate_left 1
      · (intro o ho w hSw; obtain rfl := Option.some.inj ho; clear ho; (try dsimp only at hSw); go_simp; try (with_reducible rfl))
      (try simp only [Act.put, List.setIfInBounds_toArray, List.set_cons_zero, List.set_cons_succ])
      refine takeW 6 (some 65) ?_ rfl rfl (by kernel_rfl) (by kernel_rfl) (by kernel_rfl) (fun _ _ _ h => h) ?_ (by assumption) ?_
      rotate_left 1
      · (intro o ho w hSw; obtain rfl := Option.some.inj ho; clear ho; (try dsimp only at hSw); go_simp; try (with_reducible rfl))
      (try simp only [Act.put, List.setIfInBounds_toArray, List.set_cons_zero, List.set_cons_succ])
      refine takeW 7 (some 66) ?_ rfl rfl (by kernel_rfl) (by kernel_rfl) (by kernel_rfl) (fun _ _ _ h => h) ?_ (by assumption) ?_
      rotate_left 1
      · (intro o ho w hSw; obtain rfl := Option.some.inj ho; clear ho; (try dsimp only at hSw); go_simp; try (with_reducible rfl))
      (try simp only [Act.put, List.setIfInBounds_toArray, List.set_cons_zero, List.set_cons_succ])
      refine takeW 8 (some 67) ?_ rfl rfl (by kernel_rfl) (by kernel_rfl) (by kernel_rfl) (fun _ _ _ h => h) ?_ (by assumption) ?_
      rotate_left 1
      · (intro o ho w hSw; obtain rfl := Option.some.inj ho; clear ho; (try dsimp only at hSw); go_simp; try (with_reducible rfl))
      (try simp only [Act.put, List.setIfInBounds_toArray, List.set_cons_zero, List.set_cons_succ])
      refine wpAnyH_ready (rs := [9]) (by kernel_rfl) (by simp) ?_
      refine AllReadyH.cons rfl (fun K hK => ?_) AllReadyH.nil
      go_simp
      go_wp2_with (go_at_call 37; refine (HCG.out).mono ?_; rintro r w3 ⟨rfl, hb3⟩; have HY3 := hide (Below.row hb3 HY2.out (lt_of_row HY2.out)); have HB3 := hide (HB2.out.drew.trans (hb3.mono HB2.out.drew.size)))
      refine hK.out _ _ ?_ (fun hHeld => ?_)
      · (obtain ⟨s0, s1, s2, s3, s4, s5⟩ := o_cells (o := ⟨4, level, lo, hi, label, text⟩) HY3.out; exact ⟨s0, s1, s2, s3, s4, s5, (HB3.out.cell (p := ⟨bw, d, none⟩) hbw).trans ((HB2.out.cell (p := ⟨bw, d, none⟩) hbw).symm.trans e0), (HB3.out.cell (p := ⟨bn, d, none⟩) hbn).trans ((HB2.out.cell (p := ⟨bn, d, none⟩) hbn).symm.trans e1)⟩)
      clear hK K
      refine takeW 10 (some 14) ?_ rfl rfl (by kernel_rfl) (by kernel_rfl) (by kernel_rfl) (fun _ _ _ h => h) ?_ (by assumption) ?_
      rotate_left 1
      · (intro o ho w hSw; obtain rfl := Option.some.inj ho; clear ho; (try dsimp only at hSw); go_simp; try (with_reducible rfl))
      (try simp only [Act.put, List.setIfInBounds_toArray, List.set_cons_zero, List.set_cons_succ])
      refine wpAnyH_done (by kernel_rfl) ?_ _
      have hbel3 := hbel2.drew.trans (hb3.mono hbel2.drew.size)
      clear hHeld r0 r1 r2 r3 r4 r5 e0 e1
      go_wp2
      go_roundw
      case rel => exact ⟨d + 1, by omega, by go_num, hbel3⟩
      case measure => simp [intOf]; omega
    · obtain rfl : d = c.n := by omega
      have hkc : decide ((c.n : Int) < c.labels) = false := by rw [HCL.out]; simp
      go_wp2
      go_ret
      exact ⟨rfl, HBO.out⟩
set_option maxRecDepth 100000 in
set_option maxHeartbeats 8000000 in
theorem kmoved_not (c : Cfg) (v : CfgV) (hr : Right c) (sv : Value) (o : KS) (e : Int) (was now : List ByteArray) (vw vn : Value) (w : World) (hat : CfgAt w c v) (hw : SeqV 1 strV w vw was) (hn : SeqV 1 strV w vn now) (hlw : was.length = c.n) (hln : now.length = c.n) (h : MovOk c o e was now) (k4 : (o.kind == 4) = false) :
    Calls Tryz.prog 16 #[.agg (caseC c v sv), .agg o.cells, .int .i64 e, vw, vn] w fun r w' => r = .returned (.bool true) ∧ Below w.heap.size w w' := by
  obtain ⟨_, _, _, _, hc, hn6, hn1⟩ := labels_of hr.labels
  obtain ⟨aw, cw, bw, rfl, haw, hcw⟩ := hw
  obtain ⟨an, cn, bn, rfl, han, hcn⟩ := hn
  have HLW := hide hlw
  have HLN := hide hln
  clear hlw hln
  have HAW := hide haw
  have HCW := hide hcw
  have HAN := hide han
  have HCN := hide hcn
  have HS := hide h.same
  have HG := hide h.chg
  have HSE := hide (fun (w' : World) (hb : Below w.heap.size w w') (d : Nat) (hd : d < c.n) => ksees_any c v hr o.level d w' (hat.below hb) hd)
  have HBY := hide (show byI o = o.level by unfold byI; rw [k4]; rfl)
  rw [HBY.out] at HS HG
  generalize hSB : (fun d => seesB c o.level d) = SB at *
  have hSBd : ∀ d, seesB c o.level d = SB d := fun d => by rw [← hSB]
  simp only [hSBd] at HS HG HSE
  clear hSBd hSB HBY
  have HED := hide (show ∀ b, editB o e = b → editB o e = b from fun _ h => h)
  unfold editB at HED HS HG
  have HCA := hide (fun (was now : ByteArray) (w' : World) (h : ChgOk o was now ∧ was.size ≤ 1200 ∧ now.size ≤ 1200 ∧ (o.kind = 1 → o.text.size ≤ 1000000)) (k1 : 1 ≤ o.kind) (k4 : o.kind ≤ 4) => kchanged_any o was now w' h.2.1 h.2.2.1 k1 k4 h.2.2.2 h.1)
  clear h haw hcw han hcn
  have HCL := hide hc.symm
  clear hc
  have HX0 := hide (Go.heap_alloc_new w (.cells (caseC c v sv) 34))
  have HB0 := hide (below_box w (.cells (caseC c v sv) 34))
  have HX1 := hide (Go.heap_alloc_new (w.alloc (.cells (caseC c v sv) 34)) (.cells o.cells 46))
  have HB1 := hide (below_box (w.alloc (.cells (caseC c v sv) 34)) (.cells o.cells 46))
  obtain ⟨kind, level, lo, hi, label, text⟩ := o
  unfold KS.cells cfgCells caseC at *
  simp only at *
  go_enter Tryz.func16, Tryz.ntmps16
  go_wp2
  generalize hW1 : (w.alloc (.cells #[.int .i64 c.labels, .slice v.ea c.edges.length v.ec, .slice v.ra c.rules.length v.rc, .slice v.ga c.grants.length v.gc, sv] 34)).alloc (.cells #[.int .i64 kind, .int .i64 level, .int .i64 lo, .int .i64 hi, .int .i64 label, .string text] 46) = w1 at *
  have hs1 : w1.heap.size = w.heap.size + 2 := by rw [← hW1]; simp
  have HX01 := hide (Below.row HB1.out HX0.out (lt_of_row HX0.out))
  rw [show (w.alloc (.cells #[.int .i64 c.labels, .slice v.ea c.edges.length v.ec, .slice v.ra c.rules.length v.rc, .slice v.ga c.grants.length v.gc, sv] 34)).heap.size = w.heap.size + 1 by simp] at HX1 HB1
  have HBW := hide (HB0.out.trans (HB1.out.mono (by omega)))
  clear hW1 HX0 HB0 HB1
  go_loopw [11] (fun i wr => ∃ d : Nat, d ≤ c.n ∧ i = .int .i64 d ∧ Below w1.heap.size w1 wr) (fun i _ => c.n - (intOf i).toNat)
  case atStart => exact ⟨0, Nat.zero_le _, rfl, Below.refl _ _⟩
  case round =>
    obtain ⟨wo, rfl⟩ : ∃ x, x = wr := ⟨_, rfl⟩
    obtain ⟨d, hd, rfl, hbel⟩ := hrel
    have HXO := hide (Below.row hbel HX01.out (by omega))
    have HYO := hide (Below.row hbel HX1.out (by omega))
    obtain ⟨q0, q1, q2, q3, q4⟩ := case_rows HXO.out
    obtain ⟨p0, p1, p2, p3, p4, p5⟩ := o_cells (o := ⟨kind, level, lo, hi, label, text⟩) HYO.out
    simp only at p0 p1 p2 p3 p4 p5
    have HBO := hide (HBW.out.trans (hbel.mono HBW.out.size))
    by_cases hlt : d < c.n
    · have hki : (d : Int) < c.labels := by rw [HCL.out]; omega
      obtain ⟨va, hga⟩ : ∃ x, was[d]? = some x := ⟨_, List.getElem?_eq_getElem (by have := HLW.out; omega)⟩
      obtain ⟨vb, hgb⟩ : ∃ x, now[d]? = some x := ⟨_, List.getElem?_eq_getElem (by have := HLN.out; omega)⟩
      obtain ⟨rfl, hbw⟩ := HAW.out.resolve_left (fun e => by have hlw := HLW.out; rw [e] at hlw; simp at hlw; omega)
      obtain ⟨rfl, hbn⟩ := HAN.out.resolve_left (fun e => by have hln := HLN.out; rw [e] at hln; simp at hln; omega)
      have c0 := HCW.out d _ hga 0 (by omega)
      have c1 := HCN.out d _ hgb 0 (by omega)
      have HSd := hide (HS.out d _ _ hga hgb)
      have HGd := hide (HG.out d _ _ hga hgb)
      have d0 : w.cell? ⟨bw, d, none⟩ = some (.string va) := by rw [Nat.mul_one, Nat.add_zero] at c0; exact c0
      have d1 : w.cell? ⟨bn, d, none⟩ = some (.string vb) := by rw [Nat.mul_one, Nat.add_zero] at c1; exact c1
      have hdw : (d : Int) < (was.length : Int) := by have := HLW.out; omega
      have hdn : (d : Int) < (now.length : Int) := by have := HLN.out; omega
      clear hga hgb c0 c1
      go_wp2_with fail
      refine (HSE.out wo HBO.out d hlt).mono ?_
      rintro r w2 ⟨rfl, hb2⟩
      have hbel2 := hbel.trans (hb2.mono hbel.size)
      have HY2 := hide (Below.row hb2 HYO.out (lt_of_row HYO.out))
      obtain ⟨r0, r1, r2, r3, r4, r5⟩ := o_cells (o := ⟨kind, level, lo, hi, label, text⟩) HY2.out
      simp only at r0 r1 r2 r3 r4 r5
      have HB2 := hide (HBO.out.trans (hb2.mono HBO.out.size))
      have e0 : w2.cell? ⟨bw, d, none⟩ = some (.string va) := (HB2.out.cell (p := ⟨bw, d, none⟩) hbw).trans d0
      have e1 : w2.cell? ⟨bn, d, none⟩ = some (.string vb) := (HB2.out.cell (p := ⟨bn, d, none⟩) hbn).trans d1
      clear q0 q1 q2 q3 q4 p0 p1 p2 p3 p4 p5 d0 d1
      generalize SB d = sd at *
      by_cases k1 : kind < 1
      · have hsv := HSd.out (by rw [show decide (1 ≤ kind) = false by simpa using k1]; rfl)
        subst hsv
        clear HSd HGd
        go_wp2_with fail
        go_quiet (fail)
        go_wp2
        go_roundw
        case rel => exact ⟨d + 1, by omega, by go_num, bel_drawn hbel2 _⟩
        case measure => simp [intOf]; omega
      have f1 : decide (kind < 1) = false := by simpa using k1
      by_cases k5 : 4 < kind
      · have hsv := HSd.out (by rw [show decide (kind ≤ 4) = false by simpa using k5, Bool.and_false]; rfl)
        subst hsv
        clear HSd HGd
        go_wp2_with fail
        go_quiet (fail)
        go_wp2
        go_roundw
        case rel => exact ⟨d + 1, by omega, by go_num, bel_drawn hbel2 _⟩
        case measure => simp [intOf]; omega
      have f5 : decide (4 < kind) = false := by simpa using k5
      by_cases he : e = 0
      rotate_left 1
      · have hsv := HSd.out (by rw [show (e == 0) = false by simpa using he, Bool.and_false]; rfl)
        subst hsv
        clear HSd HGd
        go_wp2_with fail
        go_quiet (fail)
        go_wp2
        go_roundw
        case rel => exact ⟨d + 1, by omega, by go_num, bel_drawn hbel2 _⟩
        case measure => simp [intOf]; omega
      subst he
      cases sd
      · have hsv := HSd.out (by rw [Bool.and_false])
        subst hsv
        clear HSd HGd
        go_wp2_with fail
        go_quiet (fail)
        go_wp2
        go_roundw
        case rel => exact ⟨d + 1, by omega, by go_num, bel_drawn hbel2 _⟩
        case measure => simp [intOf]; omega
      have hg := HGd.out (by rw [show decide (1 ≤ kind) = true by simp; omega, show decide (kind ≤ 4) = true by simp; omega]; rfl)
      have HCG := hide (HCA.out va vb w2.drew hg (by omega) (by omega))
      have hxs : w2.drew.heap.size = w2.heap.size := rfl
      clear HSd HGd hg
      go_wp2_with fail
      refine wp_region_held_drew (S := (fun w' => w'.cell? ⟨w.heap.size + 1, 0, none⟩ = some (.int .i64 kind) ∧ w'.cell? ⟨w.heap.size + 1, 1, none⟩ = some (.int .i64 level) ∧ w'.cell? ⟨w.heap.size + 1, 2, none⟩ = some (.int .i64 lo) ∧ w'.cell? ⟨w.heap.size + 1, 3, none⟩ = some (.int .i64 hi) ∧ w'.cell? ⟨w.heap.size + 1, 4, none⟩ = some (.int .i64 label) ∧ w'.cell? ⟨w.heap.size + 1, 5, none⟩ = some (.string text) ∧ w'.cell? ⟨bw, d, none⟩ = some (.string va) ∧ w'.cell? ⟨bn, d, none⟩ = some (.string vb))) (by kernel_rfl) ?_ (fun hHeld => ?_)
      · (try dsimp only); go_keep
      refine takeW 0 (some 59) ?_ rfl rfl (by kernel_rfl) (by kernel_rfl) (by kernel_rfl) (fun _ _ _ h => h) ?_ (by assumption) ?_
      rotate_left 1
      · (intro o ho w hSw; obtain rfl := Option.some.inj ho; clear ho; (try dsimp only at hSw); go_simp; try (with_reducible rfl))
      (try simp only [Act.put, List.setIfInBounds_toArray, List.set_cons_zero, List.set_cons_succ])
      refine takeW 1 (some 60) ?_ rfl rfl (by kernel_rfl) (by kernel_rfl) (by kernel_rfl) (fun _ _ _ h => h) ?_ (by assumption) ?_
      rotate_left 1
      · (intro o ho w hSw; obtain rfl := Option.some.inj ho; clear ho; (try dsimp only at hSw); go_simp; try (with_reducible rfl))
      (try simp only [Act.put, List.setIfInBounds_toArray, List.set_cons_zero, List.set_cons_succ])
      refine takeW 2 (some 61) ?_ rfl rfl (by kernel_rfl) (by kernel_rfl) (by kernel_rfl) (fun _ _ _ h => h) ?_ (by assumption) ?_
      rotate_left 1
      · (intro o ho w hSw; obtain rfl := Option.some.inj ho; clear ho; (try dsimp only at hSw); go_simp; try (with_reducible rfl))
      (try simp only [Act.put, List.setIfInBounds_toArray, List.set_cons_zero, List.set_cons_succ])
      refine takeW 3 (some 62) ?_ rfl rfl (by kernel_rfl) (by kernel_rfl) (by kernel_rfl) (fun _ _ _ h => h) ?_ (by assumption) ?_
      rotate_left 1
      · (intro o ho w hSw; obtain rfl := Option.some.inj ho; clear ho; (try dsimp only at hSw); go_simp; try (with_reducible rfl))
      (try simp only [Act.put, List.setIfInBounds_toArray, List.set_cons_zero, List.set_cons_succ])
      refine takeW 4 (some 63) ?_ rfl rfl (by kernel_rfl) (by kernel_rfl) (by kernel_rfl) (fun _ _ _ h => h) ?_ (by assumption) ?_
      rotate_left 1
      · (intro o ho w hSw; obtain rfl := Option.some.inj ho; clear ho; (try dsimp only at hSw); go_simp; try (with_reducible rfl))
      (try simp only [Act.put, List.setIfInBounds_toArray, List.set_cons_zero, List.set_cons_succ])
      refine takeW 5 (some 64) ?_ rfl rfl (by kernel_rfl) (by kernel_rfl) (by kernel_rfl) (fun _ _ _ h => h) ?_ (by assumption) ?_
      rotate_left 1
      · (intro o ho w hSw; obtain rfl := Option.some.inj ho; clear ho; (try dsimp only at hSw); go_simp; try (with_reducible rfl))
      (try simp only [Act.put, List.setIfInBounds_toArray, List.set_cons_zero, List.set_cons_succ])
      refine takeW 6 (some 65) ?_ rfl rfl (by kernel_rfl) (by kernel_rfl) (by kernel_rfl) (fun _ _ _ h => h) ?_ (by assumption) ?_
      rotate_left 1
      · (intro o ho w hSw; obtain rfl := Option.some.inj ho; clear ho; (try dsimp only at hSw); go_simp; try (with_reducible rfl))
      (try simp only [Act.put, List.setIfInBounds_toArray, List.set_cons_zero, List.set_cons_succ])
      refine takeW 7 (some 66) ?_ rfl rfl (by kernel_rfl) (by kernel_rfl) (by kernel_rfl) (fun _ _ _ h => h) ?_ (by assumption) ?_
      rotate_left 1
      · (intro o ho w hSw; obtain rfl := Option.some.inj ho; clear ho; (try dsimp only at hSw); go_simp; try (with_reducible rfl))
      (try simp only [Act.put, List.setIfInBounds_toArray, List.set_cons_zero, List.set_cons_succ])
      refine takeW 8 (some 67) ?_ rfl rfl (by kernel_rfl) (by kernel_rfl) (by kernel_rfl) (fun _ _ _ h => h) ?_ (by assumption) ?_
      rotate_left 1
      · (intro o ho w hSw; obtain rfl := Option.some.inj ho; clear ho; (try dsimp only at hSw); go_simp; try (with_reducible rfl))
      (try simp only [Act.put, List.setIfInBounds_toArray, List.set_cons_zero, List.set_cons_succ])
      refine wpAnyH_ready (rs := [9]) (by kernel_rfl) (by simp) ?_
      refine AllReadyH.cons rfl (fun K hK => ?_) AllReadyH.nil
      go_simp
      go_wp2_with (go_at_call 37; refine (HCG.out).mono ?_; rintro r w3 ⟨rfl, hb3⟩; have HY3 := hide (Below.row hb3 HY2.out (lt_of_row HY2.out)); have HB3 := hide (HB2.out.drew.trans (hb3.mono HB2.out.drew.size)))
      refine hK.out _ _ ?_ (fun hHeld => ?_)
      · (obtain ⟨s0, s1, s2, s3, s4, s5⟩ := o_cells (o := ⟨kind, level, lo, hi, label, text⟩) HY3.out; exact ⟨s0, s1, s2, s3, s4, s5, (HB3.out.cell (p := ⟨bw, d, none⟩) hbw).trans ((HB2.out.cell (p := ⟨bw, d, none⟩) hbw).symm.trans e0), (HB3.out.cell (p := ⟨bn, d, none⟩) hbn).trans ((HB2.out.cell (p := ⟨bn, d, none⟩) hbn).symm.trans e1)⟩)
      clear hK K
      refine takeW 10 (some 14) ?_ rfl rfl (by kernel_rfl) (by kernel_rfl) (by kernel_rfl) (fun _ _ _ h => h) ?_ (by assumption) ?_
      rotate_left 1
      · (intro o ho w hSw; obtain rfl := Option.some.inj ho; clear ho; (try dsimp only at hSw); go_simp; try (with_reducible rfl))
      (try simp only [Act.put, List.setIfInBounds_toArray, List.set_cons_zero, List.set_cons_succ])
      refine wpAnyH_done (by kernel_rfl) ?_ _
      have hbel3 := hbel2.drew.trans (hb3.mono hbel2.drew.size)
      clear hHeld r0 r1 r2 r3 r4 r5 e0 e1
      go_wp2
      go_roundw
      case rel => exact ⟨d + 1, by omega, by go_num, hbel3⟩
      case measure => simp [intOf]; omega
    · obtain rfl : d = c.n := by omega
      have hkc : decide ((c.n : Int) < c.labels) = false := by rw [HCL.out]; simp
      go_wp2
      go_ret
      exact ⟨rfl, HBO.out⟩
end Go.Proofs.YtgigkiocdiffjaaGreat
