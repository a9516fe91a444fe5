/- Docg. -/
import Derived.Test.YthgcpjdlcooncaaGreatE40
import Derived.Test.YthgcpjdlcooncaaGreatE29
namespace Go.Proofs.YthgcpjdlcooncaaGreat
open Go.RowKit Veil
theorem step_wp {P : Program} {ops : Array Oper} {o : Oper} {act : Act} {w : World} {K : Act → World → Prop} {Q : Exit → Act → World → Prop} {E : Prop} (hgd : o.guard = none) (h : Oper.wp P o act w K Q) : if Region.wanted o (yielded ops act.tmps) = true then Oper.wp P o act w K Q else E := by
  have hw : Region.wanted o (yielded ops act.tmps) = true := by simp [Region.wanted, hgd]
  rw [if_pos hw]; exact h
theorem wp_build_doc {o : Oper} {a : Act} {w : World} {K : Act → World → Prop} {Q : Exit → Act → World → Prop} (x y : Operand) (L : Int) (f : Nat → Nat → Bool) (ho : o.op = .build 111 #[(0, x), (3, y)]) (hx : a.eval x = .agg (ordC L f)) (hy : a.eval y = .agg (rowZ L f))
    (h : K (a.put o.dst (.agg (docZ L f))) w) : o.wp Tryz.prog a w K Q := by
  refine wp_build 111 #[(0, x), (3, y)] ho (by simp only [List.map_toArray, List.map_cons, List.map_nil, hx, hy]; exact built_doc' L f) ?_
  simp only [List.map_toArray, List.map_cons, List.map_nil, hx, hy]
  rw [built_doc L f]
  exact h
theorem exec_build_doc {w : World} {ev : Operand → Value} {o : Oper} {x y : Operand} {L : Int} {f : Nat → Nat → Bool} (ho : o.op = .build 111 #[(0, x), (3, y)]) (hx : ev x = .agg (ordC L f)) (hy : ev y = .agg (rowZ L f)) : (execOp ev o).run Tryz.prog w = .ok (.value (.agg (docZ L f))) w := by
  obtain ⟨cells, hc⟩ := Option.isSome_iff_exists.1 (built_doc' L f)
  have hd := built_doc L f
  rw [hc] at hd
  simp only [Option.getD_some] at hd
  subst hd
  have hr := run_build (P := Tryz.prog) w 111 #[(0, .agg (ordC L f)), (3, .agg (rowZ L f))] _ hc
  unfold execOp
  simp only [ho, List.map_toArray, List.map_cons, List.map_nil, hx, hy, Sem.run_bind, hr, Result.andThen_ok, Sem.run_pure]
theorem extract_put {cs : Array Value} {vs : List Value} {o a b : Nat} (ho : o + vs.length ≤ cs.size) (h : b ≤ o ∨ o + vs.length ≤ a) : (putCells cs o vs).extract a b = cs.extract a b := by
  apply Array.ext_getElem?
  intro j
  rw [Array.getElem?_extract, Array.getElem?_extract, putCells_size, putCells_get _ _ _ _ ho]
  by_cases hj : j < min b cs.size - a
  · rw [if_pos hj, if_pos hj, if_neg (by omega)]
  · rw [if_neg hj, if_neg hj]
theorem docZ_ord (L : Int) (f : Nat → Nat → Bool) : (docZ L f).extract 0 37 = ordC L f := by kernel_rfl
theorem docZ_rowo (L : Int) (f : Nat → Nat → Bool) : (docZ L f).extract 74 111 = ordC L f := by kernel_rfl
theorem docZ_cells (L : Int) (f : Nat → Nat → Bool) : (docZ L f)[111]? = some (.slice none 0 0) := by kernel_rfl
theorem docZ_tail (L : Int) (f : Nat → Nat → Bool) (i : Nat) (hi : i < 12) : (docZ L f)[112 + i]? = some (.int .i64 0) := by
  have hl : (ordC L f).toList.length = 37 := by rw [Array.length_toList, ordC_size]
  unfold docZ
  rw [List.getElem?_toArray, List.getElem?_append_right (by omega), hl, show 112 + i - 37 = (36 + 37 + 1 + i) + 1 by omega, List.getElem?_cons_succ, List.getElem?_append_right (by rw [List.length_replicate]; omega), List.length_replicate, List.getElem?_append_right (by omega), hl, show 36 + 37 + 1 + i - 36 - 37 = i + 1 by omega, List.getElem?_cons_succ, List.getElem?_replicate, if_pos hi]
theorem docZ_rules (L : Int) (f : Nat → Nat → Bool) : (docZ L f)[37]? = some (.slice none 0 0) := by kernel_rfl
theorem OwnL.setsOther {α : Type} {e : TypeId} {sz : Nat} {f : α → List Value} {w : World} {B : Nat} {v : Value} {l : List α} (h : OwnL e sz f w B v l) {g o : Nat} {vs : List Value} (hne : ∀ b, v.ownBlock = some b → b ≠ g) : OwnL e sz f (w.setCells g o vs) B v l := by
  refine h.kept (row := some g) ⟨(os_setCells g vs o w).1, (os_setCells g vs o w).2.1, (os_setCells g vs o w).2.2, by rw [size_setCells]; exact Nat.le_refl _, fun k _ hk => heap_setCells_other g k (fun e => hk (by rw [e])) vs o w⟩ (fun b h1 h2 => hne b h1 (Option.some.inj h2).symm)
/-- The document that Open makes. -/
theorem docC_new (n : Nat) (f GR : Nat → Nat → Bool) (rv : Value) : DocC (putCells ((docZ n f).setIfInBounds 37 rv) 38 (tabC GR).toList) n f rv GR (.slice none 0 0) (fun _ => 0) (fun _ => 0) := by
  have hz := docZ_size n f
  have ht : (tabC GR).toList.length = 36 := by rw [Array.length_toList, tabC_size]
  have hs : 38 + (tabC GR).toList.length ≤ ((docZ n f).setIfInBounds 37 rv).size := by rw [Array.size_setIfInBounds, hz, ht]; omega
  refine ⟨by rw [putCells_size, Array.size_setIfInBounds, hz], ?_, ?_, fun a b ha hb => ?_, ?_, ?_, fun i hi => ?_, fun i hi => ?_⟩
  · rw [extract_put hs (by omega), extract_set (by omega), docZ_ord]
  · rw [putCells_get _ _ _ _ hs, if_neg (by omega), Array.getElem?_setIfInBounds, if_pos rfl, if_pos (by omega)]
  · rw [putCells_get _ _ _ _ hs, if_pos (by omega), Array.getElem?_toList, show 38 + a * 6 + b - 38 = a * 6 + b by omega, tabC_get _ _ _ ha hb]
  · rw [extract_put hs (by omega), extract_set (by omega), docZ_rowo]
  · rw [putCells_get _ _ _ _ hs, if_neg (by omega), Array.getElem?_setIfInBounds, if_neg (by omega), docZ_cells]
  · rw [putCells_get _ _ _ _ hs, if_neg (by omega), Array.getElem?_setIfInBounds, if_neg (by omega), docZ_tail _ _ _ (by omega)]; rfl
  · rw [putCells_get _ _ _ _ hs, if_neg (by omega), Array.getElem?_setIfInBounds, if_neg (by omega), show 118 + i = 112 + (6 + i) by omega, docZ_tail _ _ _ (by omega)]; rfl
theorem CfgRight.is {c : Cfg} (h : CheckIs c 0) : CfgRight c := by
  obtain ⟨h1, h2, h3⟩ := h.right rfl
  refine ⟨h1, h3, ?_, ?_⟩
  · cases hr : rulesB c
    · have := h.four h1 h2 h3 hr; omega
    · rfl
  · cases hr : rulesB c
    · have := h.four h1 h2 h3 hr; omega
    · cases hg : grantsB c
      · have := h.five h1 h2 h3 hr hg; omega
      · rfl
theorem CfgRight.grant {c : Cfg} (h : CfgRight c) : c.grants.length ≤ 30 ∧ ∀ p, p ∈ c.grants → okL c.n p.1 = true ∧ okL c.n p.2 = true := by
  obtain ⟨_, _, _, _, hn, _, _⟩ := labels_of h.labels
  have hg := h.grants
  unfold grantsB at hg
  simp only [Bool.and_eq_true, decide_eq_true_eq, List.all_eq_true] at hg
  refine ⟨hg.1, fun p hp => ?_⟩
  have := hg.2 p hp
  unfold grantOk at this
  simp only [Bool.and_eq_true] at this
  rw [hn]
  exact ⟨this.1.1.1, this.1.1.2⟩
theorem grTo_all (c : Cfg) : grTo c.grants c.grants.length = grF c := by funext a b; unfold grTo grF; rw [List.take_length]
set_option maxRecDepth 100000 in
set_option maxHeartbeats 8000000 in
theorem vOpen_ok (c : Cfg) (v : CfgV) (w : World) (hok : CfgOk c) (hat : CfgAt w c v) (hcap : c.rules.length ≤ v.rc) (hk : CheckIs c 0) :
    Calls Tryz.prog 29 #[.agg (cfgCells c v)] w fun e w' => ∃ g rv, e = .returned (.tuple #[.pointer (some ⟨g, 0, none⟩), .int .i64 0]) ∧ PBox w' g c.n (tT c) rv (grF c) (.slice none 0 0) (fun _ => 0) (fun _ => 0) ∧ OwnL 96 2 ruleV w' w.heap.size rv c.rules ∧ w.heap.size ≤ g ∧ (∀ b, rv.ownBlock = some b → b ≠ g) ∧ Below w.heap.size w w' := by
  have hR := CfgRight.is hk
  have HQ := hide (fun w' (hb : Below w.heap.size w w') => cCheck_any c v w' hok (hat.below hb) hcap)
  have HB0 := hide (below_box w (.cells (cfgCells c v) 46))
  have HX0 := hide (box_new w c v)
  have HK := hide hk
  obtain ⟨hr8, _⟩ := hR.rule
  obtain ⟨hg30, hgo⟩ := hR.grant
  have hn6 : c.n ≤ 6 := (labels_of hR.labels).2.2.2.2.2.1
  have HCP := hide (fun w' (hb : Below w.heap.size w w') => dcCopyOf_any c.rules v.ra v.rc w' (hat.below hb).rules hr8)
  have HGB := hide (fun w' (hb : Below w.heap.size w w') => dcGranted_any c.grants v.ga v.gc c.n (tT c) w' (hat.below hb).grants hg30 hn6 hgo)
  have HGA := hide (grTo_all c)
  rw [HGA.out] at HGB
  clear hok hat hcap hk hR hgo HGA
  unfold cfgCells at *
  go_enter Tryz.func29, Tryz.ntmps29
  go_wp2_with fail
  refine (HQ.out _ HB0.out).mono ?_
  rintro e w1 ⟨code, L, f, rfl, ⟨hc, hz⟩, hb1⟩
  obtain rfl := hc.same HK.out
  obtain ⟨rfl, rfl⟩ := hz rfl
  generalize hnn : c.n = n at *
  generalize hff : tT c = f at *
  generalize hgg : grF c = GR at *
  have HNN := hide hnn
  have HFF := hide hff
  have HGG := hide hgg
  clear hnn hff hgg
  have hbel1 := HB0.out.trans (hb1.mono (by simp))
  have HX1 := hide (HX0.out.below hb1 HX0.out.lt)
  have HN := hide (Go.heap_alloc_new w1 (.cells (ordC 0 noF) 102))
  have i2 : rowIs (w1.alloc (.cells (ordC 0 noF) 102)) w1.heap.size 37 := ⟨_, _, HN.out, ordC_size _ _⟩
  have hbel3 : Below w.heap.size w ((w1.alloc (.cells (ordC 0 noF) 102)).setRow w1.heap.size (ordC n f)) := below_setRow (hbel1.alloc hbel1.size _) hbel1.size _
  have HO3 : Hid (OrdAt ((w1.alloc (.cells (ordC 0 noF) 102)).setRow w1.heap.size (ordC n f)) w1.heap.size n f) := setRow_heap _ _ _ (ordC n f) _ _ HN.out
  have hxl := HX1.out.lt
  have HX3 := hide (show BoxAt ((w1.alloc (.cells (ordC 0 noF) 102)).setRow w1.heap.size (ordC n f)) w.heap.size c v from (setRow_other _ _ _ _ (Nat.ne_of_lt hxl)).trans (row_alloc' HX1.out))
  obtain ⟨i3, a3⟩ := whole_at HO3.out (ordC_size _ _)
  generalize hw3 : (w1.alloc (.cells (ordC 0 noF) 102)).setRow w1.heap.size (ordC n f) = w3 at *
  have ho3 := HO3.out.lt
  clear hb1 HB0 hc HK HQ
  go_wp2_with (refine wpList_alloc_ord rfl rfl ?_)
  refine wp_region_held_drew (S := (fun w' => partIs w' w1.heap.size 0 37 ∧ partAt w' w1.heap.size 0 37 = ordC n f)) (by kernel_rfl) ?_ (fun hHeld => ?_)
  · exact ⟨i3, a3⟩
  refine takeW 0 (some 15) (.agg (ordC n f)) rfl rfl (by kernel_rfl) (by kernel_rfl) (by kernel_rfl) (fun _ _ _ h => h) ?_ (by assumption) ?_
  · (intro o ho w hSw; obtain rfl := Option.some.inj ho; clear ho; exact exec_load_ord rfl rfl hSw.1 hSw.2)
  (try simp only [Act.put, List.setIfInBounds_toArray, List.set_cons_zero, List.set_cons_succ])
  refine takeW 1 (some 16) (.agg (ordC n f)) rfl rfl (by kernel_rfl) (by kernel_rfl) (by kernel_rfl) (fun _ _ _ h => h) ?_ (by assumption) ?_
  · (intro o ho w hSw; obtain rfl := Option.some.inj ho; clear ho; exact exec_load_ord rfl rfl hSw.1 hSw.2)
  (try simp only [Act.put, List.setIfInBounds_toArray, List.set_cons_zero, List.set_cons_succ])
  refine wpAnyH_ready (rs := [2, 4]) (by kernel_rfl) (by simp) ?_
  refine AllReadyH.cons rfl (fun K hK => ?_) (AllReadyH.cons rfl (fun K hK => ?_) AllReadyH.nil)
  · have HNW := hide (rwNew_any n f w3.drew)
    go_simp
    go_wp2_with (go_at_call 53; refine (HNW.out).mono ?_; rintro e w5 ⟨rfl, hb5⟩; have HO5 := hide (OrdAt.below (w := w3.drew) HO3.out hb5 ho3); obtain ⟨i5, a5⟩ := whole_at HO5.out (ordC_size _ _))
    refine hK.out _ _ ?_ (fun hHeld => ?_)
    · exact ⟨i5, a5⟩
    clear hK K
    refine takeW 3 (some 18) (.agg (docZ n f)) rfl rfl (by kernel_rfl) (by kernel_rfl) (by kernel_rfl) (fun _ _ _ h => h) ?_ (by assumption) ?_
    · (intro o ho w hSw; obtain rfl := Option.some.inj ho; clear ho; exact exec_build_doc rfl rfl rfl)
    (try simp only [Act.put, List.setIfInBounds_toArray, List.set_cons_zero, List.set_cons_succ])
    have HN6 := hide (Go.heap_alloc_new w5 (.cells (docZ 0 noF) 111))
    have HO6 := hide (HO5.out.below (below_box w5 (.cells (docZ 0 noF) 111)) HO5.out.lt)
    obtain ⟨i6, a6⟩ := whole_at HO6.out (ordC_size _ _)
    obtain ⟨j6, _⟩ := whole_at HN6.out (docZ_size _ _)
    have hbel5 := hbel3.drew.trans (hb5.mono hbel3.drew.size)
    have hbel6 : Below w.heap.size w (w5.alloc (.cells (docZ 0 noF) 111)) := hbel5.alloc hbel5.size _
    have hg6 : w.heap.size ≤ w5.heap.size := hbel5.size
    have HX5 := hide (BoxAt.below (w := w3.drew) HX3.out hb5 HX3.out.lt)
    have HX6 := hide (HX5.out.below (below_box w5 (.cells (docZ 0 noF) 111)) HX5.out.lt)
    have hne6 : w1.heap.size ≠ w5.heap.size := Nat.ne_of_lt HO5.out.lt
    have hnx6 : w.heap.size ≠ w5.heap.size := Nat.ne_of_lt HX5.out.lt
    have hogd := hne6
    have hxgd := hnx6
    have hgd0 := hg6
    have hz5 : w5.heap.size < (w5.alloc (.cells (docZ 0 noF) 111)).heap.size := by simp
    have k6 := docZ_ok n f
    have HN7 := hide (whole_store HN6.out (docZ_size _ _) (docZ n f) (docZ_size _ _))
    have HO7 : Hid (OrdAt ((w5.alloc (.cells (docZ 0 noF) 111)).setCells w5.heap.size 0 (docZ n f).toList) w1.heap.size n f) := (heap_setCells_other _ _ hne6 _ _ _).trans HO6.out
    obtain ⟨i7, a7⟩ := whole_at HO7.out (ordC_size _ _)
    have HX7 : Hid (BoxAt ((w5.alloc (.cells (docZ 0 noF) 111)).setCells w5.heap.size 0 (docZ n f).toList) w.heap.size c v) := (heap_setCells_other _ _ hnx6 _ _ _).trans HX6.out
    have hb7 := below_setCells hbel6 hg6 0 (docZ n f).toList
    refine wpAnyH_ready (rs := [4]) (by kernel_rfl) (by simp) ?_
    refine AllReadyH.cons rfl (fun K hK => ?_) AllReadyH.nil
    refine step_wp rfl (wp_alloc_agg rfl zero_doc ?_)
    refine hK.out _ _ ?_ (fun hHeld => ?_)
    · exact ⟨i6, a6⟩
    clear hK K
    refine wpAnyH_ready (rs := [5]) (by kernel_rfl) (by simp) ?_
    refine AllReadyH.cons rfl (fun K hK => ?_) AllReadyH.nil
    go_simp
    refine hK.out _ _ ?_ (fun hHeld => ?_)
    · exact ⟨i7, a7⟩
    clear hK K
    refine wpAnyH_done (by kernel_rfl) ?_ _
    generalize hw7 : (w5.alloc (.cells (docZ 0 noF) 111)).setCells w5.heap.size 0 (docZ n f).toList = w7 at *
    generalize hgd : w5.heap.size = gd at *
    have hgl7 := lt_of_row HN7.out
    have HC7 := hide (HCP.out w7 hb7)
    obtain ⟨q0, q1, q2, q3⟩ := HX7.out.cells
    clear j6 k6 i6 a6 i7 a7 hbel6 hne6 hnx6
    go_wp2_with fail
    refine (HC7.out).mono ?_
    rintro e w8 ⟨rv, rfl, hrv, hb8⟩
    obtain ⟨rao, rcap, hrvv⟩ := hrv.shape
    subst hrvv
    have hbel8 := hb7.trans (hb8.mono hb7.size)
    have HN8 := hide (Below.row hb8 HN7.out hgl7)
    have d8 : w8.cell? ⟨gd, 37, none⟩ = (docZ n f)[37]? := cell_of_row _ _ _ _ _ _ HN8.out
    rw [docZ_rules] at d8
    have f8 : w8.frozen? ⟨gd, 37, none⟩ = false := frozen_of_row _ _ _ _ _ HN8.out
    have HX8 := hide (HX7.out.below hb8 HX7.out.lt)
    have HO8 := hide (HO7.out.below hb8 HO7.out.lt)
    have hlt8 := HX8.out.lt
    have hod8 := HO8.out.lt
    have HN9 := hide (heap_setCell_same w8 gd 37 _ _ (.slice rao c.rules.length rcap) HN8.out)
    have hxg : w.heap.size ≠ gd := hxgd
    have hog : w1.heap.size ≠ gd := hogd
    have HX9 : Hid (BoxAt (w8.setCell ⟨gd, 37, none⟩ (.slice rao c.rules.length rcap)) w.heap.size c v) := row_other HX8.out hxg
    have HO9 : Hid (OrdAt (w8.setCell ⟨gd, 37, none⟩ (.slice rao c.rules.length rcap)) w1.heap.size n f) := row_other HO8.out hog
    have hrb : ∀ b, (Value.slice rao c.rules.length rcap).ownBlock = some b → b ≠ gd := fun b hb => by have := (hrv.lt hb).1; omega
    have HR9 := hide (hrv.setOther (i := 37) (u := .slice rao c.rules.length rcap) hrb)
    have hb9 : Below w.heap.size w (w8.setCell ⟨gd, 37, none⟩ (.slice rao c.rules.length rcap)) := hbel8.setCell (show w.heap.size ≤ (⟨gd, 37, none⟩ : Addr).block from hgd0) _
    have HG9 := hide (HGB.out _ hb9)
    obtain ⟨r0, r1, r2, r3⟩ := HX9.out.cells
    have i9 := HO9.out.is
    have a9 := HO9.out.at
    have hs9 : (w8.setCell ⟨gd, 37, none⟩ (.slice rao c.rules.length rcap)).heap.size = w8.heap.size := by simp [World.setCell]
    clear q0 q1 q2 q3
    go_wp2_with fail
    refine (HG9.out).mono ?_
    rintro e w10 ⟨rfl, hb10⟩
    have hbel10 := hb9.trans (hb10.mono hb9.size)
    have HN10 := hide (Below.row hb10 HN9.out (by rw [hs9]; exact lt_of_row HN8.out))
    have HR10 := hide (HR9.out.below hb10)
    have j10 : partIs w10 gd 38 36 := ⟨_, _, HN10.out, by rw [Array.size_setIfInBounds, docZ_size]; omega⟩
    have k10 := tabC_ok GR
    have HPB : Hid (PBox (w10.setCells gd 38 (tabC GR).toList) gd n f (.slice rao c.rules.length rcap) GR (.slice none 0 0) (fun _ => 0) (fun _ => 0)) := ⟨_, heap_setCells_same gd _ _ _ _ _ HN10.out, docC_new n f GR _⟩
    have HR11 : Hid (OwnL 96 2 ruleV (w10.setCells gd 38 (tabC GR).toList) w7.heap.size (.slice rao c.rules.length rcap) c.rules) := HR10.out.setsOther hrb
    have hb11 := below_setCells hbel10 hgd0 38 (tabC GR).toList
    have hsz7 := hb7.size
    have HRB := hide hrb
    clear i9 a9 r0 r1 r2 r3 d8 f8
    go_wp2
    go_ret2
    exact ⟨gd, _, rfl, by rw [HNN.out, HFF.out, HGG.out]; exact HPB.out, HR11.out.mono hsz7, hgd0, HRB.out, hb11⟩
  · have HN4 : Hid ((w3.drew.alloc (.cells (docZ 0 noF) 111)).heap[w3.heap.size]? = some (.cells (docZ 0 noF) 111 (0, 0))) := Go.heap_alloc_new w3.drew (.cells (docZ 0 noF) 111)
    have hbA : Below w3.heap.size w3 (w3.drew.alloc (.cells (docZ 0 noF) 111)) := (below_drew w3).alloc (Nat.le_refl _) _
    have HO4 := hide (HO3.out.below hbA ho3)
    obtain ⟨i4, a4⟩ := whole_at HO4.out (ordC_size _ _)
    have HX4 := hide (HX3.out.below hbA HX3.out.lt)
    have hbel4 := hbel3.trans (hbA.mono hbel3.size)
    refine step_wp rfl (wp_alloc_agg rfl zero_doc ?_)
    refine hK.out _ _ ?_ (fun hHeld => ?_)
    · exact ⟨i4, a4⟩
    clear hK K
    have HNW := hide (rwNew_any n f (w3.drew.alloc (.cells (docZ 0 noF) 111)))
    refine wpAnyH_ready (rs := [2]) (by kernel_rfl) (by simp) ?_
    refine AllReadyH.cons rfl (fun K hK => ?_) AllReadyH.nil
    go_simp
    go_wp2_with (go_at_call 53; refine (HNW.out).mono ?_; rintro e w5 ⟨rfl, hb5⟩; have HO6 := hide (HO4.out.below hb5 HO4.out.lt); obtain ⟨i6, a6⟩ := whole_at HO6.out (ordC_size _ _))
    refine hK.out _ _ ?_ (fun hHeld => ?_)
    · exact ⟨i6, a6⟩
    clear hK K
    refine takeW 3 (some 18) (.agg (docZ n f)) rfl rfl (by kernel_rfl) (by kernel_rfl) (by kernel_rfl) (fun _ _ _ h => h) ?_ (by assumption) ?_
    · (intro o ho w hSw; obtain rfl := Option.some.inj ho; clear ho; exact exec_build_doc rfl rfl rfl)
    (try simp only [Act.put, List.setIfInBounds_toArray, List.set_cons_zero, List.set_cons_succ])
    have hs4 : w3.heap.size < (w3.drew.alloc (.cells (docZ 0 noF) 111)).heap.size := by simp
    have HN6 := hide (Below.row hb5 HN4.out hs4)
    obtain ⟨j6, _⟩ := whole_at HN6.out (docZ_size _ _)
    have hbel6 := hbel4.trans (hb5.mono hbel4.size)
    have hg6 : w.heap.size ≤ w3.heap.size := hbel3.size
    have HX6 := hide (HX4.out.below hb5 HX4.out.lt)
    have hne6 : w1.heap.size ≠ w3.heap.size := Nat.ne_of_lt ho3
    have hnx6 : w.heap.size ≠ w3.heap.size := Nat.ne_of_lt HX3.out.lt
    have hogd := hne6
    have hxgd := hnx6
    have hgd0 := hg6
    have hz5 := lt_of_row HN6.out
    have k6 := docZ_ok n f
    have HN7 := hide (whole_store HN6.out (docZ_size _ _) (docZ n f) (docZ_size _ _))
    have HO7 : Hid (OrdAt (w5.setCells w3.heap.size 0 (docZ n f).toList) w1.heap.size n f) := (heap_setCells_other _ _ hne6 _ _ _).trans HO6.out
    obtain ⟨i7, a7⟩ := whole_at HO7.out (ordC_size _ _)
    have HX7 : Hid (BoxAt (w5.setCells w3.heap.size 0 (docZ n f).toList) w.heap.size c v) := (heap_setCells_other _ _ hnx6 _ _ _).trans HX6.out
    have hb7 := below_setCells hbel6 hg6 0 (docZ n f).toList
    refine wpAnyH_ready (rs := [5]) (by kernel_rfl) (by simp) ?_
    refine AllReadyH.cons rfl (fun K hK => ?_) AllReadyH.nil
    go_simp
    refine hK.out _ _ ?_ (fun hHeld => ?_)
    · exact ⟨i7, a7⟩
    clear hK K
    refine wpAnyH_done (by kernel_rfl) ?_ _
    generalize hw7 : w5.setCells w3.heap.size 0 (docZ n f).toList = w7 at *
    generalize hgd : w3.heap.size = gd at *
    have hgl7 := lt_of_row HN7.out
    have HC7 := hide (HCP.out w7 hb7)
    obtain ⟨q0, q1, q2, q3⟩ := HX7.out.cells
    clear j6 k6 i6 a6 i7 a7 hbel6 hne6 hnx6
    go_wp2_with fail
    refine (HC7.out).mono ?_
    rintro e w8 ⟨rv, rfl, hrv, hb8⟩
    obtain ⟨rao, rcap, hrvv⟩ := hrv.shape
    subst hrvv
    have hbel8 := hb7.trans (hb8.mono hb7.size)
    have HN8 := hide (Below.row hb8 HN7.out hgl7)
    have d8 : w8.cell? ⟨gd, 37, none⟩ = (docZ n f)[37]? := cell_of_row _ _ _ _ _ _ HN8.out
    rw [docZ_rules] at d8
    have f8 : w8.frozen? ⟨gd, 37, none⟩ = false := frozen_of_row _ _ _ _ _ HN8.out
    have HX8 := hide (HX7.out.below hb8 HX7.out.lt)
    have HO8 := hide (HO7.out.below hb8 HO7.out.lt)
    have hlt8 := HX8.out.lt
    have hod8 := HO8.out.lt
    have HN9 := hide (heap_setCell_same w8 gd 37 _ _ (.slice rao c.rules.length rcap) HN8.out)
    have hxg : w.heap.size ≠ gd := hxgd
    have hog : w1.heap.size ≠ gd := hogd
    have HX9 : Hid (BoxAt (w8.setCell ⟨gd, 37, none⟩ (.slice rao c.rules.length rcap)) w.heap.size c v) := row_other HX8.out hxg
    have HO9 : Hid (OrdAt (w8.setCell ⟨gd, 37, none⟩ (.slice rao c.rules.length rcap)) w1.heap.size n f) := row_other HO8.out hog
    have hrb : ∀ b, (Value.slice rao c.rules.length rcap).ownBlock = some b → b ≠ gd := fun b hb => by have := (hrv.lt hb).1; omega
    have HR9 := hide (hrv.setOther (i := 37) (u := .slice rao c.rules.length rcap) hrb)
    have hb9 : Below w.heap.size w (w8.setCell ⟨gd, 37, none⟩ (.slice rao c.rules.length rcap)) := hbel8.setCell (show w.heap.size ≤ (⟨gd, 37, none⟩ : Addr).block from hgd0) _
    have HG9 := hide (HGB.out _ hb9)
    obtain ⟨r0, r1, r2, r3⟩ := HX9.out.cells
    have i9 := HO9.out.is
    have a9 := HO9.out.at
    have hs9 : (w8.setCell ⟨gd, 37, none⟩ (.slice rao c.rules.length rcap)).heap.size = w8.heap.size := by simp [World.setCell]
    clear q0 q1 q2 q3
    go_wp2_with fail
    refine (HG9.out).mono ?_
    rintro e w10 ⟨rfl, hb10⟩
    have hbel10 := hb9.trans (hb10.mono hb9.size)
    have HN10 := hide (Below.row hb10 HN9.out (by rw [hs9]; exact lt_of_row HN8.out))
    have HR10 := hide (HR9.out.below hb10)
    have j10 : partIs w10 gd 38 36 := ⟨_, _, HN10.out, by rw [Array.size_setIfInBounds, docZ_size]; omega⟩
    have k10 := tabC_ok GR
    have HPB : Hid (PBox (w10.setCells gd 38 (tabC GR).toList) gd n f (.slice rao c.rules.length rcap) GR (.slice none 0 0) (fun _ => 0) (fun _ => 0)) := ⟨_, heap_setCells_same gd _ _ _ _ _ HN10.out, docC_new n f GR _⟩
    have HR11 : Hid (OwnL 96 2 ruleV (w10.setCells gd 38 (tabC GR).toList) w7.heap.size (.slice rao c.rules.length rcap) c.rules) := HR10.out.setsOther hrb
    have hb11 := below_setCells hbel10 hgd0 38 (tabC GR).toList
    have hsz7 := hb7.size
    have HRB := hide hrb
    clear i9 a9 r0 r1 r2 r3 d8 f8
    go_wp2
    go_ret2
    exact ⟨gd, _, rfl, by rw [HNN.out, HFF.out, HGG.out]; exact HPB.out, HR11.out.mono hsz7, hgd0, HRB.out, hb11⟩
end Go.Proofs.YthgcpjdlcooncaaGreat
