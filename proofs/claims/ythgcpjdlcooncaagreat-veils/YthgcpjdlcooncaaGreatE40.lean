/- Doce, Docf. -/
import Derived.Test.YthgcpjdlcooncaaGreatE39
namespace Go.Proofs.YthgcpjdlcooncaaGreat
open Go.RowKit Veil
/-! ### Whole rows and documents -/
@[go_sem] def wpPlain4 (P : Program) (o : Oper) (a : Act) (w : World) (K : Act → World → Prop) (Q : Exit → Act → World → Prop) : Prop := o.upon P a K Q ((execOp a.eval o).run P w)
abbrev PartLaw2 (P : Program) (N : TypeId → Nat) : Prop := ∀ (o : Oper) (a : Act) (w : World) (K : Act → World → Prop) (Q : Exit → Act → World → Prop),
    wpPlain3 P o a w K Q = @ite _ (N (loadTy o) ≠ 0 ∧ ptrPart w (a.eval (opFst o)) (N (loadTy o))) (Classical.propDecidable _) (K (a.put o.dst (.agg (partAt w (blkOf (a.eval (opFst o))) (offOf (a.eval (opFst o))) (N (loadTy o))))) w)
      (@ite _ (N (storeTy o) ≠ 0 ∧ ptrPart w (a.eval (opFst o)) (N (storeTy o)) ∧ isAggV (a.eval (opSnd o)) (N (storeTy o))) (Classical.propDecidable _) (K (a.put o.dst undef) (w.setCells (blkOf (a.eval (opFst o))) (offOf (a.eval (opFst o))) (aggOf (a.eval (opSnd o))).toList)) (wpPlain4 P o a w K Q))
theorem part_law2 {P : Program} {N : TypeId → Nat} (hN : RowsOk P N) : PartLaw2 P N := fun o a w K Q => part_law hN o a w K Q
theorem Tryz.sizePRow : (Tryz.prog.info? 107).map (·.size) = some 38 := by kernel_rfl
theorem Tryz.sizeSixb : (Tryz.prog.info? 100).map (·.size) = some 36 := by kernel_rfl
theorem Tryz.sizePDoc : (Tryz.prog.info? 111).map (·.size) = some 124 := by kernel_rfl
@[go_sem] def rowN4 (t : TypeId) : Nat := if t = 107 then 38 else if t = 100 then 36 else if t = 111 then 124 else 0
theorem rowN4_ok : RowsOk Tryz.prog rowN4 := by
  refine ⟨rfl, fun ty h => ?_⟩
  unfold rowN4 at *
  split at h
  · subst_vars; exact ⟨_, Tryz.underlying107, rfl, Tryz.sizePRow⟩
  · split at h
    · subst_vars; exact ⟨_, Tryz.underlying100, rfl, Tryz.sizeSixb⟩
    · split at h
      · subst_vars; exact ⟨_, Tryz.underlying111, rfl, Tryz.sizePDoc⟩
      · exact absurd rfl h
@[go_sem ↓] theorem parts_doc : PartLaw2 Tryz.prog rowN4 := part_law2 rowN4_ok
/-- A new row's cells. -/
def rowZ (L : Int) (f : Nat → Nat → Bool) : Array Value := ((ordC L f).toList ++ [Value.slice none 0 0]).toArray
theorem rowZ_size (L : Int) (f : Nat → Nat → Bool) : (rowZ L f).size = 38 := by simp [rowZ, ordC_size]
theorem rowZ_ok (L : Int) (f : Nat → Nat → Bool) : okRow (rowZ L f) 38 := by
  refine ⟨rowZ_size L f, ?_⟩
  have := ordC_one L f
  simp only [rowZ, List.all_toArray, List.all_append, Array.all_toList, this]
  rfl
/-- A new document's cells. -/
def docZ (L : Int) (f : Nat → Nat → Bool) : Array Value := ((ordC L f).toList ++ (Value.slice none 0 0 :: (List.replicate 36 (Value.bool false) ++ ((ordC L f).toList ++ (Value.slice none 0 0 :: List.replicate 12 (Value.int .i64 0)))))).toArray
theorem docZ_size (L : Int) (f : Nat → Nat → Bool) : (docZ L f).size = 124 := by simp [docZ, ordC_size]
theorem docZ_ok (L : Int) (f : Nat → Nat → Bool) : okRow (docZ L f) 124 := by
  refine ⟨docZ_size L f, ?_⟩
  have := ordC_one L f
  simp only [docZ, List.all_toArray, List.all_append, List.all_cons, Array.all_toList, this, List.all_replicate]
  rfl
theorem built_row (L : Int) (f : Nat → Nat → Bool) : (Tryz.prog.built 107 [(0, .agg (ordC L f))]).getD #[] = rowZ L f := by kernel_rfl
theorem built_row' (L : Int) (f : Nat → Nat → Bool) : (Tryz.prog.built 107 [(0, .agg (ordC L f))]).isSome = true := by kernel_rfl
theorem built_doc (L : Int) (f : Nat → Nat → Bool) : (Tryz.prog.built 111 [(0, .agg (ordC L f)), (3, .agg (rowZ L f))]).getD #[] = docZ L f := by kernel_rfl
theorem built_doc' (L : Int) (f : Nat → Nat → Bool) : (Tryz.prog.built 111 [(0, .agg (ordC L f)), (3, .agg (rowZ L f))]).isSome = true := by kernel_rfl
theorem zero_row : (Tryz.prog.info? 107).map (fun i => (i.zero, i.size)) = some (some (.agg (rowZ 0 noF)), 38) := by kernel_rfl
theorem zero_doc : (Tryz.prog.info? 111).map (fun i => (i.zero, i.size)) = some (some (.agg (docZ 0 noF)), 124) := by kernel_rfl
theorem zero_sixb : (Tryz.prog.info? 100).map (fun i => (i.zero, i.size)) = some (some (.agg ((List.range 36).map fun i => Value.bool (noF (i / 6) (i % 6))).toArray), 36) := by kernel_rfl
theorem run_alloc_agg {P : Program} {w : World} {t : TypeId} {cs : Array Value} {n : Nat} (h : (P.info? t).map (fun i => (i.zero, i.size)) = some (some (.agg cs), n)) : (Instr.alloc t true (.tuple #[])).run P w = .ok (.pointer (some ⟨w.heap.size, 0, none⟩)) (w.alloc (.cells cs t)) := by
  obtain ⟨i, hi, hz⟩ := Option.map_eq_some_iff.1 h
  simp only [Prod.mk.injEq] at hz
  simp [Instr.alloc, zeroValue, typeInfo, hi, hz.1, newVar, Value.cells, newRow]
theorem wp_alloc_agg {P : Program} {o : Oper} {a : Act} {w : World} {K : Act → World → Prop} {Q : Exit → Act → World → Prop} {t : TypeId} {cs : Array Value} {n : Nat} (ho : o.op = .alloc t) (h : (P.info? t).map (fun i => (i.zero, i.size)) = some (some (.agg cs), n))
    (hk : K (a.put o.dst (.pointer (some ⟨w.heap.size, 0, none⟩))) (w.alloc (.cells cs t))) : o.wp P a w K Q := by
  unfold Oper.wp execOp
  simp only [ho, Sem.run_bind, run_alloc_agg h, Result.andThen_ok, Sem.run_pure]
  exact hk
theorem wpList_alloc_agg {P : Program} {ops : Array Oper} {rest : List Oper} {o : Oper} {a : Act} {w : World} {Q : Exit → Act → World → Prop} {t : TypeId} {cs : Array Value} {n : Nat} (hgd : o.guard = none) (ho : o.op = .alloc t) (h : (P.info? t).map (fun i => (i.zero, i.size)) = some (some (.agg cs), n))
    (hk : wpList P ops Q rest (a.put o.dst (.pointer (some ⟨w.heap.size, 0, none⟩))) (w.alloc (.cells cs t))) : wpList P ops Q (o :: rest) a w :=
  wpList_plain hgd fun _ hK => wp_alloc_agg ho h (hK _ _ hk)
theorem whole_at {w : World} {g n : Nat} {cs : Array Value} {t : TypeId} (h : w.heap[g]? = some (.cells cs t (0, 0))) (hn : cs.size = n) : partIs w g 0 n ∧ partAt w g 0 n = cs := by
  refine ⟨⟨cs, t, h, by omega⟩, ?_⟩
  unfold partAt
  rw [rowAt_mk h, Nat.zero_add, ← hn, Array.extract_size]
theorem whole_store {w : World} {g n : Nat} {old : Array Value} {t : TypeId} (h : w.heap[g]? = some (.cells old t (0, 0))) (hn : old.size = n) (cs : Array Value) (hc : cs.size = n) : (w.setCells g 0 cs.toList).heap[g]? = some (.cells cs t (0, 0)) := by
  rw [heap_setCells_same g t cs.toList 0 w old h, putCells_whole _ _ (by simp; omega)]
theorem wpList_build_row {w : World} {ops : Array Oper} {rest : List Oper} {o : Oper} {a : Act} {Q : Exit → Act → World → Prop} (hgd : o.guard = none) (x : Operand) (L : Int) (f : Nat → Nat → Bool) (ho : o.op = .build 107 #[(0, x)]) (hx : a.eval x = .agg (ordC L f))
    (h : wpList Tryz.prog ops Q rest (a.put o.dst (.agg (rowZ L f))) w) : wpList Tryz.prog ops Q (o :: rest) a w := by
  refine wpList_build hgd 107 #[(0, x)] ho (by simp only [List.map_toArray, List.map_cons, List.map_nil, hx]; exact built_row' L f) ?_
  simp only [List.map_toArray, List.map_cons, List.map_nil, hx]
  rw [built_row L f]
  exact h
set_option maxRecDepth 100000 in
set_option maxHeartbeats 4000000 in
theorem rwNew_any (L : Int) (f : Nat → Nat → Bool) (w : World) : Calls Tryz.prog 53 #[.agg (ordC L f)] w fun e w' => e = .returned (.agg (rowZ L f)) ∧ Below w.heap.size w w' := by
  have HO := hide (ord_new w L f)
  have i0 := (ord_new w L f).is
  have a0 := (ord_new w L f).at
  have hb1 := below_box w (.cells (ordC L f) 102)
  have HN := hide (Go.heap_alloc_new (w.alloc (.cells (ordC L f) 102)) (.cells (rowZ 0 noF) 107))
  have hs1 : (w.alloc (.cells (ordC L f) 102)).heap.size = w.heap.size + 1 := by simp
  rw [hs1] at HN
  have i1 : rowIs ((w.alloc (.cells (ordC L f) 102)).alloc (.cells (rowZ 0 noF) 107)) w.heap.size 37 := ⟨_, _, row_alloc' HO.out, ordC_size L f⟩
  have a1 : rowAt ((w.alloc (.cells (ordC L f) 102)).alloc (.cells (rowZ 0 noF) 107)) w.heap.size = ordC L f := rowAt_mk (row_alloc' HO.out)
  obtain ⟨i2, _⟩ := whole_at HN.out (rowZ_size 0 noF)
  have k2 := rowZ_ok L f
  have HS := hide (whole_store HN.out (rowZ_size 0 noF) (rowZ L f) (rowZ_size L f))
  have hbS := below_setCells (hb1.alloc hb1.size (.cells (rowZ 0 noF) 107)) (show w.heap.size ≤ w.heap.size + 1 by omega) 0 (rowZ L f).toList
  clear hs1 hb1
  go_enter Tryz.func53, Tryz.ntmps53
  go_wp2_with (first | (refine wpList_alloc_agg rfl rfl zero_row ?_) | (refine wpList_build_row rfl (.tmp 3) L f rfl rfl ?_))
  exact bodyPost_ret (results_cell_row Tryz.results53 _ _ (w.heap.size + 1) 107 (rowZ L f) (0, 0) _ (by simp) HS.out Tryz.underlying107 rfl (by rw [Tryz.sizePRow, rowZ_size])) rfl ⟨rfl, hbS⟩
/-! ### The rules, copied -/
theorem textF_bt (s : ByteArray) : textF (bt s) 0 s.size = s := by
  apply ByteArray.ext
  apply Array.toList_inj.1
  simp only [textF]
  apply List.ext_getElem?
  intro j
  by_cases hj : j < s.size
  · rw [List.getElem?_map, List.getElem?_range' (by omega)]
    have h1 : s.data.toList[j]? = some s[j] := by
      have := List.getElem?_eq_getElem (l := bytes s) (i := j) (by rw [bytes_length]; exact hj)
      rw [bytes_get s j hj] at this
      exact this
    rw [h1]
    simp only [Option.map_some, Nat.zero_add, Nat.one_mul, Option.some.injEq]
    rw [bt_get s j hj]
    simp
  · have h1 : s.data.toList.length = s.size := by simp
    rw [List.getElem?_eq_none (by simp; omega), List.getElem?_eq_none (by omega)]
theorem bt_lt (s : ByteArray) (j : Nat) : bt s j < 256 := UInt8.toNat_lt _
theorem Tryz.infoRule3 : (Tryz.prog.info? 96).map (fun i => (i.zero, i.size, i.bytes)) = some (some (.agg #[.string ⟨#[]⟩, .int .i64 0]), 2, 24) := by kernel_rfl
set_option maxRecDepth 100000 in
set_option maxHeartbeats 4000000 in
theorem dcCopyOf_any (R : List (ByteArray × Int)) (ra : Option Addr) (rc : Nat) (w : World) (hat : SeqAt xR yR w ra R) (h8 : R.length ≤ 8) :
    Calls Tryz.prog 54 #[.slice ra R.length rc] w fun e w' => ∃ vl, e = .returned vl ∧ OwnL 96 2 ruleV w' w.heap.size vl R ∧ Below w.heap.size w w' := by
  have HE := hide hat
  clear hat
  go_enter Tryz.func54, Tryz.ntmps54
  go_wp2
  go_loopw [3, 9] (fun vl i wr => ∃ k : Nat, k ≤ R.length ∧ i = .int .i64 k ∧ OwnL 96 2 ruleV wr w.heap.size vl (R.take k) ∧ Below w.heap.size w wr) (fun _ i _ => R.length - (intOf i).toNat)
  case atStart => exact ⟨0, Nat.zero_le _, rfl, OwnL.nil _ _ _ _ _, Below.refl _ _⟩
  case round =>
    obtain ⟨wo, rfl⟩ : ∃ x, x = wr := ⟨_, rfl⟩
    obtain ⟨k, hk, rfl, hvl, hbel⟩ := hrel
    have HVL := hide hvl
    clear hvl
    by_cases hlt : k < R.length
    · have hki : (k : Int) < (R.length : Int) := by omega
      have hek : R[k]? = some R[k] := List.getElem?_eq_getElem hlt
      obtain ⟨b, off, hao, hbl, d1, d2⟩ := HE.out.at hbel hek
      have HTS := hide (show R.take (k + 1) = R.take k ++ [R[k]] by rw [List.take_add_one, hek]; rfl)
      have hidx : ∀ w', (Instr.indexAt 43 (.slice ra R.length rc) (.int .i64 (k : Int))).run Tryz.prog w' = .ok (.pointer (some ⟨b, off + k * 2, none⟩)) w' := by
        intro w'
        have hji : (k : Int) < (R.length : Int) := by omega
        rw [hao]
        go_simp
      have htl : (R.take k).length = k := by rw [List.length_take]; omega
      generalize R[k] = r at *
      obtain ⟨s, lb⟩ := r
      simp only [xR, yR] at d1 d2
      have hbB : Below wo.heap.size wo (wo.alloc (.cells #[.string s, .int .i64 lb] 96)) := below_box _ _
      have hbelB := hbel.trans (hbB.mono hbel.size)
      have HNB := hide (Go.heap_alloc_new wo (.cells #[.string s, .int .i64 lb] 96))
      have s0 : (wo.alloc (.cells #[.string s, .int .i64 lb] 96)).cell? ⟨wo.heap.size, 0, none⟩ = some (.string s) := by rw [cell_of_row _ _ _ _ _ _ HNB.out]; rfl
      obtain ⟨mc, w1, hcv, hba, hb1⟩ := bytes_made (wo.alloc (.cells #[.string s, .int .i64 lb] 96)) (bt s) s.size (fun j _ => bt_lt s j)
      have hcb := conv_at (cap := mc) hba (fun j _ => bt_lt s j)
      rw [textF_bt] at hcv hcb
      rw [show (wo.alloc (.cells #[.string s, .int .i64 lb] 96)).heap.size = wo.heap.size + 1 by simp] at hcb
      have hw0 : wo.heap.size < (wo.alloc (.cells #[.string s, .int .i64 lb] 96)).heap.size := by simp
      have s1 : w1.cell? ⟨wo.heap.size, 1, none⟩ = some (.int .i64 lb) := by
        rw [cell_of_row _ _ _ _ _ _ (Below.row hb1 HNB.out hw0)]; rfl
      have hbel1 := hbelB.trans (hb1.mono hbelB.size)
      have hbC : Below w1.heap.size w1 (w1.alloc (.cells #[.string s, .int .i64 lb] 96)) := below_box _ _
      have hbelC := hbel1.trans (hbC.mono hbel1.size)
      have HVC := hide (((HVL.out.below hbB).below hb1).below hbC)
      have HNC := hide (Go.heap_alloc_new w1 (.cells #[.string s, .int .i64 lb] 96))
      clear hek hao
      go_wp2_with (at_builtin; refine wpList_push rfl (.tmp 16) (.tmp 22) 43 rfl (.agg #[.string ⟨#[]⟩, .int .i64 0]) 24 Tryz.underlying43 Tryz.infoRule3 rfl (by decide) rfl HVC.out w1.heap.size 1 (s, lb) rfl 96 (0, 0) HNC.out rfl (by intro u hu; simp [ruleV] at hu; rcases hu with rfl | rfl <;> rfl) (by omega) (by decide) hbelC.size (w1.heap.size + 1) (by simp) ?_; intro g6 cap6 w6 hown6 hgrow6 hat6 hlt6)
      have hb6 := hbelC.trans (below_of_grown hgrow6 (fun b hb => (HVC.out.lt hb).1) hbelC.size)
      go_roundw
      case rel => exact ⟨k + 1, by omega, by go_num, by rw [HTS.out]; simpa [htl] using hown6, hb6⟩
      case measure => simp [intOf]; omega
    · obtain rfl : k = R.length := by omega
      have hkc : decide ((R.length : Int) < (R.length : Int)) = false := by simp
      have HT := hide (show R.take R.length = R from List.take_length)
      go_wp2
      go_ret
      exact ⟨_, rfl, by have := HVL.out; rwa [HT.out] at this, hbel⟩
/-! ### The grants -/
/-- A table of six by six. -/
def tabC (f : Nat → Nat → Bool) : Array Value := ((List.range 36).map fun i => Value.bool (f (i / 6) (i % 6))).toArray
theorem tabC_size (f : Nat → Nat → Bool) : (tabC f).size = 36 := by simp [tabC]
theorem tabC_get (f : Nat → Nat → Bool) (a b : Nat) (ha : a < 6) (hb : b < 6) : (tabC f)[a * 6 + b]? = some (.bool (f a b)) := by
  have h1 : (a * 6 + b) / 6 = a := by omega
  have h2 : (a * 6 + b) % 6 = b := by omega
  have hlt : a * 6 + b < 36 := by omega
  simp [tabC, h1, h2, hlt]
theorem tabC_set (f g : Nat → Nat → Bool) (a b : Nat) (x : Bool) (ha : a < 6) (hb : b < 6) (hg : ∀ i j, i < 6 → j < 6 → g i j = if i = a ∧ j = b then x else f i j) : (tabC f).setIfInBounds (a * 6 + b) (.bool x) = tabC g := by
  apply Array.ext_getElem?
  intro i
  rw [Array.getElem?_setIfInBounds]
  by_cases hi : i < 36
  · have e : i = (i / 6) * 6 + i % 6 := by omega
    have r1 : (tabC g)[i]? = some (.bool (g (i / 6) (i % 6))) := by
      have := tabC_get g (i / 6) (i % 6) (by omega) (by omega)
      rwa [← e] at this
    have r2 : (tabC f)[i]? = some (.bool (f (i / 6) (i % 6))) := by
      have := tabC_get f (i / 6) (i % 6) (by omega) (by omega)
      rwa [← e] at this
    rw [r1, r2, tabC_size, hg _ _ (by omega) (by omega)]
    by_cases h : i / 6 = a ∧ i % 6 = b
    · rw [if_pos (by omega), if_pos (by omega), if_pos h]
    · rw [if_neg (by omega), if_neg h]
  · rw [if_neg (by omega), Array.getElem?_eq_none (by rw [tabC_size]; omega), Array.getElem?_eq_none (by rw [tabC_size]; omega)]
theorem tabC_ok (f : Nat → Nat → Bool) : okRow (tabC f) 36 := ⟨tabC_size f, by simp [tabC, Value.oneCell']⟩
theorem tabC_congr (f g : Nat → Nat → Bool) (h : ∀ a b, a < 6 → b < 6 → f a b = g a b) : tabC f = tabC g := by
  unfold tabC
  congr 1
  apply List.map_congr_left
  intro i hi
  have : i < 36 := by simpa using hi
  rw [h _ _ (by omega) (by omega)]
theorem zero_sixb' : (Tryz.prog.info? 100).map (fun i => (i.zero, i.size)) = some (some (.agg (tabC noF)), 36) := zero_sixb
def grTo (G : List (Int × Int)) (k a b : Nat) : Bool := (G.take k).any (grantIs a b)
theorem grTo_succ {G : List (Int × Int)} {k : Nat} {p : Int × Int} (h : G[k]? = some p) (a b : Nat) : grTo G (k + 1) a b = (grTo G k a b || grantIs a b p) := by
  unfold grTo; rw [any_snoc _ G k p h]
end Go.Proofs.YthgcpjdlcooncaaGreat
namespace Go.Proofs.YthgcpjdlcooncaaGreat
open Go.RowKit Veil
set_option maxRecDepth 100000 in
set_option maxHeartbeats 8000000 in
theorem dcGranted_any (G : List (Int × Int)) (ga : Option Addr) (gc n : Nat) (f : Nat → Nat → Bool) (w : World) (hat : SeqAt xE yE w ga G) (h30 : G.length ≤ 30) (hn : n ≤ 6) (hG : ∀ p, p ∈ G → okL n p.1 = true ∧ okL n p.2 = true) :
    Calls Tryz.prog 55 #[.slice ga G.length gc, .agg (ordC n f)] w fun e w' => e = .returned (.agg (tabC (grTo G G.length))) ∧ Below w.heap.size w w' := by
  have HE := hide hat
  have HGO := hide hG
  have HHAS := hide (fun (a : Int) (w' : World) => has_any n f a w')
  have HO0 := hide (ord_new w n f)
  have hb1 := below_box w (.cells (ordC n f) 102)
  have hs1 : (w.alloc (.cells (ordC n f) 102)).heap.size = w.heap.size + 1 := by simp
  have hb2 : Below w.heap.size w ((w.alloc (.cells (ordC n f) 102)).alloc (.cells (tabC noF) 100)) := hb1.alloc hb1.size _
  have hs2 : ((w.alloc (.cells (ordC n f) 102)).alloc (.cells (tabC noF) 100)).heap.size = w.heap.size + 2 := by simp
  have HT1 : Hid (((w.alloc (.cells (ordC n f) 102)).alloc (.cells (tabC noF) 100)).heap[w.heap.size + 1]? = some (.cells (tabC noF) 100 (0, 0))) := by have := Go.heap_alloc_new (w.alloc (.cells (ordC n f) 102)) (.cells (tabC noF) 100); rwa [hs1] at this
  have hb3 : Below w.heap.size w (((w.alloc (.cells (ordC n f) 102)).alloc (.cells (tabC noF) 100)).alloc (.cells (tabC noF) 100)) := hb2.alloc hb2.size _
  have HT2 : Hid ((((w.alloc (.cells (ordC n f) 102)).alloc (.cells (tabC noF) 100)).alloc (.cells (tabC noF) 100)).heap[w.heap.size + 2]? = some (.cells (tabC noF) 100 (0, 0))) := by have := Go.heap_alloc_new ((w.alloc (.cells (ordC n f) 102)).alloc (.cells (tabC noF) 100)) (.cells (tabC noF) 100); rwa [hs2] at this
  have HO2 : Hid (OrdAt (((w.alloc (.cells (ordC n f) 102)).alloc (.cells (tabC noF) 100)).alloc (.cells (tabC noF) 100)) w.heap.size n f) := row_alloc' (row_alloc' HO0.out)
  have HT3 := hide (row_alloc' (o' := .cells (tabC noF) 100) HT1.out)
  have HZ := hide (show tabC noF = tabC (grTo G 0) from rfl)
  clear hat hG hb1 hs1 hb2 hs2
  go_enter Tryz.func55, Tryz.ntmps55
  go_wp2_with (first | (refine wpList_alloc_agg rfl rfl zero_sixb' ?_))
  go_loopw [10] (fun i wr => ∃ k : Nat, k ≤ G.length ∧ i = .int .i64 k ∧ wr.heap[w.heap.size + 2]? = some (.cells (tabC (grTo G k)) 100 (0, 0)) ∧ wr.heap[w.heap.size + 1]? = some (.cells (tabC noF) 100 (0, 0)) ∧ OrdAt wr w.heap.size n f ∧ Below w.heap.size w wr) (fun i _ => G.length - (intOf i).toNat)
  case atStart => exact ⟨0, Nat.zero_le _, rfl, by rw [← HZ.out]; exact HT2.out, HT3.out, HO2.out, hb3⟩
  case round =>
    clear HT1 HT2 HT3 HO2 hb3 HO0 HZ
    obtain ⟨wo, rfl⟩ : ∃ x, x = wr := ⟨_, rfl⟩
    obtain ⟨k, hk, rfl, ht2, ht1, hord, hbel⟩ := hrel
    have H2 := hide ht2
    have H1 := hide ht1
    have H0 := hide hord
    have l2 := lt_of_row ht2
    clear ht2 ht1 hord
    by_cases hlt : k < G.length
    · have hki : (k : Int) < (G.length : Int) := by omega
      have hek : G[k]? = some G[k] := List.getElem?_eq_getElem hlt
      obtain ⟨b, off, hao, hbl, d1, d2⟩ := HE.out.at hbel hek
      have HTS := hide (fun a b => grTo_succ hek a b)
      have hidx : ∀ w', (Instr.indexAt 44 (.slice ga G.length gc) (.int .i64 (k : Int))).run Tryz.prog w' = .ok (.pointer (some ⟨b, off + k * 2, none⟩)) w' := by
        intro w'
        have hji : (k : Int) < (G.length : Int) := by omega
        rw [hao]
        go_simp
      obtain ⟨ho1, ho2⟩ := HGO.out _ (List.getElem_mem hlt)
      generalize G[k] = p at *
      obtain ⟨p1, p2⟩ := p
      simp only [xE, yE] at d1 d2
      simp only at ho1 ho2
      obtain ⟨x, rfl, hx⟩ := okL_cast ho1
      obtain ⟨y, rfl, hy⟩ := okL_cast ho2
      have hxi : (x : Int) < 6 := by omega
      have hyi : (y : Int) < 6 := by omega
      have hbB : Below wo.heap.size wo (wo.alloc (.cells #[.int .i64 x, .int .i64 y] 98)) := below_box _ _
      have hbelB := hbel.trans (hbB.mono hbel.size)
      have HNB := hide (Go.heap_alloc_new wo (.cells #[.int .i64 x, .int .i64 y] 98))
      have HOB := hide (H0.out.below hbB H0.out.lt)
      have i0 := HOB.out.is
      have a0 := HOB.out.at
      have HA1 := hide (HHAS.out x (wo.alloc (.cells #[.int .i64 x, .int .i64 y] 98)))
      rw [ho1] at HA1
      have hsB : wo.heap.size < (wo.alloc (.cells #[.int .i64 x, .int .i64 y] 98)).heap.size := by simp
      clear hek hao
      go_wp2_with fail
      refine (HA1.out).mono ?_
      rintro e w1 ⟨rfl, hb1⟩
      have HN1 := hide (Below.row hb1 HNB.out hsB)
      have HO1 := hide (HOB.out.below hb1 HOB.out.lt)
      have i1 := HO1.out.is
      have a1 := HO1.out.at
      have HA2 := hide (HHAS.out y w1)
      rw [ho2] at HA2
      have n1 : w1.cell? ⟨wo.heap.size, 1, none⟩ = some (.int .i64 y) := by rw [cell_of_row _ _ _ _ _ _ HN1.out]; rfl
      clear i0 a0
      go_wp2_with fail
      refine (HA2.out).mono ?_
      rintro e w2 ⟨rfl, hb2⟩
      have hbw2 : Below wo.heap.size wo w2 := (hbB.trans (hb1.mono hbB.size)).trans (hb2.mono (Nat.le_trans hbB.size hb1.size))
      have hbelW := hbel.trans (hbw2.mono hbel.size)
      have HN2 := hide (Below.row hb2 HN1.out (lt_of_row HN1.out))
      have m0 : w2.cell? ⟨wo.heap.size, 0, none⟩ = some (.int .i64 x) := by rw [cell_of_row _ _ _ _ _ _ HN2.out]; rfl
      have m1 : w2.cell? ⟨wo.heap.size, 1, none⟩ = some (.int .i64 y) := by rw [cell_of_row _ _ _ _ _ _ HN2.out]; rfl
      have HT2 := hide (Below.row hbw2 H2.out l2)
      have HT1 := hide (Below.row hbw2 H1.out (lt_of_row H1.out))
      have HT0 := hide (H0.out.below hbw2 H0.out.lt)
      have t2 : w2.cell? ⟨w.heap.size + 2, x * 6 + y, none⟩ = some (.bool (grTo G k x y)) := by rw [cell_of_row _ _ _ _ _ _ HT2.out, tabC_get _ _ _ (by omega) (by omega)]
      have f2 : w2.frozen? ⟨w.heap.size + 2, x * 6 + y, none⟩ = false := frozen_of_row _ _ _ _ _ HT2.out
      have HS2 : Hid ((w2.drew.setCell ⟨w.heap.size + 2, x * 6 + y, none⟩ (.bool true)).heap[w.heap.size + 2]? = some (.cells (tabC (grTo G (k + 1))) 100 (0, 0))) := by
        have := heap_setCell_same w2.drew (w.heap.size + 2) (x * 6 + y) _ _ (.bool true) HT2.out
        rw [tabC_set (grTo G k) (grTo G (k + 1)) x y true (by omega) (by omega) (fun i j _ _ => by
          rw [HTS.out i j]
          unfold grantIs
          by_cases hij : i = x ∧ j = y
          · obtain ⟨rfl, rfl⟩ := hij; simp
          · rw [if_neg hij]
            have : (((x : Int) == (i : Int)) && ((y : Int) == (j : Int))) = false := by
              rw [Bool.and_eq_false_iff]
              by_cases h1 : i = x
              · right; simp; omega
              · left; simp; omega
            rw [this]; simp)] at this
        exact this
      have HS1 := hide (row_other (w := w2.drew) (v := .bool true) (j := x * 6 + y) HT1.out (show w.heap.size + 1 ≠ w.heap.size + 2 by omega))
      have HS0 : Hid (OrdAt (w2.drew.setCell ⟨w.heap.size + 2, x * 6 + y, none⟩ (.bool true)) w.heap.size n f) := row_other (w := w2.drew) HT0.out (by omega)
      have HSB : Hid (Below w.heap.size w (w2.drew.setCell ⟨w.heap.size + 2, x * 6 + y, none⟩ (.bool true))) := hbelW.drew.setCell (by dsimp only; omega) _
      have u0 : (w2.drew.setCell ⟨w.heap.size + 2, x * 6 + y, none⟩ (.bool true)).cell? ⟨wo.heap.size, 0, none⟩ = some (.int .i64 x) := by rw [cell_of_row _ _ _ _ _ _ (row_other (w := w2.drew) HN2.out (show wo.heap.size ≠ w.heap.size + 2 by omega))]; rfl
      have u1 : (w2.drew.setCell ⟨w.heap.size + 2, x * 6 + y, none⟩ (.bool true)).cell? ⟨wo.heap.size, 1, none⟩ = some (.int .i64 y) := by rw [cell_of_row _ _ _ _ _ _ (row_other (w := w2.drew) HN2.out (show wo.heap.size ≠ w.heap.size + 2 by omega))]; rfl
      clear i1 a1 n1
      go_wp2_with fail
      refine wp_region_held_drew (S := (fun w' => w'.cell? ⟨wo.heap.size, 0, none⟩ = some (.int .i64 x) ∧ w'.cell? ⟨wo.heap.size, 1, none⟩ = some (.int .i64 y))) (by kernel_rfl) ?_ (fun hHeld => ?_)
      · exact ⟨m0, m1⟩
      refine takeW 0 (some 24) ?_ rfl rfl (by kernel_rfl) (by kernel_rfl) (by kernel_rfl) (fun _ _ _ h => h) ?_ (by assumption) ?_
      rotate_left 1
      · (intro o ho w hSw; obtain rfl := Option.some.inj ho; clear ho; (try dsimp only at hSw); go_simp; try (with_reducible rfl))
      (try simp only [Act.put, List.setIfInBounds_toArray, List.set_cons_zero, List.set_cons_succ])
      refine takeW 1 (some 25) ?_ rfl rfl (by kernel_rfl) (by kernel_rfl) (by kernel_rfl) (fun _ _ _ h => h) ?_ (by assumption) ?_
      rotate_left 1
      · (intro o ho w hSw; obtain rfl := Option.some.inj ho; clear ho; (try dsimp only at hSw); go_simp; try (with_reducible rfl))
      (try simp only [Act.put, List.setIfInBounds_toArray, List.set_cons_zero, List.set_cons_succ])
      refine takeW 2 (some 26) ?_ rfl rfl (by kernel_rfl) (by kernel_rfl) (by kernel_rfl) (fun _ _ _ h => h) ?_ (by assumption) ?_
      rotate_left 1
      · (intro o ho w hSw; obtain rfl := Option.some.inj ho; clear ho; (try dsimp only at hSw); go_simp; try (with_reducible rfl))
      (try simp only [Act.put, List.setIfInBounds_toArray, List.set_cons_zero, List.set_cons_succ])
      refine takeW 3 (some 27) ?_ rfl rfl (by kernel_rfl) (by kernel_rfl) (by kernel_rfl) (fun _ _ _ h => h) ?_ (by assumption) ?_
      rotate_left 1
      · (intro o ho w hSw; obtain rfl := Option.some.inj ho; clear ho; (try dsimp only at hSw); go_simp; try (with_reducible rfl))
      (try simp only [Act.put, List.setIfInBounds_toArray, List.set_cons_zero, List.set_cons_succ])
      refine takeW 4 (some 28) ?_ rfl rfl (by kernel_rfl) (by kernel_rfl) (by kernel_rfl) (fun _ _ _ h => h) ?_ (by assumption) ?_
      rotate_left 1
      · (intro o ho w hSw; obtain rfl := Option.some.inj ho; clear ho; (try dsimp only at hSw); go_simp; try (with_reducible rfl))
      (try simp only [Act.put, List.setIfInBounds_toArray, List.set_cons_zero, List.set_cons_succ])
      refine takeW 5 (some 29) ?_ rfl rfl (by kernel_rfl) (by kernel_rfl) (by kernel_rfl) (fun _ _ _ h => h) ?_ (by assumption) ?_
      rotate_left 1
      · (intro o ho w hSw; obtain rfl := Option.some.inj ho; clear ho; (try dsimp only at hSw); go_simp; try (with_reducible rfl))
      (try simp only [Act.put, List.setIfInBounds_toArray, List.set_cons_zero, List.set_cons_succ])
      refine wpAnyH_ready (rs := [6]) (by kernel_rfl) (by simp) ?_
      refine AllReadyH.cons rfl (fun K hK => ?_) AllReadyH.nil
      go_simp
      refine hK.out _ _ ?_ (fun hHeld => ?_)
      · exact ⟨u0, u1⟩
      clear hK K
      refine wpAnyH_done (by kernel_rfl) ?_ _
      clear m0 m1 t2 f2 u0 u1
      go_wp2
      go_roundw
      case rel => exact ⟨k + 1, by omega, by go_num, HS2.out, HS1.out, HS0.out, HSB.out⟩
      case measure => simp [intOf]; omega
    · obtain rfl : k = G.length := by omega
      have hkc : decide ((G.length : Int) < (G.length : Int)) = false := by simp
      obtain ⟨i2, a2⟩ := whole_at H2.out (tabC_size _)
      obtain ⟨i1, _⟩ := whole_at H1.out (tabC_size _)
      have k2 := tabC_ok (grTo G G.length)
      have HS := hide (whole_store H1.out (tabC_size _) (tabC (grTo G G.length)) (tabC_size _))
      have hbS := below_setCells hbel (show w.heap.size ≤ w.heap.size + 1 by omega) 0 (tabC (grTo G G.length)).toList
      go_wp2
      exact bodyPost_ret (results_cell_row Tryz.results55 _ _ (w.heap.size + 1) 100 (tabC (grTo G G.length)) (0, 0) _ (by simp) HS.out Tryz.underlying100 rfl (by rw [Tryz.sizeSixb, tabC_size])) rfl ⟨rfl, hbS⟩
end Go.Proofs.YthgcpjdlcooncaaGreat
