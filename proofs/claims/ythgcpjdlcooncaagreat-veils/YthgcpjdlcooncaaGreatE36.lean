/- Row8, Doca. -/
import Derived.Test.YthgcpjdlcooncaaGreatE35
import Derived.Test.YthgcpjdlcooncaaGreatE15
import Derived.Great.BuildSlice
import Derived.Test.YthgcpjdlcooncaaGreatE19
namespace Go.Proofs.YthgcpjdlcooncaaGreat
open Go.RowKit Veil
theorem Tryz.infoPCell : (Tryz.prog.info? 188).map (fun i => (i.zero, i.size, i.bytes)) = some (some (.agg (cellG 0 0 noB noL noB).toArray), 20, 160) := by kernel_rfl
theorem pcut_head {ao : Option Addr} {n cap k : Nat} (hs : ∀ a, ao = some a → ∃ rb, a = ⟨rb, 0, none⟩) (hk : k ≤ cap) (w : World) : (Instr.slice 105 (.slice ao n cap) none (some (.int .i64 (k : Int))) none).run Tryz.prog w = .ok (.slice ao k cap) w := by
  obtain ⟨i, hi, hzz⟩ := Option.map_eq_some_iff.1 Tryz.infoPCell
  have hadd : (ao.map fun a => a.add 0) = ao := by
    cases ao with
    | none => rfl
    | some a => obtain ⟨rb, rfl⟩ := hs a rfl; rfl
  have h0 : (0 : Int) ≤ (k : Int) ∧ (k : Int) ≤ (cap : Int) := by omega
  by_cases hc : cap = 0
  · simp [Instr.slice, run_underlying Tryz.underlying105, Instr.sliceBounds, Instr.sliceBound, asIntOf, h0, sizeOf, typeInfo, hi, hc]
    omega
  · simp [Instr.slice, run_underlying Tryz.underlying105, Instr.sliceBounds, Instr.sliceBound, asIntOf, h0, sizeOf, typeInfo, hi, hc, hadd]
    exact fun h => absurd h (by omega)
theorem pcut_tail {ao : Option Addr} {n cap k : Nat} (hk : k ≤ n) (w : World) : (Instr.slice 105 (.slice ao n cap) (some (.int .i64 (k : Int))) none none).run Tryz.prog w = .ok (.slice (if cap = k then ao else ao.map (·.add (k * 20))) (n - k) (cap - k)) w := by
  obtain ⟨i, hi, hzz⟩ := Option.map_eq_some_iff.1 Tryz.infoPCell
  simp only [Prod.mk.injEq] at hzz
  have h0 : (0 : Int) ≤ (k : Int) ∧ (k : Int) ≤ (n : Int) := by omega
  simp [Instr.slice, run_underlying Tryz.underlying105, Instr.sliceBounds, Instr.sliceBound, asIntOf, h0, sizeOf, typeInfo, hi, hzz.2.1]
  exact fun h => absurd h (by omega)
theorem cellG_new (b o : Nat) : (cellG b o noB (fun _ => o) noB).toArray = #[.int .u8 b, .int .i64 o, .bool false, .int .i64 o, .bool false, .bool false, .int .i64 o, .bool false, .bool false, .int .i64 o, .bool false, .bool false, .int .i64 o, .bool false, .bool false, .int .i64 o, .bool false, .bool false, .int .i64 o, .bool false] := rfl
theorem fill_cell (b n : Nat) : Instr.fill (fun i => some (i * 20, 20)) ((Array.range (1 * 20)).map ((Value.agg (cellG 0 0 noB noL noB).toArray).cells[· % (Value.agg (cellG 0 0 noB noL noB).toArray).cells.size]!)) [(0, .agg (cellG b n noB (fun _ => n) noB).toArray)] = some (cellG b n noB (fun _ => n) noB).toArray := by kernel_rfl
set_option maxRecDepth 100000 in
set_option maxHeartbeats 4000000 in
theorem wpList_slice_cell {w : World} {ops : Array Oper} {rest : List Oper} {o : Oper} {a : Act} {Q : Exit → Act → World → Prop} (hgd : o.guard = none) (x : Operand) (b n : Nat) (ho : o.op = .buildSlice 105 1 #[(0, x)]) (hx : a.eval x = .agg (cellG b n noB (fun _ => n) noB).toArray)
    (h : wpList Tryz.prog ops Q rest (a.put o.dst (.slice (some ⟨w.heap.size, 0, none⟩) 1 1)) (w.alloc (.cells (cellG b n noB (fun _ => n) noB).toArray 188))) : wpList Tryz.prog ops Q (o :: rest) a w := by
  obtain ⟨i, hi, hzz⟩ := Option.map_eq_some_iff.1 Tryz.infoPCell
  simp only [Prod.mk.injEq] at hzz
  refine wpList_buildSlice hgd 105 188 1 #[(0, x)] ho _ i _ Tryz.underlying105 hi hzz.1 (by rw [hzz.2.1]; decide) (by rw [hzz.2.1]; decide) ?_ h
  rw [hzz.2.1]
  simp only [List.map_toArray, List.map_cons, List.map_nil, hx]
  exact fill_cell b n
/-- The new cells. -/
def newC (s : ByteArray) (lv k : Nat) : List RC := (newTo s lv k).map (·.1)
theorem newC_length (s : ByteArray) (lv k : Nat) : (newC s lv k).length = k := by unfold newC; rw [List.length_map, newTo_length]
theorem newC_succ (s : ByteArray) (lv k : Nat) (h : k < s.size) : newC s lv (k + 1) = newC s lv k ++ [⟨s[k].toNat, lv, []⟩] := by unfold newC; rw [newTo_succ s lv k h, List.map_append]; rfl
theorem newC_zero (s : ByteArray) (lv : Nat) : newC s lv 0 = [] := rfl
def putC (row new : List RC) (k : Nat) : List RC := row.take k ++ new ++ row.drop k
set_option maxRecDepth 100000 in
set_option maxHeartbeats 16000000 in
theorem rwInsert_any (c : Cfg) (row : List RC) (g q n : Nat) (f : Nat → Nat → Bool) (pv : Value) (B lv at_ : Nat) (text : ByteArray) (w : World) (hown : OwnL 188 20 (pcV c) w B pv row) (hr : PRowAt w g q n f pv) (hat : at_ ≤ row.length) (htx : text.size ≤ 1000000) (hlen : row.length ≤ 1000000) :
    Calls Tryz.prog 101 #[.pointer (some ⟨g, q, none⟩), .int .i64 lv, .int .i64 at_, .string text] w fun e w' => e = .returned (.tuple #[]) ∧ ∃ w6 v6, w' = w6.setCell ⟨g, q + 37, none⟩ v6 ∧ Below w.heap.size w w6 ∧ OwnL 188 20 (pcV c) w6 w.heap.size v6 (putC row (newC text lv text.size) at_) := by
  obtain ⟨ao, cap, hpv⟩ := hown.shape
  subst hpv
  obtain ⟨hsn, hss⟩ := hown.src
  have hcapn : row.length ≤ cap := by
    cases hra : ao with
    | none => have := (hsn hra).1; omega
    | some x => obtain ⟨_, _, _, h, _⟩ := hss x hra; exact h
  have HSN := hide hsn
  have HSS := hide hss
  have HROW := hide hr
  have d0 := hr.cells
  have hgl := hr.lt
  have HNC := hide (fun (b : Nat) (w' : World) => newCell_any b lv w')
  have hsl1 : ∀ w', (Instr.slice 105 (.slice ao row.length cap) none (some (.int .i64 (at_ : Int))) none).run Tryz.prog w' = .ok (.slice ao at_ cap) w' := fun w' =>
    pcut_head (fun x hx => by obtain ⟨rb, h, _⟩ := HSS.out x hx; exact ⟨rb, h⟩) (by omega) w'
  have hsl2 : ∀ w', (Instr.slice 105 (.slice ao row.length cap) (some (.int .i64 (at_ : Int))) none none).run Tryz.prog w' = .ok (.slice (if cap = at_ then ao else ao.map (·.add (at_ * 20))) (row.length - at_) (cap - at_)) w' := fun w' => pcut_tail hat w'
  have HONE := hide (show ∀ (x : RC), ∀ u, u ∈ pcV c x → u.oneCell' = true from fun x u hu => cellG_one _ _ _ _ _ u hu)
  have HC1 := hide (show ∀ x, ao = some x → ∀ j u, ((row.take at_).flatMap (pcV c))[j]? = some u → w.cell? (x.add j) = some u from fun x hx j u hu => by
    obtain ⟨rb, rfl, _, _, hc⟩ := HSS.out x hx
    have := hc j u (flat_take hu)
    have hadd : (⟨rb, 0, none⟩ : Addr).add j = ⟨rb, j, none⟩ := by unfold Addr.add; split <;> simp_all
    rw [hadd]; exact this)
  generalize hso : (if cap = at_ then ao else ao.map (·.add (at_ * 20))) = so2 at *
  have HC2 := hide (show ∀ (w' : World), Below w.heap.size w w' → ∀ x, so2 = some x → ∀ j u, ((row.drop at_).flatMap (pcV c))[j]? = some u → w'.cell? (x.add j) = some u from fun w' hb' x hx j u hu => by
    by_cases hcb : cap = at_
    · have : row.drop at_ = [] := List.drop_eq_nil_of_le (by omega)
      rw [this] at hu; simp at hu
    · rw [if_neg hcb] at hso
      cases hra : ao with
      | none => rw [hra] at hso; rw [← hso] at hx; cases hx
      | some y =>
        obtain ⟨rb, rfl, hrb, _, hc⟩ := HSS.out y hra
        rw [hra] at hso
        rw [← hso] at hx
        obtain rfl := Option.some.inj hx
        have h1 := hc _ u (flat_drop (pcV_length c) hat hu)
        have hadd : ((⟨rb, 0, none⟩ : Addr).add (at_ * 20)).add j = ⟨rb, at_ * 20 + j, none⟩ := by rw [Addr.add_mid, Addr.add_mid, Nat.zero_add]
        rw [hadd]
        exact (hb'.cell (p := ⟨rb, at_ * 20 + j, none⟩) hrb).trans h1)
  have HS2 := hide (show so2 = none → row.length - at_ = 0 ∧ cap - at_ = 0 from fun h => by
    by_cases hcb : cap = at_
    · omega
    · rw [if_neg hcb, h] at hso
      have := HSN.out (by simpa using hso)
      omega)
  have HTL := hide (show (row.take at_).length = at_ from by rw [List.length_take]; exact Nat.min_eq_left hat)
  have HBY := hide (show (([] : List RC).length + at_) * 160 ≤ 140737488355328 from by simp only [List.length_nil]; omega)
  have ha0 : decide ((at_ : Int) < 0) = false := by simp
  have ha1 : (at_ : Int) ≤ (row.length : Int) := by omega
  have ha2 : decide ((row.length : Int) < (at_ : Int)) = false := by simp; omega
  clear hsn hss hso hown hr
  go_enter Tryz.func101, Tryz.ntmps101
  go_wp2_with (at_builtin; refine wpList_pushes rfl (.tmp 21) (.tmp 27) 105 rfl (.agg (cellG 0 0 noB noL noB).toArray) 160 Tryz.underlying105 Tryz.infoPCell rfl (by decide) rfl (OwnL.nil 188 20 (pcV c) w w.heap.size) ao at_ cap (row.take at_) rfl HTL.out (fun h => by have := HSN.out h; omega) HC1.out (pcV_length c) (fun p _ => HONE.out p) HBY.out (by decide) (Nat.le_refl _) ?_; intro v4 w4 hown4 hgrow4 hat4)
  have hb4 : Below w.heap.size w w4 := below_of_grown hgrow4 (fun b hb => by cases hb) (Nat.le_refl _)
  have HV4 := hide hown4
  clear hown4 hgrow4 hat4
  go_loopw [8, 9] (fun vr i wr => ∃ k : Nat, k ≤ text.size ∧ i = .int .i64 k ∧ OwnL 188 20 (pcV c) wr w.heap.size vr (row.take at_ ++ newC text lv k) ∧ Below w.heap.size w wr) (fun _ i _ => text.size - (intOf i).toNat)
  case atStart => exact ⟨0, Nat.zero_le _, rfl, by rw [newC_zero, List.append_nil]; exact HV4.out, hb4⟩
  case round =>
    clear hb4 HV4
    obtain ⟨wo, rfl⟩ : ∃ x, x = wr := ⟨_, rfl⟩
    obtain ⟨k, hk, rfl, hvr, hbo⟩ := hrel
    have HVR := hide hvr
    clear hvr
    have htl : (row.take at_ ++ newC text lv k).length ≤ row.length + k := by rw [List.length_append, newC_length, List.length_take]; omega
    by_cases hlt : k < text.size
    · have hki : (k : Int) < (text.size : Int) := by omega
      have HNS := hide (newC_succ text lv k hlt)
      have HN1 := hide (HNC.out text[k].toNat wo)
      generalize hT : row.take at_ ++ newC text lv k = T at *
      clear d0
      go_wp2_with fail
      refine (HN1.out).mono ?_
      rintro e w5 ⟨rfl, hb5⟩
      have hbo5 := hbo.trans (hb5.mono hbo.size)
      have hbA : Below w5.heap.size w5 (w5.alloc (.cells (cellG text[k].toNat lv noB (fun _ => lv) noB).toArray 188)) := below_box w5 _
      have hboA : Below w.heap.size w (w5.alloc (.cells (cellG text[k].toNat lv noB (fun _ => lv) noB).toArray 188)) := hbo5.alloc hbo5.size _
      have HVRA := hide ((HVR.out.below hb5).below hbA)
      have HNA := hide (Go.heap_alloc_new w5 (.cells (cellG text[k].toNat lv noB (fun _ => lv) noB).toArray 188))
      go_wp2_with (first | (refine wpList_slice_cell rfl (.tmp 40) text[k].toNat lv rfl rfl ?_) | (at_builtin; refine wpList_push rfl (.tmp 35) (.tmp 41) 105 rfl (.agg (cellG 0 0 noB noL noB).toArray) 160 Tryz.underlying105 Tryz.infoPCell rfl (by decide) rfl HVRA.out w5.heap.size 1 ⟨text[k].toNat, lv, []⟩ rfl 188 (0, 0) HNA.out (pcV_length c _) (HONE.out _) (by omega) (by decide) hboA.size (w5.heap.size + 1) (by simp) ?_; intro g6 cap6 w6 hown6 hgrow6 hat6 hlt6))
      have hb6 := hboA.trans (below_of_grown hgrow6 (fun b hb => (HVRA.out.lt hb).1) hboA.size)
      go_roundw
      case rel => exact ⟨k + 1, by omega, by go_num, by rw [HNS.out, ← List.append_assoc, hT]; exact hown6, hb6⟩
      case measure => simp [intOf]; omega
    · obtain rfl : k = text.size := by omega
      have hkc : decide ((text.size : Int) < (text.size : Int)) = false := by simp
      have d1 := (HROW.out.below hbo hgl).cells
      have HPI := hide (show putC row (newC text lv text.size) at_ = row.take at_ ++ newC text lv text.size ++ row.drop at_ from rfl)
      have hnl := newC_length text lv text.size
      generalize hT : row.take at_ ++ newC text lv text.size = T at *
      have HDO := hide (show row.length - at_ = (row.drop at_).length by simp)
      clear d0
      go_wp2_with (at_builtin; first | (refine wpList_pushes rfl (.tmp 43) (.tmp 49) 105 rfl (.agg (cellG 0 0 noB noL noB).toArray) 160 Tryz.underlying105 Tryz.infoPCell rfl (by decide) rfl HVR.out so2 (row.length - at_) (cap - at_) (row.drop at_) rfl HDO.out.symm HS2.out (HC2.out _ hbo) (pcV_length c) (fun p _ => HONE.out p) (by omega) (by decide) hbo.size ?_; intro v6 w6 hown6 hgrow6 hat6; have hb6 : Below w.heap.size w w6 := hbo.trans (below_of_grown hgrow6 (fun b hb => (HVR.out.lt hb).1) hbo.size); obtain ⟨ao6, cap6, hv6⟩ := hown6.shape; subst hv6; generalize hN6 : (T ++ row.drop at_).length = N6 at *; have d6 := (HROW.out.below hb6 hgl).cells; have f6 := (HROW.out.below hb6 hgl).frozen (q + 37)))
      go_end0
      exact ⟨rfl, w6, _, rfl, hb6, by rw [HPI.out]; exact hown6⟩
end Go.Proofs.YthgcpjdlcooncaaGreat
namespace Go.Proofs.YthgcpjdlcooncaaGreat
open Go.RowKit Veil
/-- What is in the document's block. -/
structure DocC (cs : Array Value) (n : Nat) (f : Nat → Nat → Bool) (rv : Value) (GR : Nat → Nat → Bool) (pv : Value) (I Lg : Nat → Nat) : Prop where
  size : cs.size = 124
  ord : cs.extract 0 37 = ordC n f
  rules : cs[37]? = some rv
  gr : ∀ a b, a < 6 → b < 6 → cs[38 + a * 6 + b]? = some (.bool (GR a b))
  rowo : cs.extract 74 111 = ordC n f
  cells : cs[111]? = some pv
  ins : ∀ i, i < 6 → cs[112 + i]? = some (.int .i64 (I i))
  log : ∀ i, i < 6 → cs[118 + i]? = some (.int .i64 (Lg i))
theorem extract_set {cs : Array Value} {i a b : Nat} {v : Value} (h : i < a ∨ b ≤ i) : (cs.setIfInBounds i v).extract a b = cs.extract a b := by
  apply Array.ext_getElem?
  intro j
  rw [Array.getElem?_extract, Array.getElem?_extract, Array.size_setIfInBounds, Array.getElem?_setIfInBounds]
  by_cases hj : j < min b cs.size - a
  · rw [if_pos hj, if_pos hj, if_neg (by omega)]
  · rw [if_neg hj, if_neg hj]
section
variable {cs : Array Value} {n : Nat} {f : Nat → Nat → Bool} {rv : Value} {GR : Nat → Nat → Bool} {pv : Value} {I Lg : Nat → Nat}
theorem DocC.setCells (h : DocC cs n f rv GR pv I Lg) (pv' : Value) : DocC (cs.setIfInBounds 111 pv') n f rv GR pv' I Lg := by
  have hs := h.size
  refine ⟨by simp [hs], by rw [extract_set (by omega)]; exact h.ord, ?_, fun a b ha hb => ?_, by rw [extract_set (by omega)]; exact h.rowo, ?_, fun i hi => ?_, fun i hi => ?_⟩
  · rw [Array.getElem?_setIfInBounds, if_neg (by omega)]; exact h.rules
  · rw [Array.getElem?_setIfInBounds, if_neg (by omega)]; exact h.gr a b ha hb
  · rw [Array.getElem?_setIfInBounds, if_pos rfl, if_pos (by omega)]
  · rw [Array.getElem?_setIfInBounds, if_neg (by omega)]; exact h.ins i hi
  · rw [Array.getElem?_setIfInBounds, if_neg (by omega)]; exact h.log i hi
theorem DocC.setIns (h : DocC cs n f rv GR pv I Lg) {l x : Nat} (hl : l < 6) {I' : Nat → Nat} (hI : ∀ i, i < 6 → I' i = if i = l then x else I i) : DocC (cs.setIfInBounds (112 + l) (.int .i64 x)) n f rv GR pv I' Lg := by
  have hs := h.size
  refine ⟨by simp [hs], by rw [extract_set (by omega)]; exact h.ord, ?_, fun a b ha hb => ?_, by rw [extract_set (by omega)]; exact h.rowo, ?_, fun i hi => ?_, fun i hi => ?_⟩
  · rw [Array.getElem?_setIfInBounds, if_neg (by omega)]; exact h.rules
  · rw [Array.getElem?_setIfInBounds, if_neg (by omega)]; exact h.gr a b ha hb
  · rw [Array.getElem?_setIfInBounds, if_neg (by omega)]; exact h.cells
  · rw [Array.getElem?_setIfInBounds, hI i hi]
    by_cases hil : i = l
    · subst hil; rw [if_pos rfl, if_pos (by omega), if_pos rfl]
    · rw [if_neg (by omega), if_neg hil]; exact h.ins i hi
  · rw [Array.getElem?_setIfInBounds, if_neg (by omega)]; exact h.log i hi
theorem DocC.setLog (h : DocC cs n f rv GR pv I Lg) {l x : Nat} (hl : l < 6) {Lg' : Nat → Nat} (hI : ∀ i, i < 6 → Lg' i = if i = l then x else Lg i) : DocC (cs.setIfInBounds (118 + l) (.int .i64 x)) n f rv GR pv I Lg' := by
  have hs := h.size
  refine ⟨by simp [hs], by rw [extract_set (by omega)]; exact h.ord, ?_, fun a b ha hb => ?_, by rw [extract_set (by omega)]; exact h.rowo, ?_, fun i hi => ?_, fun i hi => ?_⟩
  · rw [Array.getElem?_setIfInBounds, if_neg (by omega)]; exact h.rules
  · rw [Array.getElem?_setIfInBounds, if_neg (by omega)]; exact h.gr a b ha hb
  · rw [Array.getElem?_setIfInBounds, if_neg (by omega)]; exact h.cells
  · rw [Array.getElem?_setIfInBounds, if_neg (by omega)]; exact h.ins i hi
  · rw [Array.getElem?_setIfInBounds, hI i hi]
    by_cases hil : i = l
    · subst hil; rw [if_pos rfl, if_pos (by omega), if_pos rfl]
    · rw [if_neg (by omega), if_neg hil]; exact h.log i hi
end
/-- The document's block. -/
def PBox (w : World) (g n : Nat) (f : Nat → Nat → Bool) (rv : Value) (GR : Nat → Nat → Bool) (pv : Value) (I Lg : Nat → Nat) : Prop := ∃ cs, w.heap[g]? = some (.cells cs 111 (0, 0)) ∧ DocC cs n f rv GR pv I Lg
section
variable {w w' : World} {g n B : Nat} {f : Nat → Nat → Bool} {rv : Value} {GR : Nat → Nat → Bool} {pv : Value} {I Lg : Nat → Nat}
theorem PBox.below (h : PBox w g n f rv GR pv I Lg) (hb : Below B w w') (hg : g < B) : PBox w' g n f rv GR pv I Lg := by
  obtain ⟨cs, h1, h2⟩ := h; exact ⟨cs, Below.row hb h1 hg, h2⟩
theorem PBox.lt (h : PBox w g n f rv GR pv I Lg) : g < w.heap.size := by obtain ⟨cs, h1, h2⟩ := h; exact lt_of_row h1
theorem PBox.is (h : PBox w g n f rv GR pv I Lg) : partIs w g 0 37 := by obtain ⟨cs, h1, h2⟩ := h; exact ⟨cs, _, h1, by have := h2.size; omega⟩
theorem PBox.at (h : PBox w g n f rv GR pv I Lg) : partAt w g 0 37 = ordC n f := by obtain ⟨cs, h1, h2⟩ := h; unfold partAt; rw [rowAt_mk h1]; exact h2.ord
theorem PBox.not (h : PBox w g n f rv GR pv I Lg) : ¬ rowIs w g 37 := by
  obtain ⟨cs, h1, h2⟩ := h
  rintro ⟨cs', t', h3, h4⟩
  rw [h1] at h3
  simp only [Option.some.injEq, Obj.cells.injEq] at h3
  have := h2.size
  rw [h3.1] at this
  omega
theorem PBox.row (h : PBox w g n f rv GR pv I Lg) : PRowAt w g 74 n f pv := by obtain ⟨cs, h1, h2⟩ := h; exact ⟨cs, _, h1, h2.rowo, h2.cells⟩
theorem PBox.rules (h : PBox w g n f rv GR pv I Lg) : w.cell? ⟨g, 37, none⟩ = some rv := by obtain ⟨cs, h1, h2⟩ := h; rw [cell_of_row _ _ _ _ _ _ h1, h2.rules]
theorem PBox.gr (h : PBox w g n f rv GR pv I Lg) (a b : Nat) (ha : a < 6) (hb : b < 6) : w.cell? ⟨g, 38 + a * 6 + b, none⟩ = some (.bool (GR a b)) := by obtain ⟨cs, h1, h2⟩ := h; rw [cell_of_row _ _ _ _ _ _ h1, h2.gr a b ha hb]
theorem PBox.ins (h : PBox w g n f rv GR pv I Lg) (i : Nat) (hi : i < 6) : w.cell? ⟨g, 112 + i, none⟩ = some (.int .i64 (I i)) := by obtain ⟨cs, h1, h2⟩ := h; rw [cell_of_row _ _ _ _ _ _ h1, h2.ins i hi]
theorem PBox.log (h : PBox w g n f rv GR pv I Lg) (i : Nat) (hi : i < 6) : w.cell? ⟨g, 118 + i, none⟩ = some (.int .i64 (Lg i)) := by obtain ⟨cs, h1, h2⟩ := h; rw [cell_of_row _ _ _ _ _ _ h1, h2.log i hi]
theorem PBox.frozen (h : PBox w g n f rv GR pv I Lg) (i : Nat) : w.frozen? ⟨g, i, none⟩ = false := by obtain ⟨cs, h1, h2⟩ := h; exact frozen_of_row _ _ _ _ _ h1
theorem PBox.kept (h : PBox w g n f rv GR pv I Lg) (hk : w'.heap[g]? = w.heap[g]?) : PBox w' g n f rv GR pv I Lg := by obtain ⟨cs, h1, h2⟩ := h; exact ⟨cs, hk.trans h1, h2⟩
theorem PBox.setCells (h : PBox w g n f rv GR pv I Lg) (pv' : Value) : PBox (w.setCell ⟨g, 111, none⟩ pv') g n f rv GR pv' I Lg := by
  obtain ⟨cs, h1, h2⟩ := h; exact ⟨_, heap_setCell_same _ _ _ _ _ _ h1, h2.setCells pv'⟩
theorem PBox.setIns (h : PBox w g n f rv GR pv I Lg) {l x : Nat} (hl : l < 6) {I' : Nat → Nat} (hI : ∀ i, i < 6 → I' i = if i = l then x else I i) : PBox (w.setCell ⟨g, 112 + l, none⟩ (.int .i64 x)) g n f rv GR pv I' Lg := by
  obtain ⟨cs, h1, h2⟩ := h; exact ⟨_, heap_setCell_same _ _ _ _ _ _ h1, h2.setIns hl hI⟩
theorem PBox.setLog (h : PBox w g n f rv GR pv I Lg) {l x : Nat} (hl : l < 6) {Lg' : Nat → Nat} (hI : ∀ i, i < 6 → Lg' i = if i = l then x else Lg i) : PBox (w.setCell ⟨g, 118 + l, none⟩ (.int .i64 x)) g n f rv GR pv I Lg' := by
  obtain ⟨cs, h1, h2⟩ := h; exact ⟨_, heap_setCell_same _ _ _ _ _ _ h1, h2.setLog hl hI⟩
end
def ruleV (r : ByteArray × Int) : List Value := [.string r.1, .int .i64 r.2]
/-- From a level to a target there is a grant. -/
def grF (c : Cfg) (a b : Nat) : Bool := c.grants.any (grantIs a b)
/-- A configuration that is right. -/
structure CfgRight (c : Cfg) : Prop where
  labels : labelsB c = true
  lat : ¬ c.noLat
  rules : rulesB c = true
  grants : grantsB c = true
theorem CfgRight.rule {c : Cfg} (h : CfgRight c) : c.rules.length ≤ 8 ∧ ∀ r, r ∈ c.rules → validB r.1 = true ∧ okL c.labels r.2 = true := by
  have hr := h.rules
  unfold rulesB at hr
  simp only [Bool.and_eq_true, decide_eq_true_eq] at hr
  refine ⟨hr.1, fun r hr' => ?_⟩
  have key : ∀ k, k ≤ c.rules.length → rulesToB c k = true → ∀ i, i < k → ∀ r, c.rules[i]? = some r → validB r.1 = true ∧ okL c.labels r.2 = true := by
    intro k
    induction k with
    | zero => intro _ _ i hi; omega
    | succ k ih =>
      intro hk ht i hi r hri
      rw [rulesToB] at ht
      have hck : c.rules[k]? = some (c.rules[k]'(by omega)) := List.getElem?_eq_getElem (by omega)
      simp only [hck, Bool.and_eq_true] at ht
      by_cases hik : i = k
      · subst hik
        rw [hck] at hri
        obtain rfl := Option.some.inj hri
        have := ht.2
        unfold ruleOk at this
        simp only [Bool.and_eq_true] at this
        exact ⟨this.1.1, this.1.2⟩
      · exact ih (by omega) ht.1 i (by omega) r hri
  obtain ⟨i, hi, he⟩ := List.getElem_of_mem hr'
  exact key _ (Nat.le_refl _) hr.2 i hi r (by rw [← he]; exact List.getElem?_eq_getElem hi)
theorem leO_leI {c : Cfg} (hl : labelsB c = true) (a : Int) (b : Nat) (ha : okL c.labels a = true) (hb : b < c.n) : leO c.n (tT c) a b = c.le a b := by
  obtain ⟨_, _, _, _, hn, _, _⟩ := labels_of hl
  obtain ⟨x, rfl, hx⟩ := okL_nat' hn ha
  exact leO_le hl x b hx hb
def againstTo (c : Cfg) (d k : Nat) : List ByteArray := ((c.rules.take k).filter fun r => !c.le r.2 d).map (·.1)
theorem againstTo_all (c : Cfg) (d : Nat) : againstTo c d c.rules.length = againstL c d := by unfold againstTo againstL; rw [List.take_length]
theorem againstTo_yes {c : Cfg} {d k : Nat} {r : ByteArray × Int} (h : c.rules[k]? = some r) (hle : c.le r.2 d = false) : againstTo c d (k + 1) = againstTo c d k ++ [r.1] := by
  unfold againstTo; rw [List.take_add_one, h, List.filter_append, List.map_append]; simp [hle]
theorem againstTo_no {c : Cfg} {d k : Nat} {r : ByteArray × Int} (h : c.rules[k]? = some r) (hle : c.le r.2 d = true) : againstTo c d (k + 1) = againstTo c d k := by
  unfold againstTo; rw [List.take_add_one, h, List.filter_append, List.map_append]; simp [hle]
theorem againstTo_length (c : Cfg) (d k : Nat) : (againstTo c d k).length ≤ k := by
  unfold againstTo
  rw [List.length_map]
  refine Nat.le_trans (List.length_filter_le _ _) ?_
  simp; omega
theorem Tryz.infoStr : (Tryz.prog.info? 9).map (fun i => (i.zero, i.size, i.bytes)) = some (some (.string ⟨#[]⟩), 1, 16) := by kernel_rfl
set_option maxRecDepth 100000 in
set_option maxHeartbeats 8000000 in
theorem dcAgainst_any (c : Cfg) (g n : Nat) (f : Nat → Nat → Bool) (rv pv : Value) (GR : Nat → Nat → Bool) (I Lg : Nat → Nat) (B lv : Nat) (w : World) (hbox : PBox w g n f rv GR pv I Lg) (hrl : OwnL 96 2 ruleV w B rv c.rules) (hn : n = c.n) (hf : f = tT c) (hR : CfgRight c) (hlv : lv < c.n) :
    Calls Tryz.prog 128 #[.pointer (some ⟨g, 0, none⟩), .int .i64 lv] w fun e w' => ∃ vl, e = .returned vl ∧ OwnL 9 1 strV w' w.heap.size vl (againstL c lv) ∧ Below w.heap.size w w' := by
  obtain ⟨_, _, _, _, _, hn6, _⟩ := labels_of hR.labels
  have hn6' : n ≤ 6 := by omega
  obtain ⟨hr8, hrr⟩ := hR.rule
  have HLQ := hide (fun (r : ByteArray × Int) (hr : r ∈ c.rules) (w' : World) => show Calls Tryz.prog 66 #[.agg (ordC n f), .int .i64 r.2, .int .i64 lv] w' fun e w'' => e = .returned (.bool (c.le r.2 lv)) ∧ Below w'.heap.size w' w'' from (oleq_any n f r.2 lv w' hn6').mono fun e w'' ⟨h1, h2⟩ => ⟨by
    rw [h1]; subst hn; subst hf
    exact ret_bool (leO_leI hR.labels _ _ (hrr r hr).2 hlv), h2⟩)
  have HBOX := hide hbox
  have HRL := hide hrl
  have HAL := hide (againstTo_all c lv)
  have hgl := hbox.lt
  obtain ⟨ao, cap, hrv⟩ := hrl.shape
  subst hrv
  have d0 := hbox.rules
  clear hbox hrl hn hf hR hlv hrr hn6
  go_enter Tryz.func128, Tryz.ntmps128
  go_wp2
  clear d0
  go_loopw [5, 13] (fun vl i wr => ∃ k : Nat, k ≤ c.rules.length ∧ i = .int .i64 k ∧ OwnL 9 1 strV wr w.heap.size vl (againstTo c lv k) ∧ Below w.heap.size w wr) (fun _ i _ => c.rules.length - (intOf i).toNat)
  case atStart => exact ⟨0, Nat.zero_le _, rfl, OwnL.nil _ _ _ _ _, Below.refl _ _⟩
  case round =>
    obtain ⟨wo, rfl⟩ : ∃ x, x = wr := ⟨_, rfl⟩
    obtain ⟨k, hk, rfl, hvl, hbel⟩ := hrel
    have HVL := hide hvl
    clear hvl
    by_cases hlt : k < c.rules.length
    · have hki : (k : Int) < (c.rules.length : Int) := by omega
      obtain ⟨rb, cp, hvv, _, hrbl⟩ := HRL.out.form (by omega)
      simp only [Value.slice.injEq] at hvv
      obtain ⟨rfl, _, rfl⟩ := hvv
      have hej : c.rules[k]? = some c.rules[k] := List.getElem?_eq_getElem hlt
      have c0 := HRL.out.cell (show ∀ a, (ruleV a).length = 2 from fun _ => rfl) rfl hej (j := 0) (by omega)
      have c1 := HRL.out.cell (show ∀ a, (ruleV a).length = 2 from fun _ => rfl) rfl hej (j := 1) (by omega)
      have HQX := hide (fun w' => HLQ.out c.rules[k] (List.getElem_mem hlt) w')
      have HYES := hide (fun h => againstTo_yes (d := lv) hej h)
      have HNO := hide (fun h => againstTo_no (d := lv) hej h)
      have hal := againstTo_length c lv k
      generalize c.rules[k] = r at *
      obtain ⟨r1, r2⟩ := r
      have e0 : wo.cell? ⟨rb, k * 2, none⟩ = some (.string r1) := (hbel.cell (p := ⟨rb, k * 2, none⟩) hrbl).trans c0
      have e1 : wo.cell? ⟨rb, k * 2 + 1, none⟩ = some (.int .i64 r2) := (hbel.cell (p := ⟨rb, k * 2 + 1, none⟩) hrbl).trans c1
      have hbB : Below wo.heap.size wo (wo.alloc (.cells #[.string r1, .int .i64 r2] 96)) := below_box _ _
      have hbelB := hbel.trans (hbB.mono hbel.size)
      have HBB := hide (show PBox (wo.alloc (.cells #[.string r1, .int .i64 r2] 96)).drew g n f _ GR pv I Lg from HBOX.out.below hbelB.drew hgl)
      have HNB := hide (Go.heap_alloc_new wo (.cells #[.string r1, .int .i64 r2] 96))
      have iB := HBB.out.is
      have aB := HBB.out.at
      have s0 : (wo.alloc (.cells #[.string r1, .int .i64 r2] 96)).cell? ⟨wo.heap.size, 0, none⟩ = some (.string r1) := by rw [cell_of_row _ _ _ _ _ _ HNB.out]; rfl
      have s1 : (wo.alloc (.cells #[.string r1, .int .i64 r2] 96)).cell? ⟨wo.heap.size, 1, none⟩ = some (.int .i64 r2) := by rw [cell_of_row _ _ _ _ _ _ HNB.out]; rfl
      have HVB := hide (HVL.out.below hbB)
      have hsB : wo.heap.size < (wo.alloc (.cells #[.string r1, .int .i64 r2] 96)).heap.size := by simp
      have hltB := HBB.out.lt
      have HQB := hide (HQX.out (wo.alloc (.cells #[.string r1, .int .i64 r2] 96)).drew)
      simp only at HQB HYES HNO
      clear hej c0 c1
      go_wp2_with fail
      refine wp_region_held_drew (S := (fun w' => ((partIs w' g 0 37 ∧ partAt w' g 0 37 = ordC n f) ∧ w'.cell? ⟨wo.heap.size, 1, none⟩ = some (.int .i64 r2)))) (by kernel_rfl) ?_ (fun hHeld => ?_)
      · exact ⟨⟨iB, aB⟩, s1⟩
      refine takeW 0 (some 17) ?_ rfl rfl (by kernel_rfl) (by kernel_rfl) (by kernel_rfl) (fun _ _ _ h => h) ?_ (by assumption) ?_
      rotate_left 1
      · (intro o ho w hSw; obtain rfl := Option.some.inj ho; clear ho; (try dsimp only at hSw); go_simp; try (with_reducible rfl))
      (try simp only [Act.put, List.setIfInBounds_toArray, List.set_cons_zero, List.set_cons_succ])
      refine takeW 1 (some 18) ?_ rfl rfl (by kernel_rfl) (by kernel_rfl) (by kernel_rfl) (fun _ _ _ h => h) ?_ (by assumption) ?_
      rotate_left 1
      · (intro o ho w hSw; obtain rfl := Option.some.inj ho; clear ho; (try dsimp only at hSw); go_simp; try (with_reducible rfl))
      (try simp only [Act.put, List.setIfInBounds_toArray, List.set_cons_zero, List.set_cons_succ])
      refine takeW 2 (some 19) ?_ rfl rfl (by kernel_rfl) (by kernel_rfl) (by kernel_rfl) (fun _ _ _ h => h) ?_ (by assumption) ?_
      rotate_left 1
      · (intro o ho w hSw; obtain rfl := Option.some.inj ho; clear ho; (try dsimp only at hSw); go_simp; try (with_reducible rfl))
      (try simp only [Act.put, List.setIfInBounds_toArray, List.set_cons_zero, List.set_cons_succ])
      refine takeW 3 (some 20) (.agg (ordC n f)) rfl rfl (by kernel_rfl) (by kernel_rfl) (by kernel_rfl) (fun _ _ _ h => h) ?_ (by assumption) ?_
      · (intro o ho w hSw; obtain rfl := Option.some.inj ho; clear ho; exact exec_load_ord rfl rfl hSw.1.1 hSw.1.2)
      (try simp only [Act.put, List.setIfInBounds_toArray, List.set_cons_zero, List.set_cons_succ])
      refine takeW 4 (some 21) ?_ rfl rfl (by kernel_rfl) (by kernel_rfl) (by kernel_rfl) (fun _ _ _ h => h) ?_ (by assumption) ?_
      rotate_left 1
      · (intro o ho w hSw; obtain rfl := Option.some.inj ho; clear ho; (try dsimp only at hSw); go_simp; try (with_reducible rfl))
      (try simp only [Act.put, List.setIfInBounds_toArray, List.set_cons_zero, List.set_cons_succ])
      refine takeW 5 (some 22) ?_ rfl rfl (by kernel_rfl) (by kernel_rfl) (by kernel_rfl) (fun _ _ _ h => h) ?_ (by assumption) ?_
      rotate_left 1
      · (intro o ho w hSw; obtain rfl := Option.some.inj ho; clear ho; (try dsimp only at hSw); go_simp; try (with_reducible rfl))
      (try simp only [Act.put, List.setIfInBounds_toArray, List.set_cons_zero, List.set_cons_succ])
      refine takeW 6 (some 23) ?_ rfl rfl (by kernel_rfl) (by kernel_rfl) (by kernel_rfl) (fun _ _ _ h => h) ?_ (by assumption) ?_
      rotate_left 1
      · (intro o ho w hSw; obtain rfl := Option.some.inj ho; clear ho; (try dsimp only at hSw); go_simp; try (with_reducible rfl))
      (try simp only [Act.put, List.setIfInBounds_toArray, List.set_cons_zero, List.set_cons_succ])
      refine wpAnyH_ready (rs := [7]) (by kernel_rfl) (by simp) ?_
      refine AllReadyH.cons rfl (fun K hK => ?_) AllReadyH.nil
      go_simp
      go_wp2_with (go_at_call 66; refine (HQB.out).mono ?_; rintro e w5 ⟨rfl, hb5⟩; have HR5 := hide (HBB.out.below hb5 hltB); have i5 := HR5.out.is; have a5 := HR5.out.at; have t0 := (hb5.cell (p := ⟨wo.heap.size, 0, none⟩) hsB).trans s0; have t1 := (hb5.cell (p := ⟨wo.heap.size, 1, none⟩) hsB).trans s1)
      refine hK.out _ _ ?_ (fun hHeld => ?_)
      · exact ⟨⟨i5, a5⟩, t1⟩
      clear hK K
      refine takeW 8 (some 25) ?_ rfl rfl (by kernel_rfl) (by kernel_rfl) (by kernel_rfl) (fun _ _ _ h => h) ?_ (by assumption) ?_
      rotate_left 1
      · (intro o ho w hSw; obtain rfl := Option.some.inj ho; clear ho; (try dsimp only at hSw); go_simp; try (with_reducible rfl))
      (try simp only [Act.put, List.setIfInBounds_toArray, List.set_cons_zero, List.set_cons_succ])
      refine wpAnyH_done (by kernel_rfl) ?_ _
      have hbel5 := hbelB.drew.trans (hb5.mono hbelB.drew.size)
      have HV5 := hide (show OwnL 9 1 strV w5 w.heap.size _ (againstTo c lv k) from OwnL.below (w := (wo.alloc (.cells #[.string r1, .int .i64 r2] 96)).drew) HVB.out hb5)
      clear iB aB s0 s1 i5 a5 t1 e0 e1
      cases hle : c.le r2 lv
      · have HY1 := hide (HYES.out hle)
        have hbC : Below w5.heap.size w5 (w5.alloc (.cells #[.string r1] 9)) := below_box _ _
        have hbelC := hbel5.trans (hbC.mono hbel5.size)
        have HVC := hide (HV5.out.below hbC)
        have HNC := hide (Go.heap_alloc_new w5 (.cells #[.string r1] 9))
        clear hle
        go_wp2_with (at_builtin; refine wpList_push rfl (.tmp 26) (.tmp 29) 180 rfl (.string ⟨#[]⟩) 16 Tryz.underlying180 Tryz.infoStr rfl (by decide) rfl HVC.out w5.heap.size 1 r1 rfl 9 (0, 0) HNC.out rfl (by intro u hu; simp [strV] at hu; rcases hu with rfl; rfl) (by omega) (by decide) hbelC.size (w5.heap.size + 1) (by simp) ?_; intro g6 cap6 w6 hown6 hgrow6 hat6 hlt6)
        have hb6 := hbelC.trans (below_of_grown hgrow6 (fun b hb => (HVC.out.lt hb).1) hbelC.size)
        go_roundw
        case rel => exact ⟨k + 1, by omega, by go_num, by rw [HY1.out]; exact hown6, hb6⟩
        case measure => simp [intOf]; omega
      · have HN1 := hide (HNO.out hle)
        clear hle
        go_wp2
        go_roundw
        case rel => exact ⟨k + 1, by omega, by go_num, by rw [HN1.out]; exact HV5.out, hbel5⟩
        case measure => simp [intOf]; omega
    · obtain rfl : k = c.rules.length := by omega
      have hkc : decide ((c.rules.length : Int) < (c.rules.length : Int)) = false := by simp
      go_wp2
      go_ret
      exact ⟨_, rfl, by rw [← HAL.out]; exact HVL.out, hbel⟩
/-- What is needed of the row. -/
structure RowGood (c : Cfg) (row : List RC) : Prop where
  cells : ∀ x, x ∈ row → RCOk c x ∧ x.b ≠ 35
  length : row.length ≤ 1200
theorem RowGood.by {c : Cfg} {row : List RC} (h : RowGood c row) (r : Nat) : byF row r < 256 := by
  unfold byF cellAt
  cases hr : row[r]? with
  | none => simp [List.getD, hr]
  | some x => simp only [List.getD, hr, Option.getD_some]; exact (h.cells x (List.mem_of_getElem? hr)).1.byte
theorem RowGood.no {c : Cfg} {row : List RC} (h : RowGood c row) (r : Nat) : byF row r ≠ 35 := by
  unfold byF cellAt
  cases hr : row[r]? with
  | none => simp [List.getD, hr]
  | some x => simp only [List.getD, hr, Option.getD_some]; exact (h.cells x (List.mem_of_getElem? hr)).2
set_option maxRecDepth 100000 in
set_option maxHeartbeats 8000000 in
theorem dcPlaces_any (c : Cfg) (row : List RC) (g n : Nat) (f : Nat → Nat → Bool) (rv pv : Value) (GR : Nat → Nat → Bool) (I Lg : Nat → Nat) (B lv : Nat) (w : World) (hbox : PBox w g n f rv GR pv I Lg) (hrl : OwnL 96 2 ruleV w B rv c.rules) (hce : OwnL 188 20 (pcV c) w B pv row) (hn : n = c.n) (hf : f = tT c) (hR : CfgRight c) (hrow : RowGood c row) (hlv : lv < c.n) :
    Calls Tryz.prog 99 #[.pointer (some ⟨g, 0, none⟩), .int .i64 lv] w fun e w' => ∃ vl, e = .returned vl ∧ OwnL 148 3 placeV w' w.heap.size vl (placesR c row lv) ∧ Below w.heap.size w w' := by
  have hlen := hrow.length
  have HF := hide (rwFirst_any c row g 74 n f pv B lv w hce hbox.row hn hf hR.labels hR.lat (fun x hx => (hrow.cells x hx).1) hlv (by decide) (by omega))
  have HA := hide (fun (w' : World) (hb : Below w.heap.size w w') => dcAgainst_any c g n f rv pv GR I Lg B lv w' (hbox.below hb hbox.lt) (hrl.below hb) hn hf hR hlv)
  obtain ⟨hr8, hrr⟩ := hR.rule
  have hfl := firstTo_length c row lv row.length
  have hal := againstTo_length c lv c.rules.length
  rw [againstTo_all] at hal
  have HO := hide (fun (w' : World) (vs va : Value) (hvs : SeqV 4 seV w' vs (firstTo c row lv row.length)) (hva : SeqV 1 strV w' va (againstL c lv)) => vwOf_any (firstTo c row lv row.length) (againstL c lv) vs va w' hvs hva (by omega) (by omega) (fun x hx => by
    unfold firstTo at hx
    obtain ⟨r, _, rfl⟩ := List.mem_map.1 hx
    exact hrow.by r) (fun p hp => by
    unfold againstL at hp
    obtain ⟨r, hr, rfl⟩ := List.mem_map.1 hp
    exact (hrr r (List.mem_filter.1 hr).1).1))
  have HPS := hide (places_same c row lv hrow.by (fun r _ => hrow.no r))
  rw [HPS.out] at HO
  clear HPS hbox hrl hce hn hf hR hrow hlv hrr
  go_enter Tryz.func99, Tryz.ntmps99
  go_wp2_with fail
  refine (HF.out).mono ?_
  rintro e w1 ⟨vs, rfl, hvs, hb1⟩
  obtain ⟨ao1, cap1, hvv⟩ := hvs.shape
  subst hvv
  have HVS := hide hvs
  clear hvs
  go_wp2_with fail
  refine (HA.out _ hb1).mono ?_
  rintro e w2 ⟨va, rfl, hva, hb2⟩
  obtain ⟨ao2, cap2, hvv⟩ := hva.shape
  subst hvv
  have hbw2 := hb1.trans (hb2.mono hb1.size)
  have HO1 := hide (HO.out w2 _ _ ((HVS.out.below hb2).seqV (show ∀ a, (seV a).length = 4 from fun _ => rfl)) (hva.seqV (show ∀ a, (strV a).length = 1 from fun _ => rfl)))
  clear hva
  go_wp2_with fail
  refine (HO1.out).mono ?_
  rintro e w3 ⟨vp, rfl, hvp, hb3⟩
  go_wp2
  go_ret
  exact ⟨_, rfl, hvp.mono hbw2.size, hbw2.trans (hb3.mono hbw2.size)⟩
set_option maxRecDepth 100000 in
set_option maxHeartbeats 8000000 in
theorem dcText_any (c : Cfg) (row : List RC) (g n : Nat) (f : Nat → Nat → Bool) (rv pv : Value) (GR : Nat → Nat → Bool) (I Lg : Nat → Nat) (B lv : Nat) (w : World) (hbox : PBox w g n f rv GR pv I Lg) (hrl : OwnL 96 2 ruleV w B rv c.rules) (hce : OwnL 188 20 (pcV c) w B pv row) (hn : n = c.n) (hf : f = tT c) (hR : CfgRight c) (hrow : RowGood c row) (hlv : lv < c.n) :
    Calls Tryz.prog 79 #[.pointer (some ⟨g, 0, none⟩), .int .i64 lv] w fun e w' => e = .returned (.string (viewT (placesR c row lv))) ∧ Below w.heap.size w w' := by
  have HP := hide (dcPlaces_any c row g n f rv pv GR I Lg B lv w hbox hrl hce hn hf hR hrow hlv)
  obtain ⟨h1, h2⟩ := placesR_ok c row lv (fun x hx => (hrow.cells x hx).1.byte)
  have hlen := hrow.length
  have HT := hide (fun (w' : World) (vs : Value) (hvs : SeqV 3 placeV w' vs (placesR c row lv)) => vwText_any (placesR c row lv) vs w' hvs (by omega) (fun j => plB_ok h2 j))
  clear hbox hrl hce hn hf hR hrow hlv h1 h2
  generalize placesR c row lv = P at *
  go_enter Tryz.func79, Tryz.ntmps79
  go_wp2_with fail
  refine (HP.out).mono ?_
  rintro e w1 ⟨vs, rfl, hvs, hb1⟩
  have HT1 := hide (HT.out w1 vs (hvs.seqV (show ∀ a, (placeV a).length = 3 from fun _ => rfl)))
  obtain ⟨ao1, cap1, hvv⟩ := hvs.shape
  subst hvv
  clear hvs
  go_wp2_with fail
  refine (HT1.out).mono ?_
  rintro e w2 ⟨rfl, hb2⟩
  go_wp2
  go_ret
  exact ⟨rfl, hb1.trans (hb2.mono hb1.size)⟩
end Go.Proofs.YthgcpjdlcooncaaGreat
