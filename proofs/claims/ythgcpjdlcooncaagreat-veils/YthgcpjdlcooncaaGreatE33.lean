/- Row4. -/
import Derived.Test.YthgcpjdlcooncaaGreatE32
namespace Go.Proofs.YthgcpjdlcooncaaGreat
open Go.RowKit Veil
def goneD (c : Cfg) (x : RC) (d : Nat) : Bool := x.marks.any (goneB c d)
def labD (c : Cfg) (x : RC) (d : Nat) : Nat := (seenF c x d).1
def freeD (c : Cfg) (x : RC) (d : Nat) : Bool := (seenF c x d).2
/-- The program's cell for a cell of the document's. -/
def pcV (c : Cfg) (x : RC) : List Value := cellG x.b x.origin (goneD c x) (labD c x) (freeD c x)
theorem pcV_length (c : Cfg) (x : RC) : (pcV c x).length = 20 := cellG_length ..
theorem pcV_new (c : Cfg) (b o : Nat) : pcV c ⟨b, o, []⟩ = cellG b o noB (fun _ => o) noB := rfl
theorem le_past {c : Cfg} (a d : Nat) (hd : c.n ≤ d) : c.le a d = false := by
  unfold Cfg.le leB
  have : (roundsL c.edges c.n (startL c.n a)).length = c.n := by rw [roundsL_length]; simp [startL]
  simp only [Int.toNat_natCast]
  rw [List.getD, List.getElem?_eq_none (by omega)]; rfl
theorem leD_le {c : Cfg} (hl : labelsB c = true) (a d : Nat) (ha : a < c.n) : leD c.n (tT c) a d = c.le a d := by
  unfold leD
  by_cases hd : d < c.n
  · exact leO_le hl a d ha hd
  · rw [le_past a d (by omega)]
    unfold leO
    have : okL c.n d = false := by simp [okL]; omega
    rw [this]; simp
theorem seenF_marked (c : Cfg) (x : RC) (m : Mk) (d : Nat) : seenF c (marked m x) d = seenS c x.origin d (seenF c x d) m := by
  unfold seenF marked; rw [List.foldl_append]; rfl
theorem goneD_marked (c : Cfg) (x : RC) (m : Mk) (d : Nat) : goneD c (marked m x) d = (goneD c x d || goneB c d m) := by
  unfold goneD marked; rw [List.any_append]; simp
theorem pcV_deleted {c : Cfg} (hl : labelsB c = true) (x : RC) (lv lb : Nat) (h : lv < c.n) : cellG x.b x.origin (upK (leD c.n (tT c) lv) true (goneD c x) 6) (labD c x) (freeD c x) = pcV c (marked ⟨2, lv, lb⟩ x) := by
  refine cellG_congr _ _ (fun d hd => ?_)
  have hs : seenF c (marked ⟨2, lv, lb⟩ x) d = seenF c x d := by
    rw [seenF_marked]; unfold seenS; cases c.le lv d <;> rfl
  refine ⟨?_, by unfold labD; rw [hs], by unfold freeD; rw [hs]⟩
  rw [goneD_marked]
  unfold upK goneB
  rw [leD_le hl lv d h]
  simp only [hd, decide_true, Bool.true_and, beq_self_eq_true]
  cases c.le lv d <;> simp
theorem pcV_released {c : Cfg} (hl : labelsB c = true) (x : RC) (lv lb : Nat) (h : lv < c.n) : cellG x.b x.origin (goneD c x) (upL (leD c.n (tT c) lv) (fun _ => x.origin) (labD c x) 6) (upK (leD c.n (tT c) lv) true (freeD c x) 6) = pcV c (marked ⟨4, lv, lb⟩ x) := by
  refine cellG_congr _ _ (fun d hd => ?_)
  have hs : seenF c (marked ⟨4, lv, lb⟩ x) d = bif c.le lv d then (x.origin, true) else seenF c x d := by
    rw [seenF_marked]; unfold seenS; cases c.le lv d <;> rfl
  refine ⟨?_, ?_, ?_⟩
  · rw [goneD_marked]; unfold goneB; simp
  · unfold labD upL; rw [hs, leD_le hl lv d h]
    simp only [hd, decide_true, Bool.true_and]
    cases c.le lv d <;> rfl
  · unfold freeD upK; rw [hs, leD_le hl lv d h]
    simp only [hd, decide_true, Bool.true_and]
    cases c.le lv d <;> rfl
theorem joinN_join {c : Cfg} (hl : labelsB c = true) (lb a : Nat) (hlb : lb < c.n) (ha : a < c.n) : joinN c.n (tT c) lb a = (c.join a lb).toNat := by
  unfold joinN
  rw [leastO_join hl a lb ha hlb]
  unfold posI
  split <;> omega
theorem pcV_raised {c : Cfg} (hl : labelsB c = true) (hlat : ¬ c.noLat) (x : RC) (hx : RCOk c x) (lv lb : Nat) (h : lv < c.n) (hb : lb < c.n) : cellG x.b x.origin (goneD c x) (upL (leD c.n (tT c) lv) (fun d => joinN c.n (tT c) lb (labD c x d)) (labD c x) 6) (upK (leD c.n (tT c) lv) false (freeD c x) 6) = pcV c (marked ⟨3, lv, lb⟩ x) := by
  refine cellG_congr _ _ (fun d hd => ?_)
  have hs : seenF c (marked ⟨3, lv, lb⟩ x) d = bif c.le lv d then ((c.join (seenF c x d).1 lb).toNat, false) else seenF c x d := by
    rw [seenF_marked]; unfold seenS; cases c.le lv d <;> rfl
  have hlt := seenF_lt hlat hx d
  refine ⟨?_, ?_, ?_⟩
  · rw [goneD_marked]; unfold goneB; simp
  · unfold labD upL; rw [hs, leD_le hl lv d h]
    simp only [hd, decide_true, Bool.true_and]
    cases c.le lv d
    · rfl
    · simp only [cond_true]; exact joinN_join hl lb _ hb hlt
  · unfold freeD upK; rw [hs, leD_le hl lv d h]
    simp only [hd, decide_true, Bool.true_and]
    cases c.le lv d <;> rfl
theorem thereP_there {c : Cfg} (hl : labelsB c = true) (x : RC) (hx : RCOk c x) (d : Nat) : thereP c.n (tT c) x.origin (goneD c x) d = thereB c x d := by
  unfold thereP thereB goneD
  have := leD_le hl x.origin d hx.origin
  unfold leD at this
  rw [this, Bool.and_comm]
section
variable {α : Type} {e : TypeId} {sz : Nat} {f : α → List Value} {w : World} {B : Nat} {v : Value} {l : List α}
/-- One of the things, as one. -/
theorem OwnL.part (hf : ∀ a, (f a).length = sz) (h : OwnL e sz f w B v l) {g : Nat} (hg : v.ownBlock = some g) {i : Nat} {a : α} (hi : l[i]? = some a) : partIs w g (i * sz) sz ∧ partAt w g (i * sz) sz = (f a).toArray := by
  obtain ⟨cap, cur, hv, hr, hs, hl, hm, ht, hB⟩ := h.row hg
  have hil : i < l.length := (List.getElem?_eq_some_iff.1 hi).1
  have hle : i * sz + sz ≤ cur.size := by
    rw [hs]
    have : (i + 1) * sz ≤ cap * sz := Nat.mul_le_mul_right _ (by omega)
    rw [Nat.add_mul] at this; omega
  refine ⟨⟨cur, e, hr, hle⟩, ?_⟩
  unfold partAt
  rw [rowAt_mk hr]
  apply Array.ext_getElem?
  intro j
  by_cases hj : j < sz
  · have hc := h.cell hf hg hi hj
    rw [cell_of_row _ _ _ _ _ _ hr] at hc
    rw [Array.getElem?_extract, if_pos (by omega), hc]
    simp
  · rw [Array.getElem?_eq_none (by simp; omega), List.getElem?_toArray, List.getElem?_eq_none (by rw [hf]; omega)]
theorem flat_put (hf : ∀ a, (f a).length = sz) : ∀ (l : List α) (i : Nat) (a' : α) (j : Nat), i < l.length → ((l.set i a').flatMap f)[j]? = if i * sz ≤ j ∧ j < i * sz + sz then (f a')[j - i * sz]? else (l.flatMap f)[j]?
  | [], i, a', j, h => by simp at h
  | b :: l, 0, a', j, h => by
    simp only [List.set_cons_zero, List.flatMap_cons, Nat.zero_mul, Nat.zero_add, Nat.zero_le, true_and, Nat.sub_zero]
    by_cases hj : j < sz
    · rw [if_pos hj, List.getElem?_append_left (by rw [hf]; exact hj)]
    · rw [if_neg hj, List.getElem?_append_right (by rw [hf]; omega), List.getElem?_append_right (by rw [hf]; omega), hf, hf]
  | b :: l, i + 1, a', j, h => by
    simp only [List.set_cons_succ, List.flatMap_cons]
    by_cases hj : j < sz
    · rw [if_neg (by rw [Nat.add_mul]; omega), List.getElem?_append_left (by rw [hf]; exact hj), List.getElem?_append_left (by rw [hf]; exact hj)]
    · rw [List.getElem?_append_right (by rw [hf]; omega), List.getElem?_append_right (by rw [hf]; omega), hf, flat_put hf l i a' (j - sz) (by simpa using h)]
      by_cases h2 : i * sz ≤ j - sz ∧ j - sz < i * sz + sz
      · rw [if_pos h2, if_pos (by rw [Nat.add_mul]; omega), show j - (i + 1) * sz = j - sz - i * sz by rw [Nat.add_mul]; omega]
      · rw [if_neg h2, if_neg (by rw [Nat.add_mul]; omega)]
theorem OwnL.put (hf : ∀ a, (f a).length = sz) (h : OwnL e sz f w B v l) {g : Nat} (hg : v.ownBlock = some g) {i : Nat} (hi : i < l.length) (a' : α) : OwnL e sz f (w.setCells g (i * sz) (f a')) B v (l.set i a') := by
  obtain ⟨cap, cur, hv, hr, hs, hl, hm, ht, hB⟩ := h.row hg
  have hle : i * sz + sz ≤ l.length * sz := by
    have : (i + 1) * sz ≤ l.length * sz := Nat.mul_le_mul_right _ hi
    rw [Nat.add_mul] at this; omega
  have hcl : l.length * sz ≤ cap * sz := Nat.mul_le_mul_right _ hl
  have hlen : ∀ l : List α, (l.flatMap f).length = l.length * sz := fun l => flat_length hf l
  refine ⟨?_, Or.inr ⟨g, cap, putCells cur (i * sz) (f a'), ?_, hB, heap_setCells_same g e (f a') _ w cur hr, ?_, hm, ?_, ?_⟩⟩
  · rw [hlen]
  · rw [List.length_set]; exact hv
  · rw [List.length_set]; exact hl
  · rw [putCells_size]; exact hs
  · apply List.ext_getElem?
    intro j
    rw [flat_put hf l i a' j hi, List.length_set, List.getElem?_take, Array.getElem?_toList, putCells_get _ _ _ _ (by rw [hf, hs]; omega), hf]
    by_cases hj : j < l.length * sz
    · rw [if_pos hj]
      by_cases h2 : i * sz ≤ j ∧ j < i * sz + sz
      · rw [if_pos h2, if_pos h2]
      · rw [if_neg h2, if_neg h2, ← ht, List.getElem?_take, if_pos hj, Array.getElem?_toList]
    · rw [if_neg hj, if_neg (by omega), List.getElem?_eq_none (by rw [hlen]; omega)]
end
/-- Is a cell meant, by the program? -/
def meantP (n : Nat) (f : Nat → Nat → Bool) (o : Nat) (G : Nat → Bool) (lv first last i : Nat) : Bool := decide (first ≤ i) && decide (i ≤ last) && thereP n f o G lv
set_option maxRecDepth 100000 in
set_option maxHeartbeats 8000000 in
theorem isMeant_any (b o : Nat) (G : Nat → Bool) (L : Nat → Nat) (F : Nat → Bool) (g q n : Nat) (f : Nat → Nat → Bool) (rb m cap : Nat) (i lv first last : Nat) (w : World) (hr : PRowAt w g q n f (.slice (some ⟨rb, 0, none⟩) m cap)) (hn : n ≤ 6) (hq : 0 < q) (hi : i < m) (hp : partIs w rb (i * 20) 20) (ha : partAt w rb (i * 20) 20 = (cellG b o G L F).toArray) :
    Calls Tryz.prog 135 #[.pointer (some ⟨g, q, none⟩), .int .i64 i, .int .i64 lv, .int .i64 first, .int .i64 last] w fun e w' => e = .returned (.bool (meantP n f o G lv first last i)) ∧ Below w.heap.size w w' := by
  have HTH := hide (isThere_any b o G L F g q n f _ lv w hr hn hq)
  have c0 := hr.cells
  have HD := hide (show meantP n f o G lv first last i = (decide (first ≤ i) && decide (i ≤ last) && thereP n f o G lv) from rfl)
  have hii : (i : Int) < (m : Int) := by omega
  have hi0 : (0 : Int) ≤ (i : Int) := by omega
  clear hr
  by_cases h1 : first ≤ i
  · have h1i : (first : Int) ≤ (i : Int) := by omega
    by_cases h2 : i ≤ last
    · have h2i : (i : Int) ≤ (last : Int) := by omega
      have HE := hide (show meantP n f o G lv first last i = thereP n f o G lv by rw [HD.out]; simp [h1, h2])
      clear h1 h2 HD
      go_enter Tryz.func135, Tryz.ntmps135
      go_wp2_with fail
      refine (HTH.out).mono ?_
      rintro e w1 ⟨rfl, hb1⟩
      clear hp ha c0
      go_wp2
      go_ret
      exact ⟨ret_bool (by rw [HE.out]), hb1⟩
    · have h2i : (last : Int) < (i : Int) := by omega
      have HE := hide (show meantP n f o G lv first last i = false by rw [HD.out]; simp [h2])
      clear h1 h2 HD
      go_enter Tryz.func135, Tryz.ntmps135
      go_wp2
      go_ret
      exact ⟨ret_bool (by rw [HE.out]), Below.refl _ _⟩
  · have h1i : (i : Int) < (first : Int) := by omega
    have HE := hide (show meantP n f o G lv first last i = false by rw [HD.out]; simp [h1])
    clear h1 HD
    go_enter Tryz.func135, Tryz.ntmps135
    go_wp2
    go_ret
    exact ⟨ret_bool (by rw [HE.out]), Below.refl _ _⟩
end Go.Proofs.YthgcpjdlcooncaaGreat
