/- Kpurx: what the groups left out of Kpur Kpur2 Kpur3. -/
import Derived.Test.YtgigkiocdiffjabU32
namespace Go.Proofs.Ytgigkiocdiffjab
open Veil
section
variable {c : Cfg} {z d : Nat} {row : List RC}
theorem pur_take (k : Nat) : (pur c z row).take (rk c z row k) = pur c z (row.take k) ∧ (pur c z row).drop (rk c z row k) = pur c z (row.drop k) := by
  have h1 : pur c z row = pur c z (row.take k) ++ pur c z (row.drop k) := by rw [← pur_append, List.take_append_drop]
  have h2 : (pur c z (row.take k)).length = rk c z row k := by simp [pur, rk]
  rw [h1]
  exact ⟨List.take_left' h2, List.drop_left' h2⟩
theorem rk_mono {a b : Nat} (h : a ≤ b) : rk c z row a ≤ rk c z row b := by
  unfold rk
  have : row.take a = (row.take b).take a := by rw [List.take_take, Nat.min_eq_left h]
  rw [this]
  exact ((List.take_sublist _ _).filter _).length_le
theorem rk_succ {r : Nat} (h : r < row.length) (hq : c.le (cellAt row r).origin z = true) : rk c z row (r + 1) = rk c z row r + 1 := by
  unfold rk
  have hx : row[r]? = some (cellAt row r) := by unfold cellAt; rw [List.getD, List.getElem?_eq_getElem h]; rfl
  rw [List.take_add_one, hx]
  simp [hq]
theorem rk_lt {a b : Nat} (hab : a < b) (h : a < row.length) (hq : c.le (cellAt row a).origin z = true) : rk c z row a < rk c z row b := by
  have := rk_succ h hq
  have := rk_mono (c := c) (z := z) (row := row) (show a + 1 ≤ b by omega)
  omega
theorem plAt_ren (f : Nat → Nat) (h0 : f 0 = 0) (P : List Pl) (j : Nat) : plAt (P.map (renP f)) j = renP f (plAt P j) := by
  unfold plAt
  rw [List.getD, List.getD, List.getElem?_map]
  cases P[j]? with
  | none => simp [renP, h0]
  | some s => rfl
/-- A place's first and last cell are there. -/
theorem joinTo_there (A M : Nat → Nat) : ∀ k, ∀ p, p ∈ joinTo A M k → (∃ t, t < k ∧ p.first = A t) ∧ ∃ t, t < k ∧ p.last = A t
  | 0, p, hp => by cases hp
  | k + 1, p, hp => by
    rw [joinTo] at hp
    have ih := joinTo_there A M k
    have up : ∀ p, p ∈ joinTo A M k → (∃ t, t < k + 1 ∧ p.first = A t) ∧ ∃ t, t < k + 1 ∧ p.last = A t := fun p hp => by
      obtain ⟨⟨t, h1, h2⟩, t', h3, h4⟩ := ih p hp
      exact ⟨⟨t, by omega, h2⟩, t', by omega, h4⟩
    cases hb : lastB (joinTo A M k) && (M k == 35)
    · rw [hb, cond_false, List.mem_append] at hp
      rcases hp with hp | hp
      · exact up p hp
      · rw [List.mem_singleton] at hp
        subst hp
        exact ⟨⟨k, by omega, rfl⟩, k, by omega, rfl⟩
    · rw [hb, cond_true] at hp
      rcases List.eq_nil_or_concat (joinTo A M k) with h | ⟨l, q, h⟩
      · rw [h] at hp; cases hp
      · rw [List.concat_eq_append] at h
        rw [h, lastTo_set (n := l.length) (p := q) (by simp) (by simp)] at hp
        have hp' : p ∈ l ∨ p = ⟨q.b, q.first, A k⟩ := by simpa using hp
        rcases hp' with hp' | rfl
        · exact up p (by rw [h]; simp [hp'])
        · obtain ⟨h1, h2⟩ := up q (by rw [h]; simp)
          exact ⟨h1, k, by omega, rfl⟩
theorem places_there (h : RowGood c row) {j : Nat} (hj : j < (placesR c row d).length) : ((plAt (placesR c row d) j).first < row.length ∧ thR c row d (plAt (placesR c row d) j).first = true) ∧ (plAt (placesR c row d) j).last < row.length ∧ thR c row d (plAt (placesR c row d) j).last = true := by
  have hm : plAt (placesR c row d) j ∈ placesR c row d := by
    unfold plAt
    rw [List.getD, List.getElem?_eq_getElem hj]
    exact List.getElem_mem hj
  generalize plAt (placesR c row d) j = p at hm
  rw [← places_same c row d h.by (fun r _ => h.no r)] at hm
  obtain ⟨⟨t, h1, h2⟩, t', h3, h4⟩ := joinTo_there _ _ _ p hm
  have key : ∀ t, t < (firstTo c row d row.length).length → (seAt (firstTo c row d row.length) t).num < row.length ∧ thR c row d (seAt (firstTo c row d row.length) t).num = true := fun t ht => by
    unfold seAt
    rw [List.getD, List.getElem?_eq_getElem ht]
    exact firstTo_num _ (List.getElem_mem ht)
  rw [h2, h4]
  exact ⟨key t h1, key t' h3⟩
/-- Where a text comes that is inserted. -/
theorem behind_pur (ht : Tr c) (hd : d < c.n) (hdz : c.le d z = true) (h : RowGood c row) {a : Nat} (ha : a ≤ (placesR c row d).length) : behindR (placesR c (pur c z row) d) a = rk c z row (behindR (placesR c row d) a) := by
  rw [places_pur ht hd hdz h]
  cases a with
  | zero => exact rk_zero.symm
  | succ k =>
    show (plAt _ k).last + 1 = rk c z row ((plAt _ k).last + 1)
    obtain ⟨_, h1, h2⟩ := places_there h (show k < (placesR c row d).length by omega)
    rw [plAt_ren _ rk_zero, rk_succ h1 (there_le ht hd hdz (h.cells _ (by unfold cellAt; rw [List.getD, List.getElem?_eq_getElem h1]; exact List.getElem_mem h1)).1 h2)]
    rfl
theorem put_pur (new : List RC) (k : Nat) : pur c z (putC row new k) = putC (pur c z row) (pur c z new) (rk c z row k) := by
  unfold putC
  rw [pur_append, pur_append, (pur_take k).1, (pur_take k).2]
end
end Go.Proofs.Ytgigkiocdiffjab

namespace Go.Proofs.Ytgigkiocdiffjab
open Veil
section
variable {c : Cfg} {z d : Nat} {row : List RC}
theorem cellAt_mem {r : Nat} (h : r < row.length) : cellAt row r ∈ row := by
  unfold cellAt
  rw [List.getD, List.getElem?_eq_getElem h]
  exact List.getElem_mem h
theorem atTo_pur (ht : Tr c) (hd : d < c.n) (hdz : c.le d z = true) (hok : ∀ x, x ∈ row → RCOk c x) : atTo c (pur c z row) d (pur c z row).length = (atTo c row d row.length).map (rk c z row) := by
  have key : ∀ (row : List RC) (n : Nat), (firstTo c row d n).map Se.num = atTo c row d n := fun row n => by
    unfold firstTo
    rw [List.map_map]
    exact (List.map_congr_left (fun r _ => rfl)).trans (List.map_id _)
  rw [← key, first_pur ht hd hdz _ row rfl hok, ← key row, List.map_map, List.map_map]
  rfl
theorem cellsIn_at {a b n : Nat} (hab : a ≤ b) (hb : b ≤ n) : cellsIn c row d a b = (atTo c row d n).filter fun i => decide (a ≤ i) && decide (i < b) := by
  have h1 : List.range n = List.range' 0 a ++ (List.range' a (b - a) ++ List.range' b (n - b)) := by
    have e1 : List.range' 0 a ++ List.range' a (b - a) = List.range' 0 b := by
      have := List.range'_append_1 (s := 0) (m := a) (n := b - a)
      rw [Nat.zero_add, show a + (b - a) = b by omega] at this
      exact this
    have e2 : List.range' 0 b ++ List.range' b (n - b) = List.range' 0 n := by
      have := List.range'_append_1 (s := 0) (m := b) (n := n - b)
      rw [Nat.zero_add, show b + (n - b) = n by omega] at this
      exact this
    rw [← List.append_assoc, e1, e2, List.range_eq_range']
  unfold cellsIn atTo
  rw [h1, List.filter_append, List.filter_append, List.filter_append, List.filter_append]
  have n1 : ((List.range' 0 a).filter fun r => thereB c (cellAt row r) d).filter (fun i => decide (a ≤ i) && decide (i < b)) = [] := by
    rw [List.filter_eq_nil_iff]
    intro i hi
    have := List.mem_range'_1.1 (List.mem_filter.1 hi).1
    have h : decide (a ≤ i) = false := by simp; omega
    simp [h]
  have n2 : ((List.range' b (n - b)).filter fun r => thereB c (cellAt row r) d).filter (fun i => decide (a ≤ i) && decide (i < b)) = [] := by
    rw [List.filter_eq_nil_iff]
    intro i hi
    have := List.mem_range'_1.1 (List.mem_filter.1 hi).1
    have h : decide (i < b) = false := by simp; omega
    simp [h]
  have n3 : ((List.range' a (b - a)).filter fun r => thereB c (cellAt row r) d).filter (fun i => decide (a ≤ i) && decide (i < b)) = (List.range' a (b - a)).filter (thR c row d) := by
    rw [List.filter_eq_self.2]
    · rfl
    · intro i hi
      have := List.mem_range'_1.1 (List.mem_filter.1 hi).1
      have h1 : a ≤ i := by omega
      have h2 : i < b := by omega
      simp [h1, h2]
  rw [n1, n2, n3]
  simp
theorem at_le (ht : Tr c) (hd : d < c.n) (hdz : c.le d z = true) (hok : ∀ x, x ∈ row → RCOk c x) {r : Nat} (hr : r < row.length) (h : thR c row d r = true) : c.le (cellAt row r).origin z = true := there_le ht hd hdz (hok _ (cellAt_mem hr)) h
/-- The cells of some places. -/
theorem cells_pur (ht : Tr c) (hd : d < c.n) (hdz : c.le d z = true) (h : RowGood c row) {a b : Nat} (hab : a < b) (hb : b ≤ (placesR c row d).length) :
    cellsTo c (pur c z row) d (placesR c (pur c z row) d) a b = (cellsTo c row d (placesR c row d) a b).map (rk c z row) := by
  have hok : ∀ x, x ∈ row → RCOk c x := fun x hx => (h.cells x hx).1
  have hlen : (placesR c (pur c z row) d).length = (placesR c row d).length := by rw [places_pur ht hd hdz h, List.length_map]
  have hP := placesOk_R c row d (fun x hx => (h.cells x hx).1.byte)
  have hP' := placesOk_R c (pur c z row) d (fun x hx => ((pur_good h).cells x hx).1.byte)
  obtain ⟨e1, l1⟩ := cells_one hP b hab hb
  obtain ⟨e2, l2⟩ := cells_one hP' b hab (by omega)
  obtain ⟨⟨f1, f2⟩, _⟩ := places_there h (d := d) (show a < (placesR c row d).length by omega)
  obtain ⟨_, g1, g2⟩ := places_there h (d := d) (show b - 1 < (placesR c row d).length by omega)
  have hlast := (hP'.le (b - 1) (by omega)).2
  have q1 := at_le ht hd hdz hok f1 f2
  have q2 := at_le ht hd hdz hok g1 g2
  rw [e1, e2, cellsIn_at (row := row) (n := row.length) (by omega) (by omega), cellsIn_at (row := pur c z row) (n := (pur c z row).length) (by omega) (by omega), atTo_pur ht hd hdz hok, places_pur ht hd hdz h, plAt_ren _ rk_zero, plAt_ren _ rk_zero, List.filter_map]
  congr 1
  apply List.filter_congr
  intro i hi
  have hi' := atTo_mem.1 hi
  have q3 := at_le ht hd hdz hok hi'.1 hi'.2
  show (decide (rk c z row _ ≤ rk c z row i) && decide (rk c z row i < rk c z row _ + 1)) = _
  generalize (plAt (placesR c row d) a).first = fa at *
  generalize (plAt (placesR c row d) (b - 1)).last = lb at *
  have i1 : decide (rk c z row fa ≤ rk c z row i) = decide (fa ≤ i) := by
    rw [decide_eq_decide]
    constructor
    · intro h'
      refine Nat.le_of_not_lt fun h'' => ?_
      have := rk_lt h'' hi'.1 q3
      omega
    · exact rk_mono
  have i2 : decide (rk c z row i < rk c z row lb + 1) = decide (i < lb + 1) := by
    rw [decide_eq_decide]
    constructor
    · intro h'
      refine Nat.lt_of_not_le fun h'' => ?_
      have := rk_lt (show lb < i by omega) g1 q2
      omega
    · intro h'
      have := rk_mono (c := c) (z := z) (row := row) (show i ≤ lb by omega)
      omega
  rw [i1, i2]
theorem rk_or (r : Nat) : rk c z row r = (((row.map (·.origin)).take r).filter fun (o : Nat) => c.le o z).length := by
  unfold rk
  rw [← List.map_take, List.filter_map, List.length_map]
  rfl
theorem markC_len (m : Mk) (row : List RC) (r : Nat) : (markC row r m).length = row.length := by simp [markC]
theorem rk_mark (m : Mk) (r k : Nat) : rk c z (markC row r m) k = rk c z row k := by rw [rk_or, rk_or, markC_origin]
theorem cellAt_or (r : Nat) : (cellAt row r).origin = (row.map (·.origin)).getD r 0 := by
  unfold cellAt
  rw [List.getD, List.getD, List.getElem?_map]
  cases row[r]? <;> rfl
theorem pur_cons (x : RC) (row : List RC) : pur c z (x :: row) = (bif c.le x.origin z then [sigC c z x] else []) ++ pur c z row := by
  rw [← pur_one, ← pur_append]; rfl
/-- A mark that stays. -/
theorem markC_pur {m : Mk} (hm : c.le m.level z = true) : ∀ (row : List RC) (r : Nat), r < row.length → c.le (cellAt row r).origin z = true → pur c z (markC row r m) = markC (pur c z row) (rk c z row r) m
  | [], r, hr, _ => absurd hr (Nat.not_lt_zero _)
  | x :: row, 0, _, hq => by
    have hq' : c.le x.origin z = true := hq
    rw [rk_zero, pur_cons, hq']
    show pur c z (marked m x :: row) = _
    rw [pur_cons]
    have : c.le (marked m x).origin z = true := hq
    rw [this]
    simp [markC, sigC, marked, hm]
  | x :: row, r + 1, hr, hq => by
    have ih := markC_pur hm row r (by simpa using hr) hq
    have e1 : markC (x :: row) (r + 1) m = x :: markC row r m := by simp [markC]
    have e2 : rk c z (x :: row) (r + 1) = (bif c.le x.origin z then 1 else 0) + rk c z row r := by
      unfold rk
      rw [List.take_succ_cons, List.filter_cons]
      cases c.le x.origin z
      · simp
      · simp; omega
    rw [e1, pur_cons, pur_cons, ih, e2]
    cases c.le x.origin z
    · simp
    · simp [markC, Nat.add_comm 1]
/-- A mark that goes. -/
theorem markC_gone {m : Mk} (hm : c.le m.level z = false) : ∀ (row : List RC) (r : Nat), pur c z (markC row r m) = pur c z row
  | [], r => by simp [markC]
  | x :: row, 0 => by
    show pur c z (marked m x :: row) = _
    rw [pur_cons, pur_cons]
    have : sigC c z (marked m x) = sigC c z x := by simp [sigC, marked, hm]
    rw [this]
    rfl
  | x :: row, r + 1 => by
    have ih := markC_gone hm row r
    have e1 : markC (x :: row) (r + 1) m = x :: markC row r m := by simp [markC]
    rw [e1, pur_cons, pur_cons, ih]
theorem markAll_gone {m : Mk} (hm : c.le m.level z = false) (L : List Nat) : ∀ (row : List RC), pur c z (markAll row L m) = pur c z row := by
  induction L with
  | nil => intro row; rfl
  | cons r L ih =>
    intro row
    show pur c z (markAll (markC row r m) L m) = _
    rw [ih, markC_gone hm]
theorem markAll_pur {m : Mk} (hm : c.le m.level z = true) (L : List Nat) : ∀ (row : List RC), (∀ r, r ∈ L → r < row.length ∧ c.le (cellAt row r).origin z = true) → pur c z (markAll row L m) = markAll (pur c z row) (L.map (rk c z row)) m := by
  induction L with
  | nil => intro row _; rfl
  | cons r L ih =>
    intro row hL
    obtain ⟨h1, h2⟩ := hL r (List.mem_cons_self)
    show pur c z (markAll (markC row r m) L m) = markAll (markC (pur c z row) (rk c z row r) m) (L.map (rk c z row)) m
    rw [ih _ (fun r' hr' => by
      obtain ⟨h3, h4⟩ := hL r' (List.mem_cons_of_mem _ hr')
      rw [markC_len, cellAt_or, markC_origin, ← cellAt_or]
      exact ⟨h3, h4⟩), markC_pur hm row r h1 h2]
    congr 1
    apply List.map_congr_left
    intro k _
    exact rk_mark m r k
theorem mem_cellsTo (h : RowGood c row) {a b r : Nat} (hab : a < b) (hb : b ≤ (placesR c row d).length) (hr : r ∈ cellsTo c row d (placesR c row d) a b) : r < row.length ∧ thR c row d r = true := by
  have hP := placesOk_R c row d (fun x hx => (h.cells x hx).1.byte)
  rw [(cells_one hP b hab hb).1] at hr
  have := mem_cellsIn.1 hr
  unfold meantB at this
  simp only [Bool.and_eq_true, decide_eq_true_eq] at this
  have := (hP.le (b - 1) (by omega)).2
  exact ⟨by omega, by simp_all⟩
theorem mark_pur (ht : Tr c) (hd : d < c.n) (hdz : c.le d z = true) (h : RowGood c row) {m : Mk} (hm : c.le m.level z = true) {a b : Nat} (hab : a < b) (hb : b ≤ (placesR c row d).length) :
    pur c z (markAll row (cellsTo c row d (placesR c row d) a b) m) = markAll (pur c z row) (cellsTo c (pur c z row) d (placesR c (pur c z row) d) a b) m := by
  rw [markAll_pur hm _ row (fun r hr => by
    obtain ⟨h1, h2⟩ := mem_cellsTo h hab hb hr
    exact ⟨h1, at_le ht hd hdz (fun x hx => (h.cells x hx).1) h1 h2⟩), cells_pur ht hd hdz h hab hb]
theorem own_pur {l : Nat} (hl : c.le l z = true) : ownC (pur c z row) l = ownC row l := by
  unfold ownC pur
  rw [List.filter_map, List.length_map, List.filter_filter]
  congr 1
  apply List.filter_congr
  intro x _
  show ((x.origin == l) && c.le x.origin z) = (x.origin == l)
  cases hx : x.origin == l
  · rfl
  · rw [eq_of_beq hx, hl]; rfl
theorem cellAt_pur {r : Nat} (hr : r < row.length) (hq : c.le (cellAt row r).origin z = true) : cellAt (pur c z row) (rk c z row r) = sigC c z (cellAt row r) := by
  have hx : row[r]? = some (cellAt row r) := by unfold cellAt; rw [List.getD, List.getElem?_eq_getElem hr]; rfl
  have e1 : row = row.take r ++ (cellAt row r :: row.drop (r + 1)) := by
    have h2 : row.drop r = cellAt row r :: row.drop (r + 1) := by
      rw [List.drop_eq_getElem_cons hr]
      congr 1
      rw [List.getElem?_eq_getElem hr] at hx
      exact Option.some.inj hx
    rw [← h2, List.take_append_drop]
  have e2 : pur c z row = pur c z (row.take r) ++ (sigC c z (cellAt row r) :: pur c z (row.drop (r + 1))) := by
    have := congrArg (pur c z) e1
    rw [pur_append, pur_cons, hq] at this
    exact this
  have e3 : (pur c z (row.take r)).length = rk c z row r := by simp [pur, rk]
  rw [e2]
  generalize sigC c z (cellAt row r) = y
  unfold cellAt
  rw [List.getD, ← e3, List.getElem?_append_right (Nat.le_refl _)]
  simp
theorem may_pur (ht : Tr c) (hd : d < c.n) (hdz : c.le d z = true) (h : RowGood c row) (tg : Nat) {a b : Nat} (hab : a < b) (hb : b ≤ (placesR c row d).length) :
    (cellsTo c (pur c z row) d (placesR c (pur c z row) d) a b).all (mayR c (pur c z row) tg) = (cellsTo c row d (placesR c row d) a b).all (mayR c row tg) := by
  rw [cells_pur ht hd hdz h hab hb, List.all_map, Bool.eq_iff_iff, List.all_eq_true, List.all_eq_true]
  have : ∀ r, r ∈ cellsTo c row d (placesR c row d) a b → (mayR c (pur c z row) tg ∘ rk c z row) r = mayR c row tg r := fun r hr => by
    obtain ⟨h1, h2⟩ := mem_cellsTo h hab hb hr
    show c.le (cellAt (pur c z row) (rk c z row r)).origin tg = _
    rw [cellAt_pur h1 (at_le ht hd hdz (fun x hx => (h.cells x hx).1) h1 h2)]
    rfl
  exact ⟨fun h' r hr => (this r hr).symm.trans (h' r hr), fun h' r hr => (this r hr).trans (h' r hr)⟩
theorem mask_ren (f : Nat → Nat) (P : List Pl) (a n : Nat) : (((P.map (renP f)).drop a).take n).any (fun p => p.b == 35) = ((P.drop a).take n).any (fun p => p.b == 35) := by
  rw [← List.map_drop, ← List.map_take, List.any_map]
  rfl
theorem new_pur_in {t : ByteArray} {lv : Nat} (h : c.le lv z = true) : pur c z (newC t lv t.size) = newC t lv t.size := by
  have key : ∀ x, x ∈ newC t lv t.size → c.le x.origin z = true ∧ sigC c z x = x := fun x hx => by
    have : ∃ b : Nat, x = ⟨b, lv, []⟩ := new_form hx
    obtain ⟨b, rfl⟩ := this
    exact ⟨h, rfl⟩
  unfold pur
  rw [List.filter_eq_self.2 (fun x hx => (key x hx).1)]
  exact (List.map_congr_left (fun x hx => (key x hx).2)).trans (List.map_id _)
theorem new_pur_out {t : ByteArray} {lv : Nat} (h : c.le lv z = false) : pur c z (newC t lv t.size) = [] := by
  unfold pur
  rw [List.map_eq_nil_iff, List.filter_eq_nil_iff]
  intro x hx
  obtain ⟨b, rfl⟩ := new_form hx
  simp [h]
end
end Go.Proofs.Ytgigkiocdiffjab

namespace Go.Proofs.Ytgigkiocdiffjab
open Veil
section
variable {c : Cfg} {z lv : Nat} {s s' : PSt}
theorem Pur.tell (h : Pur c z s s') (k : Int) (b lo : Nat) : (∀ i, i < c.n → c.le i z = true → tellV c lo s'.V i = tellV c lo s.V i) ∧ ∀ i, i < c.n → c.le i z = true → tellW c k b lo s'.W i = tellW c k b lo s.W i :=
  ⟨fun i h1 h2 => by unfold tellV; rw [h.vers i h1 h2], fun i h1 h2 => by unfold tellW; rw [h.waits i h1 h2]⟩
theorem Pur.mute (h : Pur c z s s') (ht : Tr c) (k : Int) (b : Nat) {lo : Nat} (hlo : lo < c.n) (hz : c.le lo z = false) : (∀ i, i < c.n → c.le i z = true → s'.V i = tellV c lo s.V i) ∧ ∀ i, i < c.n → c.le i z = true → s'.W i = tellW c k b lo s.W i := by
  have key : ∀ i, i < c.n → c.le i z = true → c.le lo i = false := fun i h1 h2 => by
    cases h3 : c.le lo i
    · rfl
    · rw [ht.trans hlo h1 h3 h2] at hz; cases hz
  exact ⟨fun i h1 h2 => by unfold tellV; rw [key i h1 h2, h.vers i h1 h2]; rfl, fun i h1 h2 => by unfold tellW; rw [key i h1 h2, h.waits i h1 h2]; rfl⟩
theorem gr_le (hr : CfgRight c) {a b : Nat} (h : grF c a b = true) : c.le b a = true := by
  unfold grF at h
  obtain ⟨g, h1, h2⟩ := List.any_eq_true.1 h
  have h3 := hr.grants
  unfold grantsB at h3
  simp only [Bool.and_eq_true, List.all_eq_true] at h3
  have h4 := h3.2 g h1
  unfold grantOk at h4
  unfold grantIs at h2
  simp only [Bool.and_eq_true, beq_iff_eq] at h4 h2
  rw [h2.1, h2.2] at h4
  exact h4.2
/-- A step of a level that is at most z: the same answer, and it stays so. -/
theorem pur_in (h : Pur c z s s') (ht : Tr c) (hr : CfgRight c) (hn : (c.n : Int) = c.labels) (hg : RowGood c s.row) (o : KS) (hl : okL c.labels o.level = true) (hz : c.le o.level.toNat z = true) :
    stepAns c s' o = stepAns c s o ∧ Pur c z (stepSt c s o) (stepSt c s' o) := by
  obtain ⟨hlt, hle⟩ := okL_nt hn hl
  have hlen := h.len ht hlt hz hg
  have hown : ownC s'.row o.level.toNat = ownC s.row o.level.toNat := by rw [h.row, own_pur hz]
  have hpl : placesR c s'.row o.level.toNat = (placesR c s.row o.level.toNat).map (renP (rk c z s.row)) := by rw [h.row, places_pur ht hlt hz hg]
  by_cases k1 : o.kind = 1
  · have hc : insCode c s'.row o.level o.lo o.text = insCode c s.row o.level o.lo o.text := by
      unfold insCode
      rw [hlen, hown]
    rw [show stepAns c s' o = .err (insCode c s'.row o.level o.lo o.text) by simp [stepAns, k1], show stepAns c s o = .err (insCode c s.row o.level o.lo o.text) by simp [stepAns, k1], show stepSt c s o = insRes c s o.level o.lo o.text by simp [stepSt, k1], show stepSt c s' o = insRes c s' o.level o.lo o.text by simp [stepSt, k1], hc]
    refine ⟨rfl, ?_⟩
    unfold insRes
    rw [hc]
    cases h0 : insCode c s.row o.level o.lo o.text == 0
    · exact h
    · obtain ⟨ha, _⟩ := ins_codes (eq_of_beq h0)
      refine ⟨?_, h.logs, (h.tell 0 0 _).1, (h.tell _ _ _).2⟩
      show putC s'.row _ (behindR (placesR c s'.row _) _) = pur c z (putC s.row _ (behindR (placesR c s.row _) _))
      rw [h.row, put_pur, new_pur_in hz, behind_pur ht hlt hz hg ha]
  by_cases k2 : o.kind = 2
  · have hc : delCode c s'.row o.level o.lo o.hi = delCode c s.row o.level o.lo o.hi := by
      unfold delCode
      rw [hlen]
    rw [show stepAns c s' o = .err (delCode c s'.row o.level o.lo o.hi) by simp [stepAns, k2], show stepAns c s o = .err (delCode c s.row o.level o.lo o.hi) by simp [stepAns, k2], show stepSt c s o = delRes c s o.level o.lo o.hi by simp [stepSt, k2], show stepSt c s' o = delRes c s' o.level o.lo o.hi by simp [stepSt, k2], hc]
    refine ⟨rfl, ?_⟩
    unfold delRes
    rw [hc]
    cases h0 : delCode c s.row o.level o.lo o.hi == 0
    · exact h
    · obtain ⟨⟨ha, hb⟩, _⟩ := del_codes (eq_of_beq h0)
      refine ⟨?_, h.logs, (h.tell 0 0 _).1, (h.tell _ _ _).2⟩
      show markAll s'.row (cellsTo c s'.row _ (placesR c s'.row _) _ _) _ = pur c z (markAll s.row (cellsTo c s.row _ (placesR c s.row _) _ _) _)
      rw [mark_pur ht hlt hz hg (m := ⟨2, o.level.toNat, 0⟩) hz ha hb, h.row]
  by_cases k3 : o.kind = 3
  · have hc : raiCode c s'.row o.level o.lo o.hi o.label = raiCode c s.row o.level o.lo o.hi o.label := by
      unfold raiCode
      rw [hlen]
    rw [show stepAns c s' o = .err (raiCode c s'.row o.level o.lo o.hi o.label) by simp [stepAns, k3], show stepAns c s o = .err (raiCode c s.row o.level o.lo o.hi o.label) by simp [stepAns, k3], show stepSt c s o = raiRes c s o.level o.lo o.hi o.label by simp [stepSt, k3], show stepSt c s' o = raiRes c s' o.level o.lo o.hi o.label by simp [stepSt, k3], hc]
    refine ⟨rfl, ?_⟩
    unfold raiRes
    rw [hc]
    cases h0 : raiCode c s.row o.level o.lo o.hi o.label == 0
    · exact h
    · obtain ⟨⟨ha, hb⟩, _⟩ := rai_codes (eq_of_beq h0)
      refine ⟨?_, h.logs, (h.tell 0 0 _).1, (h.tell _ _ _).2⟩
      show markAll s'.row (cellsTo c s'.row _ (placesR c s'.row _) _ _) _ = pur c z (markAll s.row (cellsTo c s.row _ (placesR c s.row _) _ _) _)
      rw [mark_pur ht hlt hz hg (m := ⟨3, o.level.toNat, o.label.toNat⟩) hz ha hb, h.row]
  by_cases k4 : o.kind = 4
  · have hc : relCode c s' o.level o.lo o.hi o.label = relCode c s o.level o.lo o.hi o.label := by
      unfold relCode
      rw [hlen]
      cases h1 : (!okL c.labels o.level || !okL c.labels o.label)
      · cases h2 : grF c o.level.toNat o.label.toNat
        · rfl
        · have htz : c.le o.label.toNat z = true := by
            simp only [Bool.or_eq_false_iff] at h1
            exact ht.trans (okL_nt hn (by simpa using h1.2)).1 hlt (gr_le hr h2) hz
          cases h3 : pieceB o.lo o.hi (placesR c s.row o.level.toNat).length
          · rfl
          · obtain ⟨ha, hb⟩ := piece_of h3
            have e1 : relMask c s'.row o.level.toNat o.lo.toNat o.hi.toNat = relMask c s.row o.level.toNat o.lo.toNat o.hi.toNat := by
              unfold relMask
              rw [hpl, mask_ren]
            rw [e1, h.logs _ htz, h.row, may_pur ht hlt hz hg _ ha hb]
      · rfl
    rw [show stepAns c s' o = .err (relCode c s' o.level o.lo o.hi o.label) by simp [stepAns, k4], show stepAns c s o = .err (relCode c s o.level o.lo o.hi o.label) by simp [stepAns, k4], show stepSt c s o = relRes c s o.level o.lo o.hi o.label by simp [stepSt, k4], show stepSt c s' o = relRes c s' o.level o.lo o.hi o.label by simp [stepSt, k4], hc]
    refine ⟨rfl, ?_⟩
    unfold relRes
    rw [hc]
    cases h0 : relCode c s o.level o.lo o.hi o.label == 0
    · exact h
    · obtain ⟨⟨ha, hb⟩, _, ht1, h2⟩ := rel_codes (eq_of_beq h0)
      obtain ⟨htl, hte⟩ := okL_nt hn ht1
      have htz : c.le o.label.toNat z = true := ht.trans htl hlt (gr_le hr h2) hz
      have hV := (h.tell 4 o.level.toNat o.label.toNat).1
      refine ⟨?_, fun i hi => ?_, hV, (h.tell _ _ _).2⟩
      · show markAll s'.row (cellsTo c s'.row _ (placesR c s'.row _) _ _) _ = pur c z (markAll s.row (cellsTo c s.row _ (placesR c s.row _) _ _) _)
        rw [mark_pur ht hlt hz hg (m := ⟨4, o.label.toNat, 0⟩) htz ha hb, h.row]
      · show updF s'.L _ _ i = updF s.L _ _ i
        unfold updF
        rw [hV _ htl htz, h.logs _ htz, h.logs i hi]
  by_cases k10 : o.kind = 10
  · have e : ∀ s : PSt, stepSt c s o = ⟨s.row, s.L, s.V, updF s.W o.level.toNat []⟩ := fun s => by simp [stepSt, k10, hl]
    have e' : ∀ s : PSt, stepAns c s o = ⟨0, 0, tNo, (s.W o.level.toNat).flatMap numsN⟩ := fun s => by simp [stepAns, k10, hl]
    rw [e, e, e', e', h.waits _ hlt hz]
    exact ⟨rfl, h.row, h.logs, h.vers, fun i h1 h2 => by show updF s'.W _ _ i = updF s.W _ _ i; unfold updF; rw [h.waits i h1 h2]⟩
  · have e : ∀ s : PSt, stepSt c s o = s := fun s => by simp [stepSt, k1, k2, k3, k4, k10]
    rw [e, e]
    refine ⟨?_, h⟩
    unfold stepAns spansL
    rw [h.view ht hlt hz hg, hown, h.vers _ hlt hz, h.logs _ hz, h.waits _ hlt hz]
    simp only [k1, k2, k3, k4, if_false]
/-- A step of a level that is not at most z, if it does not release to one that is. -/
theorem pur_out (h : Pur c z s s') (ht : Tr c) (hn : (c.n : Int) = c.labels) (o : KS) (hl : okL c.labels o.level = true → c.le o.level.toNat z = false)
    (hk : o.kind = 4 → okL c.labels o.level = true → okL c.labels o.label = true → c.le o.label.toNat z = false) : Pur c z (stepSt c s o) s' := by
  by_cases k1 : o.kind = 1
  · rw [show stepSt c s o = insRes c s o.level o.lo o.text by simp [stepSt, k1]]
    unfold insRes
    cases h0 : insCode c s.row o.level o.lo o.text == 0
    · exact h
    · obtain ⟨ha, hok⟩ := ins_codes (eq_of_beq h0)
      obtain ⟨hlt, _⟩ := okL_nt hn hok
      refine ⟨?_, h.logs, (h.mute ht 0 0 hlt (hl hok)).1, (h.mute ht _ _ hlt (hl hok)).2⟩
      show s'.row = pur c z (putC s.row _ _)
      rw [put_pur, new_pur_out (hl hok), h.row]
      simp [putC]
  by_cases k2 : o.kind = 2
  · rw [show stepSt c s o = delRes c s o.level o.lo o.hi by simp [stepSt, k2]]
    unfold delRes
    cases h0 : delCode c s.row o.level o.lo o.hi == 0
    · exact h
    · obtain ⟨_, hok⟩ := del_codes (eq_of_beq h0)
      obtain ⟨hlt, _⟩ := okL_nt hn hok
      refine ⟨?_, h.logs, (h.mute ht 0 0 hlt (hl hok)).1, (h.mute ht _ _ hlt (hl hok)).2⟩
      show s'.row = pur c z (markAll s.row _ _)
      rw [markAll_gone (m := ⟨2, o.level.toNat, 0⟩) (hl hok), h.row]
  by_cases k3 : o.kind = 3
  · rw [show stepSt c s o = raiRes c s o.level o.lo o.hi o.label by simp [stepSt, k3]]
    unfold raiRes
    cases h0 : raiCode c s.row o.level o.lo o.hi o.label == 0
    · exact h
    · obtain ⟨_, hok⟩ := rai_codes (eq_of_beq h0)
      obtain ⟨hlt, _⟩ := okL_nt hn hok
      refine ⟨?_, h.logs, (h.mute ht 0 0 hlt (hl hok)).1, (h.mute ht _ _ hlt (hl hok)).2⟩
      show s'.row = pur c z (markAll s.row _ _)
      rw [markAll_gone (m := ⟨3, o.level.toNat, o.label.toNat⟩) (hl hok), h.row]
  by_cases k4 : o.kind = 4
  · rw [show stepSt c s o = relRes c s o.level o.lo o.hi o.label by simp [stepSt, k4]]
    unfold relRes
    cases h0 : relCode c s o.level o.lo o.hi o.label == 0
    · exact h
    · obtain ⟨_, hok, htok, _⟩ := rel_codes (eq_of_beq h0)
      obtain ⟨hlt, _⟩ := okL_nt hn htok
      have htz := hk k4 hok htok
      refine ⟨?_, fun i hi => ?_, (h.mute ht 0 0 hlt htz).1, (h.mute ht _ _ hlt htz).2⟩
      · show s'.row = pur c z (markAll s.row _ _)
        rw [markAll_gone (m := ⟨4, o.label.toNat, 0⟩) htz, h.row]
      · show s'.L i = updF s.L _ _ i
        unfold updF
        rw [if_neg (fun e => by rw [← e, hi] at htz; cases htz), h.logs i hi]
  by_cases k10 : o.kind = 10
  · cases hok : okL c.labels o.level
    · rw [show stepSt c s o = s by simp [stepSt, k10, hok]]
      exact h
    · rw [show stepSt c s o = ⟨s.row, s.L, s.V, updF s.W o.level.toNat []⟩ by simp [stepSt, k10, hok]]
      refine ⟨h.row, h.logs, h.vers, fun i h1 h2 => ?_⟩
      show s'.W i = updF s.W _ _ i
      unfold updF
      have hz := hl hok
      rw [if_neg (fun e => by rw [← e, h2] at hz; cases hz), h.waits i h1 h2]
  · rw [show stepSt c s o = s by simp [stepSt, k1, k2, k3, k4, k10]]
    exact h
end
end Go.Proofs.Ytgigkiocdiffjab

