/- Pair, Pair2, Pair3. -/
import Derived.Test.YthgcpjdlcooncaaGreatE42
import Derived.Test.YthgcpjdlcooncaaGreatE22
import Derived.Test.YthgcpjdlcooncaaGreatE23
namespace Go.Proofs.YthgcpjdlcooncaaGreat
open Go.RowKit Veil
structure DS where
  pd : Nat
  rd : Nat
  c : Cfg
  v : CfgV
  rows : List (RC × Value)
  acts : List RA
  rrv : Value
  rav : Value
  prv : Value
  ppv : Value
def DS.row (s : DS) : List RC := s.rows.map (·.1)
inductive DT where
  | ref (p : Part)
  | box
  | rules
  | cells
def dblk (s : DS) : DT → Option Nat
  | .ref p => blkOf' s.rd s.rrv s.rav s.rows p
  | .box => some s.pd
  | .rules => s.prv.ownBlock
  | .cells => s.ppv.ownBlock
/-- How many releases there were to a target. -/
def relP (t : Nat) (a : RA) : Bool := (a.kind == 4) && (a.target == (t : Int))
def relN (acts : List RA) (t : Nat) : Nat := (acts.filter (relP t)).length
theorem logTo_rel (c : Cfg) (acts : List RA) (t k : Nat) : (logTo c acts t k).length = ((acts.take k).filter (relP t)).length := by
  induction k with
  | zero => rfl
  | succ k ih =>
    cases h : acts[k]? with
    | none =>
      rw [logTo, h, List.take_add_one, h]
      simpa using ih
    | some a =>
      rw [List.take_add_one, h, List.filter_append, List.length_append, ← ih]
      cases ha : ((a.kind == 4) && (a.target == (t : Int)))
      · rw [logTo_no h ha]
        have : relP t a = false := ha
        simp [this]
      · rw [logTo_yes h ha]
        have : relP t a = true := ha
        simp [this]
theorem relN_log (c : Cfg) (acts : List RA) (t : Nat) : (logTo c acts t acts.length).length = relN acts t := by rw [logTo_rel, List.take_length]; rfl
theorem relN_snoc_no {acts : List RA} {a : RA} (h : (a.kind == 4) = false) : relN (acts ++ [a]) = relN acts := by
  funext t
  unfold relN
  rw [List.filter_append, List.length_append]
  have : relP t a = false := by unfold relP; rw [h]; rfl
  simp [this]
structure DocI (w0 w : World) (s : DS) (k : Nat) : Prop where
  ref : RDocO w0 w s.rd s.c s.v s.rows s.acts s.rrv s.rav
  box : PBox w s.pd s.c.n (tT s.c) s.prv (grF s.c) s.ppv (ownC s.row) (relN s.acts)
  rules : OwnL 96 2 ruleV w w0.heap.size s.prv s.c.rules
  cells : OwnL 188 20 (pcV s.c) w w0.heap.size s.ppv s.row
  right : CfgRight s.c
  cfg : CfgOk s.c
  good : RowOk s.c s.row k
  no35 : ∀ x, x ∈ s.row → x.b ≠ 35
  acts : s.acts.length ≤ k ∧ ∀ a, a ∈ s.acts → RAOk s.c a
  apart : ∀ a b x, dblk s a = some x → dblk s b = some x → a = b
  low : ∀ a x, dblk s a = some x → w0.heap.size ≤ x ∧ x < w.heap.size
theorem RowOk.mono {c : Cfg} {row : List RC} {M N : Nat} (h : RowOk c row M) (hMN : M ≤ N) : RowOk c row N := ⟨fun x hx => ⟨(h.cells x hx).1, Nat.le_trans (h.cells x hx).2 hMN⟩, h.quota⟩
section
variable {w0 w w' : World} {s : DS} {k : Nat}
theorem DocI.n6 (h : DocI w0 w s k) : s.c.n ≤ 6 := (labels_of h.right.labels).2.2.2.2.2.1
theorem DocI.rowGood (h : DocI w0 w s k) : RowGood s.c s.row := ⟨fun x hx => ⟨(h.good.cells x hx).1, h.no35 x hx⟩, h.good.length h.n6⟩
theorem DocI.rdocOk (h : DocI w0 w s k) (hk : k ≤ 140737488355328) : RDocOk s.c s.rows := rdocOk_of h.right.labels h.right.lat h.cfg (fun r hr => (h.right.rule.2 r hr).2) h.good hk
theorem DocI.mono (h : DocI w0 w s k) {k' : Nat} (hk : k ≤ k') : DocI w0 w s k' := ⟨h.ref, h.box, h.rules, h.cells, h.right, h.cfg, h.good.mono hk, h.no35, ⟨Nat.le_trans h.acts.1 hk, h.acts.2⟩, h.apart, h.low⟩
theorem DocI.only (h : DocI w0 w s k) {F : Nat → Prop} (ho : Only F w w') (hF : ∀ b, F b → w0.heap.size ≤ b) (hap : ∀ a x, dblk s a = some x → ¬ F x) : DocI w0 w' s k :=
  ⟨h.ref.kept ho hF (fun p b hb => hap (.ref p) b hb), h.box.kept (ho.block s.pd h.box.lt (hap .box s.pd rfl)), h.rules.only ho (fun b hb => hap .rules b hb), h.cells.only ho (fun b hb => hap .cells b hb), h.right, h.cfg, h.good, h.no35, h.acts, h.apart, fun a x hx => ⟨(h.low a x hx).1, Nat.lt_of_lt_of_le (h.low a x hx).2 ho.size⟩⟩
theorem DocI.below (h : DocI w0 w s k) (hb : Below w.heap.size w w') : DocI w0 w' s k := h.only (F := fun _ => False) (Only.of_below hb) (fun _ h => h.elim) (fun _ _ _ h => h)
theorem DocI.okL (h : DocI w0 w s k) (a : Int) : okL s.c.n a = okL s.c.labels a := by rw [(labels_of h.right.labels).2.2.2.2.1]
end
/-- What an edit does. -/
def EditOk (w0 w : World) (s : DS) (k : Nat) (w' : World) : Prop := ∃ s', DocI w0 w' s' (k + 1) ∧ s'.pd = s.pd ∧ s'.rd = s.rd ∧ Only (fun b => ∃ a, dblk s a = some b) w w' ∧ ∀ a x, dblk s' a = some x → (∃ b, dblk s b = some x) ∨ w.heap.size ≤ x
theorem EditOk.same {w0 w w' : World} {s : DS} {k : Nat} (h : DocI w0 w s k) (hb : Below w.heap.size w w') : EditOk w0 w s k w' := ⟨s, (h.below hb).mono (Nat.le_succ k), rfl, rfl, Only.of_below hb, fun a _ hx => Or.inl ⟨a, hx⟩⟩
theorem ownC_marked (p : Nat → Bool) (m : Mk) (row : List RC) : ownC (markIf p m row row.length) = ownC row := by
  funext l
  unfold ownC
  have key : (markIf p m row row.length).map (·.origin) = row.map (·.origin) := by
    apply List.ext_getElem?
    intro i
    rw [List.getElem?_map, List.getElem?_map, markIf_get]
    cases row[i]? with
    | none => rfl
    | some x => simp only [Option.map_some]; cases (decide (i < row.length) && p i) <;> rfl
  have cnt : ∀ r : List RC, (r.filter fun x => x.origin == l).length = ((r.map (·.origin)).filter fun o => o == l).length := by
    intro r
    induction r with
    | nil => rfl
    | cons x r ih => cases hx : (x.origin == l) <;> simp [hx, ih]
  rw [cnt, cnt, key]
theorem markIf_ok {c : Cfg} {row : List RC} {M : Nat} {m : Mk} (p : Nat → Bool) (h : RowOk c row M) (hm : MkOk c m) : RowOk c (markIf p m row row.length) (M + 1) := by
  refine ⟨fun x hx => ?_, fun l => by rw [ownC_marked]; exact h.quota l⟩
  obtain ⟨i, hi, he⟩ := List.getElem_of_mem hx
  have hg : (markIf p m row row.length)[i]? = some x := by rw [← he]; exact List.getElem?_eq_getElem hi
  rw [markIf_get] at hg
  cases hr : row[i]? with
  | none => rw [hr] at hg; cases hg
  | some y =>
    rw [hr] at hg
    simp only [Option.map_some, Option.some.injEq] at hg
    have hy := h.cells y (List.mem_of_getElem? hr)
    cases hc : (decide (i < row.length) && p i)
    · rw [hc] at hg; simp only [cond_false] at hg; rw [← hg]; exact ⟨hy.1, Nat.le_trans hy.2 (Nat.le_succ M)⟩
    · rw [hc] at hg; simp only [cond_true] at hg; rw [← hg]
      refine ⟨⟨hy.1.byte, hy.1.origin, fun m' hm' => ?_⟩, ?_⟩
      · simp only [marked, List.mem_append, List.mem_singleton] at hm'
        rcases hm' with hm' | rfl
        · exact hy.1.marks m' hm'
        · exact hm
      · simp only [marked, List.length_append, List.length_singleton]; omega
theorem markIf_no35 {row : List RC} {m : Mk} (p : Nat → Bool) (h : ∀ x, x ∈ row → x.b ≠ 35) : ∀ x, x ∈ markIf p m row row.length → x.b ≠ 35 := by
  intro x hx
  obtain ⟨i, hi, he⟩ := List.getElem_of_mem hx
  have hg : (markIf p m row row.length)[i]? = some x := by rw [← he]; exact List.getElem?_eq_getElem hi
  rw [markIf_get] at hg
  cases hr : row[i]? with
  | none => rw [hr] at hg; cases hg
  | some y =>
    rw [hr] at hg
    simp only [Option.map_some, Option.some.injEq] at hg
    have hy := h y (List.mem_of_getElem? hr)
    cases hc : (decide (i < row.length) && p i)
    · rw [hc] at hg; simp only [cond_false] at hg; rw [← hg]; exact hy
    · rw [hc] at hg; simp only [cond_true] at hg; rw [← hg]; exact hy
/-- An edit that marks cells. -/
theorem EditOk.mark {w0 w w1 w2 w3 : World} {s : DS} {k : Nat} {row' : List RC} {rows' : List (RC × Value)} {act : RA} {av' : Value} {Lg' : Nat → Nat} (h : DocI w0 w s k) (hb1 : Below w.heap.size w w1) (hown : OwnL 188 20 (pcV s.c) w2 w0.heap.size s.ppv row') (hbox : PBox w2 s.pd s.c.n (tT s.c) s.prv (grF s.c) s.ppv (ownC s.row) Lg') (ho : Only (fun x => s.ppv.ownBlock = some x ∨ x = s.pd) w1 w2)
    (href : RDocO w0 w3 s.rd s.c s.v rows' (s.acts ++ [act]) s.rrv av') (hrow : rows'.map (·.1) = row') (ho3 : Only (fun x => ∃ p, blkOf' s.rd s.rrv s.rav s.rows p = some x) w2 w3) (hnew : ∀ p b, blkOf' s.rd s.rrv av' rows' p = some b → (∃ p, blkOf' s.rd s.rrv s.rav s.rows p = some b) ∨ w2.heap.size ≤ b)
    (hown' : ownC row' = ownC s.row) (hlg : Lg' = relN (s.acts ++ [act])) (hra : RAOk s.c act) (hgood : RowOk s.c row' (k + 1)) (h35 : ∀ x, x ∈ row' → x.b ≠ 35) : EditOk w0 w s k w3 := by
  have hs12 := ho.size
  have hs1 := hb1.size
  have hnot : ∀ a x, dblk s a = some x → (∀ p, a ≠ .ref p) → ¬ ∃ p, blkOf' s.rd s.rrv s.rav s.rows p = some x := fun a x hx ha ⟨p, hp⟩ => ha p (h.apart a (.ref p) x hx hp)
  refine ⟨⟨s.pd, s.rd, s.c, s.v, rows', s.acts ++ [act], s.rrv, av', s.prv, s.ppv⟩, ⟨href, ?_, ?_, ?_, h.right, h.cfg, ?_, ?_, ⟨?_, ?_⟩, ?_, ?_⟩, rfl, rfl, ?_, ?_⟩
  · have := hbox.kept (ho3.block s.pd hbox.lt (hnot .box s.pd rfl (fun p => by simp)))
    show PBox w3 s.pd s.c.n (tT s.c) s.prv (grF s.c) s.ppv (ownC (rows'.map (·.1))) (relN (s.acts ++ [act]))
    rw [hrow, hown', ← hlg]; exact this
  · have r1 := h.rules.below hb1
    have r2 := r1.only ho (fun b hb e => by
      rcases e with e | e
      · have := h.apart .rules .cells b hb e; cases this
      · have := h.apart .rules .box b hb (by rw [e]; rfl); cases this)
    exact r2.only ho3 (fun b hb => hnot .rules b hb (fun p => by simp))
  · show OwnL 188 20 (pcV s.c) w3 w0.heap.size s.ppv (rows'.map (·.1))
    rw [hrow]
    exact hown.only ho3 (fun b hb => hnot .cells b hb (fun p => by simp))
  · show RowOk s.c (rows'.map (·.1)) (k + 1)
    rw [hrow]; exact hgood
  · show ∀ x, x ∈ rows'.map (·.1) → x.b ≠ 35
    rw [hrow]; exact h35
  · simp only [List.length_append, List.length_singleton]; have := h.acts.1; omega
  · intro a ha
    simp only [List.mem_append, List.mem_singleton] at ha
    rcases ha with ha | rfl
    · exact h.acts.2 a ha
    · exact hra
  · have lowOld : ∀ a x, dblk s a = some x → x < w2.heap.size := fun a x hx => by have := (h.low a x hx).2; omega
    intro a b x ha hb
    cases a with
    | ref p =>
      cases b with
      | ref q => rw [href.parts.apart p q x ha hb]
      | box =>
        exfalso
        rcases hnew p x ha with ⟨p', hp'⟩ | h'
        · have := h.apart (.ref p') .box x hp' hb; cases this
        · have := lowOld .box x hb; omega
      | rules =>
        exfalso
        rcases hnew p x ha with ⟨p', hp'⟩ | h'
        · have := h.apart (.ref p') .rules x hp' hb; cases this
        · have := lowOld .rules x hb; omega
      | cells =>
        exfalso
        rcases hnew p x ha with ⟨p', hp'⟩ | h'
        · have := h.apart (.ref p') .cells x hp' hb; cases this
        · have := lowOld .cells x hb; omega
    | box =>
      cases b with
      | ref q =>
        exfalso
        rcases hnew q x hb with ⟨p', hp'⟩ | h'
        · have := h.apart (.ref p') .box x hp' ha; cases this
        · have := lowOld .box x ha; omega
      | box => rfl
      | rules => exact h.apart .box .rules x ha hb
      | cells => exact h.apart .box .cells x ha hb
    | rules =>
      cases b with
      | ref q =>
        exfalso
        rcases hnew q x hb with ⟨p', hp'⟩ | h'
        · have := h.apart (.ref p') .rules x hp' ha; cases this
        · have := lowOld .rules x ha; omega
      | box => exact h.apart .rules .box x ha hb
      | rules => rfl
      | cells => exact h.apart .rules .cells x ha hb
    | cells =>
      cases b with
      | ref q =>
        exfalso
        rcases hnew q x hb with ⟨p', hp'⟩ | h'
        · have := h.apart (.ref p') .cells x hp' ha; cases this
        · have := lowOld .cells x ha; omega
      | box => exact h.apart .cells .box x ha hb
      | rules => exact h.apart .cells .rules x ha hb
      | cells => rfl
  · have hs3 := ho3.size
    intro a x hx
    cases a with
    | ref p => exact href.parts.low p x hx
    | box => have := h.low .box x hx; exact ⟨this.1, by omega⟩
    | rules => have := h.low .rules x hx; exact ⟨this.1, by omega⟩
    | cells => have := h.low .cells x hx; exact ⟨this.1, by omega⟩
  · have o1 : Only (fun b => ∃ a, dblk s a = some b) w w2 := (Only.of_below hb1).trans ho (fun x hx => Or.inl (by
      rcases hx with hx | hx
      · exact ⟨.cells, hx⟩
      · exact ⟨.box, by rw [hx]; rfl⟩))
    exact o1.trans ho3 (fun x ⟨p, hp⟩ => Or.inl ⟨.ref p, hp⟩)
  · intro a x hx
    cases a with
    | ref p =>
      rcases hnew p x hx with ⟨p', hp'⟩ | h'
      · exact Or.inl ⟨.ref p', hp'⟩
      · exact Or.inr (by omega)
    | box => exact Or.inl ⟨.box, hx⟩
    | rules => exact Or.inl ⟨.rules, hx⟩
    | cells => exact Or.inl ⟨.cells, hx⟩
end Go.Proofs.YthgcpjdlcooncaaGreat
namespace Go.Proofs.YthgcpjdlcooncaaGreat
open Go.RowKit Veil
theorem piece_no {a b : Int} {m : Nat} (h : pieceB a b m = false) : a < 0 ∨ b ≤ a ∨ (m : Int) < b := by
  by_cases h1 : 0 ≤ a
  · by_cases h2 : a < b
    · by_cases h3 : b ≤ (m : Int)
      · simp [pieceB, h1, h2, h3] at h
      · omega
    · omega
  · omega
theorem piece_yes {a b : Int} {m : Nat} (h : pieceB a b m = true) : ∃ x y : Nat, a = x ∧ b = y ∧ x < y ∧ y ≤ m := by
  simp only [pieceB, Bool.and_eq_true, decide_eq_true_eq] at h
  exact ⟨a.toNat, b.toNat, by omega, by omega, by omega, by omega⟩
theorem cells_bound {c : Cfg} {row : List RC} {d a b : Nat} (hb : ∀ x, x ∈ row → x.b < 256) (hr : row.length ≤ 1200) (hab : a < b) (hbl : b ≤ (placesR c row d).length) : (cellsTo c row d (placesR c row d) a b).length ≤ 1000000000000 ∧ ∀ r, r ∈ cellsTo c row d (placesR c row d) a b → r < row.length := by
  have hok := placesOk_R c row d hb
  have hl := (hok.le (b - 1) (by omega)).2
  rw [(cells_one hok b hab hbl).1]
  refine ⟨?_, fun r hr => ?_⟩
  · unfold cellsIn
    have := List.length_filter_le (thR c row d) (List.range' (plAt (placesR c row d) a).first ((plAt (placesR c row d) (b - 1)).last + 1 - (plAt (placesR c row d) a).first))
    rw [List.length_range'] at this
    omega
  · have := mem_cellsIn.1 hr
    simp only [meantB, Bool.and_eq_true, decide_eq_true_eq] at this
    omega
theorem DocI.bytes {w0 w : World} {s : DS} {k : Nat} (h : DocI w0 w s k) : ∀ x, x ∈ s.row → x.b < 256 := fun x hx => (h.good.cells x hx).1.byte
theorem DocI.mks {w0 w : World} {s : DS} {k : Nat} (h : DocI w0 w s k) (hk : k ≤ 4000000000000) : ∀ (i : Nat) (p : RC × Value), s.rows[i]? = some p → p.1.marks.length ≤ 4000000000000 := fun _ p hp => Nat.le_trans (h.good.cells p.1 (List.mem_map.2 ⟨p, List.mem_of_getElem? hp, rfl⟩)).2 hk
theorem DocI.ne {w0 w : World} {s : DS} {k : Nat} (h : DocI w0 w s k) : ∀ b, s.ppv.ownBlock = some b → s.pd ≠ b := fun b hb e => by
  have := h.apart .cells .box b hb (by rw [← e]; rfl); cases this
theorem doc_delete (w0 w : World) (s : DS) (k : Nat) (o : OpR) (h : DocI w0 w s k) (hk : k ≤ 4000000000000) (hko : o.kind = 8) :
    Calls Tryz.prog 40 #[.agg (pairC s.pd s.rd), .agg o.cells] w fun e w' => e = .returned (.bool true) ∧ EditOk w0 w s k w' := by
  have hok := h.rdocOk (Nat.le_trans hk (by decide))
  obtain ⟨_, _, _, _, hn, _, hn1⟩ := labels_of h.right.labels
  have refuse : ∀ code : Int, (∀ w', Below w.heap.size w w' → Calls Tryz.prog 72 #[.pointer (some ⟨s.pd, 0, none⟩), .int .i64 o.b, .int .i64 o.c, .int .i64 o.d] w' fun e w'' => e = .returned (.int .i64 code) ∧ Below w'.heap.size w' w'') → (∀ w', Below w.heap.size w w' → Calls Tryz.prog 73 #[.pointer (some ⟨s.rd, 0, none⟩), .int .i64 o.b, .int .i64 o.c, .int .i64 o.d] w' fun e w'' => e = .returned (.int .i64 code) ∧ Below w'.heap.size w' w'') → Calls Tryz.prog 40 #[.agg (pairC s.pd s.rd), .agg o.cells] w fun e w' => e = .returned (.bool true) ∧ EditOk w0 w s k w' := fun code hP hR => by
    refine edited_delete s.pd s.rd o (fun w' w'' code' => code' = code ∧ Below w'.heap.size w' w'') (EditOk w0 w s k) w hko (fun w' hb => (hP w' hb).mono fun e w'' ⟨h1, h2⟩ => ⟨code, h1, ⟨rfl, h2⟩, fun k _ hk => h2.block k hk⟩) (fun w' w'' code' hb ⟨hc, hb'⟩ => ?_)
    subst hc
    have hbb := hb.trans (hb'.mono hb.size)
    exact (hR w'' hbb).mono fun e w3 ⟨h1, h2⟩ => ⟨h1, EditOk.same h (hbb.trans (h2.mono hbb.size))⟩
  cases hlv : okL s.c.labels o.b
  · exact refuse 6 (fun w' hb => dcDelete_lv s.pd _ _ _ _ _ _ _ o.b o.c o.d w' (h.box.below hb h.box.lt) (by rw [h.okL]; exact hlv)) (fun w' hb => rdelete_no1 s.c s.v s.rows s.rrv s.rav s.rd o.b o.c o.d w' (h.below hb).ref.read hlv)
  obtain ⟨lv, hlv1, hlv2⟩ := okL_nat' hn hlv
  have hP : ∀ w', Below w.heap.size w w' → DocI w0 w' s k := fun w' hb => h.below hb
  cases hpc : pieceB o.c o.d (placesR s.c s.row lv).length
  · refine refuse 7 (fun w' hb => ?_) (fun w' hb => ?_)
    · rw [hlv1]
      exact dcDelete_at s.c s.row s.pd _ _ s.prv s.ppv _ _ _ w0.heap.size lv o.c o.d w' (hP w' hb).box (hP w' hb).rules (hP w' hb).cells rfl rfl h.right h.rowGood hlv2 hpc
    · rw [hlv1]
      exact rdelete_no2 s.c s.v s.rows s.rrv s.rav s.rd lv o.c o.d w' (hP w' hb).ref.read hok (by rw [← hlv1]; exact hlv) (piece_no hpc)
  obtain ⟨x, y, hx, hy, hxy, hyl⟩ := piece_yes hpc
  have hcb := cells_bound h.bytes (h.good.length h.n6) hxy hyl
  have hmm := cells_meant s.c s.row lv h.bytes hxy hyl ⟨2, lv, 0⟩
  refine edited_delete s.pd s.rd o (fun w' w'' code => code = 0 ∧ OwnL 188 20 (pcV s.c) w'' w0.heap.size s.ppv (markAll s.row (cellsTo s.c s.row lv (placesR s.c s.row lv) x y) ⟨2, lv, 0⟩) ∧ Only (fun k => s.ppv.ownBlock = some k) w' w'') (EditOk w0 w s k) w hko (fun w' hb => ?_) (fun w' w'' code hb ⟨hc, hown, hon⟩ => ?_)
  · have hd := hP w' hb
    rw [hlv1, hx, hy]
    refine (dcDelete_ok s.c s.row s.pd _ _ s.prv s.ppv _ _ _ w0.heap.size lv x y w' hd.box hd.rules hd.cells rfl rfl h.right h.rowGood h.ne hlv2 hxy hyl).mono ?_
    rintro e w'' ⟨rfl, hown, hon⟩
    exact ⟨0, rfl, ⟨rfl, hown, hon⟩, fun j hj1 hj2 => hon.block j hj2 (fun e => by have := (h.low .cells j e).2; omega)⟩
  · subst hc
    have hd := hP w' hb
    have hrefk : RDocO w0 w'' s.rd s.c s.v s.rows s.acts s.rrv s.rav := hd.ref.kept hon (fun b hb => (h.low .cells b hb).1) (fun p b hp e => by have := h.apart (.ref p) .cells b hp e; cases this)
    rw [hlv1, hx, hy]
    refine (rdelete_ok w0 w'' s.rd s.c s.v s.rows s.acts s.rrv s.rav lv x y hrefk hok (by rw [← hlv1]; exact hlv) hxy hyl (h.mks hk) (Nat.le_trans h.acts.1 hk) (by simpa [DS.row] using hcb)).mono ?_
    rintro e w3 ⟨rfl, rows', av', hr1, hr2, hr3, hr4⟩
    refine ⟨rfl, ?_⟩
    have hbox2 : PBox w'' s.pd s.c.n (tT s.c) s.prv (grF s.c) s.ppv (ownC s.row) (relN s.acts) := hd.box.kept (hon.block s.pd hd.box.lt (fun e => h.ne s.pd e rfl))
    refine EditOk.mark h hb hown hbox2 ⟨hon.os, hon.tape, hon.output, hon.size, fun k hk hn => hon.block k hk (fun e => hn (Or.inl e))⟩ hr1 hr2 hr3 hr4 ?_ ?_ ?_ ?_ ?_
    · rw [hmm]; exact ownC_marked _ _ _
    · exact (relN_snoc_no rfl).symm
    · exact fun _ => ⟨lv, rfl, hlv2⟩
    · rw [hmm]; exact markIf_ok _ h.good ⟨hlv2, by show 0 < s.c.n; omega⟩
    · rw [hmm]; exact markIf_no35 _ h.no35
theorem doc_raise (w0 w : World) (s : DS) (k : Nat) (o : OpR) (h : DocI w0 w s k) (hk : k ≤ 4000000000000) (hko : o.kind = 13) :
    Calls Tryz.prog 40 #[.agg (pairC s.pd s.rd), .agg o.cells] w fun e w' => e = .returned (.bool true) ∧ EditOk w0 w s k w' := by
  have hok := h.rdocOk (Nat.le_trans hk (by decide))
  obtain ⟨_, _, _, _, hn, _, hn1⟩ := labels_of h.right.labels
  have refuse : ∀ code : Int, (∀ w', Below w.heap.size w w' → Calls Tryz.prog 74 #[.pointer (some ⟨s.pd, 0, none⟩), .int .i64 o.b, .int .i64 o.c, .int .i64 o.d, .int .i64 o.e] w' fun e w'' => e = .returned (.int .i64 code) ∧ Below w'.heap.size w' w'') → (∀ w', Below w.heap.size w w' → Calls Tryz.prog 75 #[.pointer (some ⟨s.rd, 0, none⟩), .int .i64 o.b, .int .i64 o.c, .int .i64 o.d, .int .i64 o.e] w' fun e w'' => e = .returned (.int .i64 code) ∧ Below w'.heap.size w' w'') → Calls Tryz.prog 40 #[.agg (pairC s.pd s.rd), .agg o.cells] w fun e w' => e = .returned (.bool true) ∧ EditOk w0 w s k w' := fun code hP hR => by
    refine edited_raise s.pd s.rd o (fun w' w'' code' => code' = code ∧ Below w'.heap.size w' w'') (EditOk w0 w s k) w hko (fun w' hb => (hP w' hb).mono fun e w'' ⟨h1, h2⟩ => ⟨code, h1, ⟨rfl, h2⟩, fun k _ hk => h2.block k hk⟩) (fun w' w'' code' hb ⟨hc, hb'⟩ => ?_)
    subst hc
    have hbb := hb.trans (hb'.mono hb.size)
    exact (hR w'' hbb).mono fun e w3 ⟨h1, h2⟩ => ⟨h1, EditOk.same h (hbb.trans (h2.mono hbb.size))⟩
  cases hlv : okL s.c.labels o.b
  · exact refuse 6 (fun w' hb => dcRaise_lv s.pd _ _ _ _ _ _ _ o.b o.c o.d o.e w' (h.box.below hb h.box.lt) (by rw [h.okL]; exact hlv)) (fun w' hb => rraise_no1 s.c s.v s.rows s.rrv s.rav s.rd o.b o.c o.d o.e w' (h.below hb).ref.read hlv)
  cases hlb : okL s.c.labels o.e
  · exact refuse 6 (fun w' hb => dcRaise_lb s.pd _ _ _ _ _ _ _ o.b o.c o.d o.e w' (h.box.below hb h.box.lt) (by rw [h.okL]; exact hlv) (by rw [h.okL]; exact hlb)) (fun w' hb => rraise_no1b s.c s.v s.rows s.rrv s.rav s.rd o.b o.c o.d o.e w' (h.below hb).ref.read hlv hlb)
  obtain ⟨lb, hlb1, hlb2⟩ := okL_nat' hn hlb
  obtain ⟨lv, hlv1, hlv2⟩ := okL_nat' hn hlv
  have hP : ∀ w', Below w.heap.size w w' → DocI w0 w' s k := fun w' hb => h.below hb
  cases hpc : pieceB o.c o.d (placesR s.c s.row lv).length
  · refine refuse 7 (fun w' hb => ?_) (fun w' hb => ?_)
    · rw [hlv1, hlb1]
      exact dcRaise_at s.c s.row s.pd _ _ s.prv s.ppv _ _ _ w0.heap.size lv o.c o.d lb w' (hP w' hb).box (hP w' hb).rules (hP w' hb).cells rfl rfl h.right h.rowGood hlv2 hlb2 hpc
    · rw [hlv1, hlb1]
      exact rraise_no2 s.c s.v s.rows s.rrv s.rav s.rd lv o.c o.d lb w' (hP w' hb).ref.read hok (by rw [← hlv1]; exact hlv) (by rw [← hlb1]; exact hlb) (piece_no hpc)
  obtain ⟨x, y, hx, hy, hxy, hyl⟩ := piece_yes hpc
  have hcb := cells_bound h.bytes (h.good.length h.n6) hxy hyl
  have hmm := cells_meant s.c s.row lv h.bytes hxy hyl ⟨3, lv, lb⟩
  refine edited_raise s.pd s.rd o (fun w' w'' code => code = 0 ∧ OwnL 188 20 (pcV s.c) w'' w0.heap.size s.ppv (markAll s.row (cellsTo s.c s.row lv (placesR s.c s.row lv) x y) ⟨3, lv, lb⟩) ∧ Only (fun k => s.ppv.ownBlock = some k) w' w'') (EditOk w0 w s k) w hko (fun w' hb => ?_) (fun w' w'' code hb ⟨hc, hown, hon⟩ => ?_)
  · have hd := hP w' hb
    rw [hlv1, hx, hy, hlb1]
    refine (dcRaise_ok s.c s.row s.pd _ _ s.prv s.ppv _ _ _ w0.heap.size lv x y lb w' hd.box hd.rules hd.cells rfl rfl h.right h.rowGood h.ne hlv2 hlb2 hxy hyl).mono ?_
    rintro e w'' ⟨rfl, hown, hon⟩
    exact ⟨0, rfl, ⟨rfl, hown, hon⟩, fun j hj1 hj2 => hon.block j hj2 (fun e => by have := (h.low .cells j e).2; omega)⟩
  · subst hc
    have hd := hP w' hb
    have hrefk : RDocO w0 w'' s.rd s.c s.v s.rows s.acts s.rrv s.rav := hd.ref.kept hon (fun b hb => (h.low .cells b hb).1) (fun p b hp e => by have := h.apart (.ref p) .cells b hp e; cases this)
    rw [hlv1, hx, hy, hlb1]
    refine (rraise_ok w0 w'' s.rd s.c s.v s.rows s.acts s.rrv s.rav lv x y lb hrefk hok (by rw [← hlv1]; exact hlv) (by rw [← hlb1]; exact hlb) hxy hyl (h.mks hk) (Nat.le_trans h.acts.1 hk) (by simpa [DS.row] using hcb)).mono ?_
    rintro e w3 ⟨rfl, rows', av', hr1, hr2, hr3, hr4⟩
    refine ⟨rfl, ?_⟩
    have hbox2 : PBox w'' s.pd s.c.n (tT s.c) s.prv (grF s.c) s.ppv (ownC s.row) (relN s.acts) := hd.box.kept (hon.block s.pd hd.box.lt (fun e => h.ne s.pd e rfl))
    refine EditOk.mark h hb hown hbox2 ⟨hon.os, hon.tape, hon.output, hon.size, fun k hk hn => hon.block k hk (fun e => hn (Or.inl e))⟩ hr1 hr2 hr3 hr4 ?_ ?_ ?_ ?_ ?_
    · rw [hmm]; exact ownC_marked _ _ _
    · exact (relN_snoc_no rfl).symm
    · exact fun _ => ⟨lv, rfl, hlv2⟩
    · rw [hmm]; exact markIf_ok _ h.good ⟨hlv2, hlb2⟩
    · rw [hmm]; exact markIf_no35 _ h.no35
theorem doc_view (w0 w : World) (s : DS) (k : Nat) (o : OpR) (h : DocI w0 w s k) (hk : k ≤ 4000000000000) (hko : o.kind = 9) :
    Calls Tryz.prog 48 #[.agg (pairC s.pd s.rd), .agg o.cells] w fun e w' => e = .returned (.bool true) ∧ Below w.heap.size w w' := by
  have hok := h.rdocOk (Nat.le_trans hk (by decide))
  obtain ⟨_, _, _, _, hn, _, _⟩ := labels_of h.right.labels
  cases hlv : okL s.c.labels o.b
  · exact looked_view s.pd s.rd o ByteArray.empty 6 w hko (fun w' hb => dcView_no s.pd _ _ _ _ _ _ _ o.b w' (h.box.below hb h.box.lt) (by rw [h.okL]; exact hlv)) (fun w' hb => rview_no s.c s.v s.rows s.rrv s.rav s.rd o.b w' (h.below hb).ref.read hlv)
  · obtain ⟨lv, hlv1, hlv2⟩ := okL_nat' hn hlv
    obtain ⟨hv1, hv2⟩ := view_of hok lv
    refine looked_view s.pd s.rd o (viewT (placesR s.c s.row lv)) 0 w hko (fun w' hb => ?_) (fun w' hb => ?_)
    · rw [hlv1]
      have hd := h.below hb
      exact dcView_ok s.c s.row s.pd _ _ s.prv s.ppv _ _ _ w0.heap.size lv w' hd.box hd.rules hd.cells rfl rfl h.right h.rowGood hlv2
    · rw [hlv1]
      exact rview_ok s.c s.v s.rows s.rrv s.rav s.rd lv w' (h.below hb).ref.read hok (by rw [← hlv1]; exact hlv) hv1 hv2
theorem doc_left (w0 w : World) (s : DS) (k : Nat) (o : OpR) (h : DocI w0 w s k) (hk : k ≤ 4000000000000) (hko : o.kind = 12) :
    Calls Tryz.prog 48 #[.agg (pairC s.pd s.rd), .agg o.cells] w fun e w' => e = .returned (.bool true) ∧ Below w.heap.size w w' := by
  have hok := h.rdocOk (Nat.le_trans hk (by decide))
  obtain ⟨_, _, _, _, hn, _, _⟩ := labels_of h.right.labels
  cases hlv : okL s.c.labels o.b
  · exact looked_left s.pd s.rd o 0 6 w hko (fun w' hb => dcLeft_no s.pd _ _ _ _ _ _ _ o.b w' (h.box.below hb h.box.lt) (by rw [h.okL]; exact hlv)) (fun w' hb => rleft_no s.c s.v s.rows s.rrv s.rav s.rd o.b w' (h.below hb).ref.read hlv)
  · obtain ⟨lv, hlv1, hlv2⟩ := okL_nat' hn hlv
    refine looked_left s.pd s.rd o (200 - (ownC s.row lv : Int)) 0 w hko (fun w' hb => ?_) (fun w' hb => ?_)
    · rw [hlv1]
      exact dcLeft_ok s.pd _ _ s.prv s.ppv _ _ _ lv w' (h.below hb).box h.n6 hlv2 (h.good.quota lv)
    · rw [hlv1]
      have := rleft_ok s.c s.v s.rows s.rrv s.rav s.rd lv w' (h.below hb).ref.read hok (by rw [← hlv1]; exact hlv)
      rw [ownN_own] at this
      exact this
end Go.Proofs.YthgcpjdlcooncaaGreat
namespace Go.Proofs.YthgcpjdlcooncaaGreat
open Go.RowKit Veil
theorem putC_own (row : List RC) (s : ByteArray) (lv m k : Nat) : ownC (putC row (newC s lv m) k) = insF (ownC row) lv m := by
  funext l
  have h1 : ownC (putC row (newC s lv m) k) l = ownC row l + ownC (newC s lv m) l := by
    have : ownC row l = ownC (row.take k) l + ownC (row.drop k) l := by
      unfold ownC
      rw [← List.length_append, ← List.filter_append, List.take_append_drop]
    rw [this]
    unfold ownC putC
    simp only [List.filter_append, List.length_append]
    omega
  have h2 : ownC (newC s lv m) l = if l = lv then m else 0 := by
    clear h1
    induction m with
    | zero => unfold ownC; rw [newC_zero]; simp
    | succ m ih =>
      have : newC s lv (m + 1) = newC s lv m ++ [⟨((bytes s).getD m 0).toNat, lv, []⟩] := by
        unfold newC newTo; rw [List.range_succ, List.map_append, List.map_append]; rfl
      unfold ownC at *
      rw [this, List.filter_append, List.length_append, ih]
      by_cases hl : l = lv
      · subst hl; simp
      · have : (lv == l) = false := by simp; omega
        simp [hl, this]
  rw [h1, h2]
  unfold insF
  by_cases hl : l = lv
  · subst hl; simp
  · simp [hl]
theorem newC_no35 {s : ByteArray} (lv : Nat) (h : textOkB s = true) : ∀ x, x ∈ newC s lv s.size → x.b ≠ 35 := by
  intro x hx
  unfold newC newTo at hx
  simp only [List.map_map, List.mem_map, List.mem_range] at hx
  obtain ⟨j, hj, rfl⟩ := hx
  unfold textOkB okTo at h
  simp only [Bool.and_eq_true, List.all_eq_true] at h
  have hm : (bytes s).getD j 0 ∈ (bytes s).take s.size := by
    rw [List.take_of_length_le (by rw [bytes_length]; exact Nat.le_refl _), List.getD, List.getElem?_eq_getElem (by rw [bytes_length]; exact hj)]
    exact List.getElem_mem _
  have := h.1.1 _ hm
  unfold okByte at this
  simp only [Bool.and_eq_true, Bool.not_eq_true', beq_eq_false_iff_ne] at this
  exact this.2
theorem EditOk.ins {w0 w w1 w2 w3 : World} {s : DS} {k : Nat} {row' : List RC} {rows' : List (RC × Value)} {act : RA} {rv' av' pv' : Value} {I' : Nat → Nat} (h : DocI w0 w s k) (hb1 : Below w.heap.size w w1) (hown : OwnL 188 20 (pcV s.c) w2 w1.heap.size pv' row') (hbox : PBox w2 s.pd s.c.n (tT s.c) s.prv (grF s.c) pv' I' (relN s.acts)) (ho : Only (fun x => x = s.pd) w1 w2)
    (href : RDocO w0 w3 s.rd s.c s.v rows' (s.acts ++ [act]) rv' av') (hrow : rows'.map (·.1) = row') (ho3 : Only (fun x => ∃ p, blkOf' s.rd s.rrv s.rav s.rows p = some x) w2 w3) (hnew : ∀ p b, blkOf' s.rd rv' av' rows' p = some b → (∃ p, blkOf' s.rd s.rrv s.rav s.rows p = some b) ∨ w2.heap.size ≤ b)
    (hI : I' = ownC row') (hlg : relN s.acts = relN (s.acts ++ [act])) (hra : RAOk s.c act) (hgood : RowOk s.c row' (k + 1)) (h35 : ∀ x, x ∈ row' → x.b ≠ 35) : EditOk w0 w s k w3 := by
  have hs12 := ho.size
  have hs1 := hb1.size
  have hs01 : w0.heap.size ≤ w1.heap.size := Nat.le_trans h.ref.old.size hs1
  have hnot : ∀ a x, dblk s a = some x → (∀ p, a ≠ .ref p) → ¬ ∃ p, blkOf' s.rd s.rrv s.rav s.rows p = some x := fun a x hx ha ⟨p, hp⟩ => ha p (h.apart a (.ref p) x hx hp)
  have hpv : ∀ x, pv'.ownBlock = some x → w1.heap.size ≤ x ∧ x < w2.heap.size := fun x hx => hown.lt hx
  have lowOld : ∀ a x, dblk s a = some x → x < w1.heap.size := fun a x hx => by have := (h.low a x hx).2; omega
  refine ⟨⟨s.pd, s.rd, s.c, s.v, rows', s.acts ++ [act], rv', av', s.prv, pv'⟩, ⟨href, ?_, ?_, ?_, h.right, h.cfg, ?_, ?_, ⟨?_, ?_⟩, ?_, ?_⟩, rfl, rfl, ?_, ?_⟩
  · have := hbox.kept (ho3.block s.pd hbox.lt (hnot .box s.pd rfl (fun p => by simp)))
    show PBox w3 s.pd s.c.n (tT s.c) s.prv (grF s.c) pv' (ownC (rows'.map (·.1))) (relN (s.acts ++ [act]))
    rw [hrow, ← hI, ← hlg]; exact this
  · have r2 := (h.rules.below hb1).only ho (fun b hb e => by have := h.apart .rules .box b hb (by rw [e]; rfl); cases this)
    exact r2.only ho3 (fun b hb => hnot .rules b hb (fun p => by simp))
  · show OwnL 188 20 (pcV s.c) w3 w0.heap.size pv' (rows'.map (·.1))
    rw [hrow]
    exact (hown.only ho3 (fun b hb ⟨p, hp⟩ => by have := (hpv b hb).1; have := lowOld (.ref p) b hp; omega)).mono hs01
  · show RowOk s.c (rows'.map (·.1)) (k + 1)
    rw [hrow]; exact hgood
  · show ∀ x, x ∈ rows'.map (·.1) → x.b ≠ 35
    rw [hrow]; exact h35
  · simp only [List.length_append, List.length_singleton]; have := h.acts.1; omega
  · intro a ha
    simp only [List.mem_append, List.mem_singleton] at ha
    rcases ha with ha | rfl
    · exact h.acts.2 a ha
    · exact hra
  · have refNo : ∀ p a x, (∀ q, a ≠ DT.ref q) → blkOf' s.rd rv' av' rows' p = some x → dblk s a = some x → False := fun p a x ha hp hx => by
      rcases hnew p x hp with ⟨p', hp'⟩ | h'
      · exact ha p' (h.apart a (.ref p') x hx hp')
      · have := lowOld a x hx; omega
    have celNo : ∀ p x, blkOf' s.rd rv' av' rows' p = some x → pv'.ownBlock = some x → False := fun p x hp hx => by
      rcases hnew p x hp with ⟨p', hp'⟩ | h'
      · have := lowOld (.ref p') x hp'; have := (hpv x hx).1; omega
      · have := (hpv x hx).2; omega
    have cOld : ∀ a x, dblk s a = some x → pv'.ownBlock = some x → False := fun a x ha hx => by have := lowOld a x ha; have := (hpv x hx).1; omega
    intro a b x ha hb
    cases a with
    | ref p =>
      cases b with
      | ref q => rw [href.parts.apart p q x ha hb]
      | box => exact (refNo p .box x (fun q => by simp) ha hb).elim
      | rules => exact (refNo p .rules x (fun q => by simp) ha hb).elim
      | cells => exact (celNo p x ha hb).elim
    | box =>
      cases b with
      | ref q => exact (refNo q .box x (fun q => by simp) hb ha).elim
      | box => rfl
      | rules => exact h.apart .box .rules x ha hb
      | cells => exact (cOld .box x ha hb).elim
    | rules =>
      cases b with
      | ref q => exact (refNo q .rules x (fun q => by simp) hb ha).elim
      | box => exact h.apart .rules .box x ha hb
      | rules => rfl
      | cells => exact (cOld .rules x ha hb).elim
    | cells =>
      cases b with
      | ref q => exact (celNo q x hb ha).elim
      | box => exact (cOld .box x hb ha).elim
      | rules => exact (cOld .rules x hb ha).elim
      | cells => rfl
  · have hs3 := ho3.size
    intro a x hx
    cases a with
    | ref p => exact href.parts.low p x hx
    | box => have := h.low .box x hx; exact ⟨this.1, by omega⟩
    | rules => have := h.low .rules x hx; exact ⟨this.1, by omega⟩
    | cells => have := hpv x hx; exact ⟨by omega, by omega⟩
  · have o1 : Only (fun b => ∃ a, dblk s a = some b) w w2 := (Only.of_below hb1).trans ho (fun x hx => Or.inl ⟨.box, by rw [hx]; rfl⟩)
    exact o1.trans ho3 (fun x ⟨p, hp⟩ => Or.inl ⟨.ref p, hp⟩)
  · intro a x hx
    cases a with
    | ref p =>
      rcases hnew p x hx with ⟨p', hp'⟩ | h'
      · exact Or.inl ⟨.ref p', hp'⟩
      · exact Or.inr (by omega)
    | box => exact Or.inl ⟨.box, hx⟩
    | rules => exact Or.inl ⟨.rules, hx⟩
    | cells => exact Or.inr (by have := (hpv x hx).1; omega)
theorem doc_insert (w0 w : World) (s : DS) (k : Nat) (o : OpR) (h : DocI w0 w s k) (hk : k ≤ 4000000000000) (hos : o.s.size ≤ 140737488355328) (hko : o.kind = 7) :
    Calls Tryz.prog 40 #[.agg (pairC s.pd s.rd), .agg o.cells] w fun e w' => e = .returned (.bool true) ∧ EditOk w0 w s k w' := by
  have hok := h.rdocOk (Nat.le_trans hk (by decide))
  obtain ⟨_, _, _, _, hn, _, hn1⟩ := labels_of h.right.labels
  have refuse : ∀ code : Int, (∀ w', Below w.heap.size w w' → Calls Tryz.prog 70 #[.pointer (some ⟨s.pd, 0, none⟩), .int .i64 o.b, .int .i64 o.c, .string o.s] w' fun e w'' => e = .returned (.int .i64 code) ∧ Below w'.heap.size w' w'') → (∀ w', Below w.heap.size w w' → Calls Tryz.prog 71 #[.pointer (some ⟨s.rd, 0, none⟩), .int .i64 o.b, .int .i64 o.c, .string o.s] w' fun e w'' => e = .returned (.int .i64 code) ∧ Below w'.heap.size w' w'') → Calls Tryz.prog 40 #[.agg (pairC s.pd s.rd), .agg o.cells] w fun e w' => e = .returned (.bool true) ∧ EditOk w0 w s k w' := fun code hP hR => by
    refine edited_insert s.pd s.rd o (fun w' w'' code' => code' = code ∧ Below w'.heap.size w' w'') (EditOk w0 w s k) w hko (fun w' hb => (hP w' hb).mono fun e w'' ⟨h1, h2⟩ => ⟨code, h1, ⟨rfl, h2⟩, fun k _ hk => h2.block k hk⟩) (fun w' w'' code' hb ⟨hc, hb'⟩ => ?_)
    subst hc
    have hbb := hb.trans (hb'.mono hb.size)
    exact (hR w'' hbb).mono fun e w3 ⟨h1, h2⟩ => ⟨h1, EditOk.same h (hbb.trans (h2.mono hbb.size))⟩
  cases hlv : okL s.c.labels o.b
  · exact refuse 6 (fun w' hb => dcInsert_lv s.pd _ _ _ _ _ _ _ o.b o.c o.s w' (h.box.below hb h.box.lt) (by rw [h.okL]; exact hlv)) (fun w' hb => rinsert_no1 s.c s.v s.rows s.rrv s.rav s.rd o.b o.c o.s w' (h.below hb).ref.read hlv)
  obtain ⟨lv, hlv1, hlv2⟩ := okL_nat' hn hlv
  have hP : ∀ w', Below w.heap.size w w' → DocI w0 w' s k := fun w' hb => h.below hb
  by_cases hat : o.c < 0 ∨ ((placesR s.c s.row lv).length : Int) < o.c
  · refine refuse 7 (fun w' hb => ?_) (fun w' hb => ?_)
    · rw [hlv1]
      exact dcInsert_at s.c s.row s.pd _ _ s.prv s.ppv _ _ _ w0.heap.size lv o.c o.s w' (hP w' hb).box (hP w' hb).rules (hP w' hb).cells rfl rfl h.right h.rowGood hlv2 hat
    · rw [hlv1]
      exact rinsert_no2 s.c s.v s.rows s.rrv s.rav s.rd lv o.c o.s w' (hP w' hb).ref.read hok (by rw [← hlv1]; exact hlv) hat
  obtain ⟨a, ha, hal⟩ : ∃ a : Nat, o.c = a ∧ a ≤ (placesR s.c s.row lv).length := ⟨o.c.toNat, by omega, by omega⟩
  have hR : ∀ w', RDocO w0 w' s.rd s.c s.v s.rows s.acts s.rrv s.rav → Calls Tryz.prog 71 #[.pointer (some ⟨s.rd, 0, none⟩), .int .i64 o.b, .int .i64 o.c, .string o.s] w' fun e w'' => ∃ code, e = .returned (.int .i64 code) ∧ InsIs w0 w' w'' s.rd s.c s.v s.rows s.acts s.rrv s.rav lv a o.s code := fun w' hr => by
    rw [hlv1, ha]
    exact rinsert_any w0 w' s.rd s.c s.v s.rows s.acts s.rrv s.rav lv a o.s hr hok (by rw [← hlv1]; exact hlv) hal hos (Nat.le_trans h.acts.1 hk)
  have hownN : ownN s.rows lv s.rows.length = ownC s.row lv := ownN_own s.rows lv
  have hq := h.good.quota lv
  cases htx : textOkB o.s
  · refine refuse 8 (fun w' hb => ?_) (fun w' hb => ?_)
    · rw [hlv1, ha]
      exact dcInsert_text s.c s.row s.pd _ _ s.prv s.ppv _ _ _ w0.heap.size lv a o.s w' (hP w' hb).box (hP w' hb).rules (hP w' hb).cells rfl rfl h.right h.rowGood hlv2 hal hos htx
    · refine (hR w' (hP w' hb).ref).mono ?_
      rintro e w'' ⟨code, rfl, hi⟩
      obtain ⟨rfl, hb'⟩ := hi.bad htx
      exact ⟨rfl, hb'⟩
  have hts : o.s.size ≤ 40 := by
    unfold textOkB at htx
    simp only [Bool.and_eq_true, decide_eq_true_eq] at htx
    exact htx.2
  by_cases hfull : 200 < ownC s.row lv + o.s.size
  · refine refuse 9 (fun w' hb => ?_) (fun w' hb => ?_)
    · rw [hlv1, ha]
      exact dcInsert_full s.c s.row s.pd _ _ s.prv s.ppv _ _ _ w0.heap.size lv a o.s w' (hP w' hb).box (hP w' hb).rules (hP w' hb).cells rfl rfl h.right h.rowGood hlv2 hal hts htx hq hfull
    · refine (hR w' (hP w' hb).ref).mono ?_
      rintro e w'' ⟨code, rfl, hi⟩
      obtain ⟨rfl, hb'⟩ := hi.full htx (by rw [hownN]; exact hfull)
      exact ⟨rfl, hb'⟩
  refine edited_insert s.pd s.rd o (fun w' w'' code => code = 0 ∧ ∃ v6, PBox w'' s.pd s.c.n (tT s.c) s.prv (grF s.c) v6 (insF (ownC s.row) lv o.s.size) (relN s.acts) ∧ OwnL 188 20 (pcV s.c) w'' w'.heap.size v6 (putC s.row (newC o.s lv o.s.size) (behindR (placesR s.c s.row lv) a)) ∧ Only (fun k => k = s.pd) w' w'') (EditOk w0 w s k) w hko (fun w' hb => ?_) (fun w' w'' code hb ⟨hc, v6, hpb, hown, hon⟩ => ?_)
  · have hd := hP w' hb
    rw [hlv1, ha]
    refine (dcInsert_ok s.c s.row s.pd _ _ s.prv s.ppv _ _ _ w0.heap.size lv a o.s w' hd.box hd.rules hd.cells rfl rfl h.right h.rowGood hlv2 hal hts htx (by omega)).mono ?_
    rintro e w'' ⟨rfl, v6, hpb, hown, hon⟩
    exact ⟨0, rfl, ⟨rfl, v6, hpb, hown, hon⟩, fun j hj1 hj2 => hon.block j hj2 (fun e => by have := (h.low .box s.pd rfl).2; omega)⟩
  · subst hc
    have hd := hP w' hb
    have hrefk : RDocO w0 w'' s.rd s.c s.v s.rows s.acts s.rrv s.rav := hd.ref.kept hon (fun b hb => by rw [hb]; exact (h.low .box s.pd rfl).1) (fun p b hp e => by have := h.apart (.ref p) .box b hp (by rw [e]; rfl); cases this)
    refine (hR w'' hrefk).mono ?_
    rintro e w3 ⟨code, rfl, hi⟩
    obtain ⟨rfl, rv', av', hr1, hr3, hr4⟩ := hi.ok htx (by rw [hownN]; omega)
    refine ⟨rfl, ?_⟩
    have hmap : (putIn s.rows (newTo o.s lv o.s.size) (behindR (placesR s.c s.row lv) a)).map (·.1) = putC s.row (newC o.s lv o.s.size) (behindR (placesR s.c s.row lv) a) := putIn_map _ _ _
    refine EditOk.ins h hb hown hpb hon hr1 hmap hr3 hr4 ?_ ?_ ?_ ?_ ?_
    · exact (putC_own _ _ _ _ _).symm
    · exact (relN_snoc_no rfl).symm
    · exact fun _ => ⟨lv, rfl, hlv2⟩
    · have := putIn_ok (b := behindR (placesR s.c s.row lv) a) (s := o.s) (k := o.s.size) h.good hlv2 (by show ownC s.row lv + o.s.size ≤ 200; omega)
      rw [hmap] at this
      exact this.mono (Nat.le_succ k)
    · intro x hx
      unfold putC at hx
      simp only [List.mem_append] at hx
      rcases hx with (hx | hx) | hx
      · exact h.no35 x (List.mem_of_mem_take hx)
      · exact newC_no35 lv htx x hx
      · exact h.no35 x (List.mem_of_mem_drop hx)
end Go.Proofs.YthgcpjdlcooncaaGreat
