/- Play4, Play5, DocLaw. -/
import Derived.Test.YthgcpjdlcooncaaGreatE43
import Derived.Test.YthgcpjdlcooncaaGreatE30
import Derived.Test.YthgcpjdlcooncaaGreatE23
import Derived.Test.YthgcpjdlcooncaaGreatE21
namespace Go.Proofs.YthgcpjdlcooncaaGreat
open Go.RowKit Veil
structure LawS (w0 : World) (cv : Value) (g k : Nat) (F : Nat → Prop) (w : World) (D : List DS) (dv : Value) : Prop where
  law : LawW w g cv dv (.slice none 0 0) (.slice none 0 0) (.slice none 0 0)
  ds : OwnL 54 2 pairV w w0.heap.size dv (D.map fun s => (s.pd, s.rd))
  docs : ∀ s, s ∈ D → DocI w0 w s k
  far : ∀ (i j : Nat) (si sj : DS) (a b : DT) (x : Nat), D[i]? = some si → D[j]? = some sj → dblk si a = some x → dblk sj b = some x → i = j
  own : ∀ s a x, s ∈ D → dblk s a = some x → x ≠ g ∧ dv.ownBlock ≠ some x
  dvg : ∀ b, dv.ownBlock = some b → b ≠ g
  len : D.length ≤ k
  old : Below w0.heap.size w0 w
  glow : w0.heap.size ≤ g
  f : ∀ b, F b ↔ (b = g ∨ dv.ownBlock = some b ∨ ∃ s a, s ∈ D ∧ dblk s a = some b)
def LawI (w0 : World) (cv : Value) (g k : Nat) (F : Nat → Prop) (w : World) : Prop := ∃ D dv, LawS w0 cv g k F w D dv
section
variable {w0 w w' : World} {cv : Value} {g k : Nat} {F : Nat → Prop} {D : List DS} {dv : Value}
theorem LawS.low (h : LawS w0 cv g k F w D dv) : ∀ b, F b → w0.heap.size ≤ b ∧ b < w.heap.size := fun b hb => by
  rcases (h.f b).1 hb with rfl | hb | ⟨s, a, hs, ha⟩
  · exact ⟨h.glow, lt_of_row h.law⟩
  · exact h.ds.lt hb
  · exact (h.docs s hs).low a b ha
theorem LawS.frame (h : LawS w0 cv g k F w D dv) (hb : Below w.heap.size w w') : LawS w0 cv g k F w' D dv :=
  ⟨Below.row hb h.law (lt_of_row h.law), h.ds.below hb, fun s hs => (h.docs s hs).below hb, h.far, h.own, h.dvg, h.len, h.old.trans (hb.mono h.old.size), h.glow, h.f⟩
theorem LawS.skip (h : LawS w0 cv g k F w D dv) : LawS w0 cv g (k + 1) F w D dv :=
  ⟨h.law, h.ds, fun s hs => (h.docs s hs).mono (Nat.le_succ k), h.far, h.own, h.dvg, Nat.le_trans h.len (Nat.le_succ k), h.old, h.glow, h.f⟩
theorem EditOk.pre {s : DS} {w1 : World} (hb : Below w.heap.size w w1) (h : EditOk w0 w1 s k w') : EditOk w0 w s k w' := by
  obtain ⟨s', h1, h2, h3, h4, h5⟩ := h
  exact ⟨s', h1, h2, h3, (Only.of_below hb).trans h4 (fun x hx => Or.inl hx), fun a x hx => (h5 a x hx).imp id (fun h => Nat.le_trans hb.size h)⟩
theorem set_get {α : Type} {l : List α} {i j : Nat} {a b : α} (hi : i < l.length) (h : (l.set i a)[j]? = some b) : (j = i ∧ b = a) ∨ (j ≠ i ∧ l[j]? = some b) := by
  rw [List.getElem?_set] at h
  by_cases hj : i = j
  · rw [if_pos hj, if_pos (by omega)] at h
    exact Or.inl ⟨hj.symm, (Option.some.inj h).symm⟩
  · rw [if_neg hj] at h
    exact Or.inr ⟨fun e => hj e.symm, h⟩
theorem LawS.edit (h : LawS w0 cv g k F w D dv) {i : Nat} {s : DS} (hi : D[i]? = some s) (he : EditOk w0 w s k w') : ∃ F', LawI w0 cv g (k + 1) F' w' ∧ Only F w w' ∧ ∀ b, F' b → F b ∨ w.heap.size ≤ b := by
  obtain ⟨s', h1, h2, h3, h4, h5⟩ := he
  have hil : i < D.length := (List.getElem?_eq_some_iff.1 hi).1
  have hs : s ∈ D := List.mem_of_getElem? hi
  have hFs : ∀ a x, dblk s a = some x → F x := fun a x hx => (h.f x).2 (Or.inr (Or.inr ⟨s, a, hs, hx⟩))
  have hon : Only F w w' := ⟨h4.os, h4.tape, h4.output, h4.size, fun k hk hn => h4.block k hk (fun ⟨a, ha⟩ => hn (hFs a k ha))⟩
  have hlow0 : ∀ b, (∃ a, dblk s a = some b) → w0.heap.size ≤ b := fun b ⟨a, ha⟩ => ((h.docs s hs).low a b ha).1
  have hother : ∀ t, t ∈ D → ∀ j, D[j]? = some t → j ≠ i → DocI w0 w' t k := fun t ht j hj hne => (h.docs t ht).only h4 hlow0 (fun a x hx ⟨b, hb⟩ => hne (h.far j i t s a b x hj hi hx hb))
  have hnewlow : ∀ a x, dblk s' a = some x → (∃ b, dblk s b = some x) ∨ w.heap.size ≤ x := h5
  have hdvw : ∀ b, dv.ownBlock = some b → b < w.heap.size := fun b hb => (h.ds.lt hb).2
  have hgw : g < w.heap.size := lt_of_row h.law
  refine ⟨fun b => b = g ∨ dv.ownBlock = some b ∨ ∃ t a, t ∈ D.set i s' ∧ dblk t a = some b, ⟨D.set i s', dv, ⟨?_, ?_, ?_, ?_, ?_, h.dvg, by rw [List.length_set]; exact Nat.le_trans h.len (Nat.le_succ k), ?_, h.glow, fun b => Iff.rfl⟩⟩, hon, ?_⟩
  · exact (h4.block g hgw (fun ⟨a, ha⟩ => (h.own s a g hs ha).1 rfl)).trans h.law
  · have hm : (D.set i s').map (fun s => (s.pd, s.rd)) = D.map fun s => (s.pd, s.rd) := by
      apply List.ext_getElem?
      intro j
      rw [List.getElem?_map, List.getElem?_map, List.getElem?_set]
      by_cases hj : i = j
      · subst hj; rw [if_pos rfl, if_pos hil, hi]; simp [h2, h3]
      · rw [if_neg hj]
    rw [hm]
    exact h.ds.only h4 (fun b hb ⟨a, ha⟩ => (h.own s a b hs ha).2 hb)
  · intro t ht
    obtain ⟨j, hj, he⟩ := List.getElem_of_mem ht
    have hj' : (D.set i s')[j]? = some t := by rw [← he]; exact List.getElem?_eq_getElem hj
    rcases set_get hil hj' with ⟨_, rfl⟩ | ⟨hne, hj2⟩
    · exact h1
    · exact (hother t (List.mem_of_getElem? hj2) j hj2 hne).mono (Nat.le_succ k)
  · intro j l sj sl a b x hj hl ha hb
    rcases set_get hil hj with ⟨rfl, rfl⟩ | ⟨hne, hj2⟩
    · rcases set_get hil hl with ⟨rfl, _⟩ | ⟨hne2, hl2⟩
      · rfl
      · exfalso
        rcases hnewlow a x ha with ⟨a', ha'⟩ | hx
        · exact hne2 (h.far l j sl s b a' x hl2 hi hb ha')
        · have := ((h.docs sl (List.mem_of_getElem? hl2)).low b x hb).2; omega
    · rcases set_get hil hl with ⟨rfl, rfl⟩ | ⟨hne2, hl2⟩
      · exfalso
        rcases hnewlow b x hb with ⟨a', ha'⟩ | hx
        · exact hne (h.far j l sj s a a' x hj2 hi ha ha')
        · have := ((h.docs sj (List.mem_of_getElem? hj2)).low a x ha).2; omega
      · exact h.far j l sj sl a b x hj2 hl2 ha hb
  · intro t a x ht ha
    obtain ⟨j, hj, he⟩ := List.getElem_of_mem ht
    have hj' : (D.set i s')[j]? = some t := by rw [← he]; exact List.getElem?_eq_getElem hj
    rcases set_get hil hj' with ⟨_, rfl⟩ | ⟨hne, hj2⟩
    · rcases hnewlow a x ha with ⟨a', ha'⟩ | hx
      · exact h.own s a' x hs ha'
      · exact ⟨by omega, fun e => by have := hdvw x e; omega⟩
    · exact h.own t a x (List.mem_of_getElem? hj2) ha
  · exact h.old.trans (h4.below hlow0 h.old.size)
  · rintro b (rfl | hb | ⟨t, a, ht, ha⟩)
    · exact Or.inl ((h.f _).2 (Or.inl rfl))
    · exact Or.inl ((h.f b).2 (Or.inr (Or.inl hb)))
    · obtain ⟨j, hj, he⟩ := List.getElem_of_mem ht
      have hj' : (D.set i s')[j]? = some t := by rw [← he]; exact List.getElem?_eq_getElem hj
      rcases set_get hil hj' with ⟨_, rfl⟩ | ⟨hne, hj2⟩
      · rcases hnewlow a b ha with ⟨a', ha'⟩ | hx
        · exact Or.inl (hFs a' b ha')
        · exact Or.inr hx
      · exact Or.inl ((h.f b).2 (Or.inr (Or.inr ⟨t, a, List.mem_of_getElem? hj2, ha⟩)))
/-- One document more. -/
theorem LawS.opened (h : LawS w0 cv g k F w D dv) {c : Cfg} {v : CfgV} {gd rd : Nat} {rv dv' : Value} (hc : CheckIs c 0) (hok : CfgOk c) (hat : CfgAt w0 c v) (ho : OpenIs c.n (tT c) (grF c) c v g w0.heap.size (D.map fun s => (s.pd, s.rd)) cv dv (.slice none 0 0) (.slice none 0 0) (.slice none 0 0) w w' gd rd rv dv') : ∃ F', LawI w0 cv g (k + 1) F' w' ∧ Only F w w' ∧ ∀ b, F' b → F b ∨ w.heap.size ≤ b := by
  have hw0 := h.old.size
  have hgw : g < w.heap.size := lt_of_row h.law
  have hon : Only F w w' := ⟨ho.only.os, ho.only.tape, ho.only.output, ho.only.size, fun j hj hn => ho.only.block j hj (fun e => hn ((h.f j).2 (e.imp id Or.inl)))⟩
  have hlowF : ∀ b, (b = g ∨ dv.ownBlock = some b) → w0.heap.size ≤ b := fun b hb => (h.low b ((h.f b).2 (hb.imp id Or.inl))).1
  have hold : Below w0.heap.size w0 w' := h.old.trans (ho.only.below hlowF hw0)
  have hrvl : ∀ b, rv.ownBlock = some b → w.heap.size ≤ b ∧ b < w'.heap.size := fun b hb => ho.rules.lt hb
  have hrdl : rd < w'.heap.size := ho.rbox.lt
  have hgdl : gd < w'.heap.size := ho.pbox.lt
  let s : DS := ⟨gd, rd, c, v, [], [], .slice none 0 0, .slice none 0 0, rv, .slice none 0 0⟩
  have hblk : ∀ a x, dblk s a = some x → (a = .ref .box ∧ x = rd) ∨ (a = .box ∧ x = gd) ∨ (a = .rules ∧ rv.ownBlock = some x) := by
    intro a x hx
    cases a with
    | ref p =>
      cases p with
      | box => exact Or.inl ⟨rfl, (Option.some.inj hx).symm⟩
      | row => cases hx
      | acts => cases hx
      | mk i => simp [dblk, blkOf', s] at hx
    | box => exact Or.inr (Or.inl ⟨rfl, (Option.some.inj hx).symm⟩)
    | rules => exact Or.inr (Or.inr ⟨rfl, hx⟩)
    | cells => cases hx
  have hnew : ∀ a x, dblk s a = some x → w.heap.size ≤ x ∧ x < w'.heap.size := fun a x hx => by
    rcases hblk a x hx with ⟨_, rfl⟩ | ⟨_, rfl⟩ | ⟨_, hb⟩
    · exact ⟨ho.rdl, hrdl⟩
    · exact ⟨ho.gdl, hgdl⟩
    · exact hrvl x hb
  have hdvn : ∀ a x, dblk s a = some x → dv'.ownBlock ≠ some x := fun a x hx e => by
    rcases ho.dvb x e with h1 | ⟨_, h1, h2, h3⟩
    · have := (h.ds.lt h1).2; have := (hnew a x hx).1; omega
    · rcases hblk a x hx with ⟨_, rfl⟩ | ⟨_, rfl⟩ | ⟨_, hb⟩
      · exact h2 rfl
      · exact h1 rfl
      · exact h3 x hb rfl
  have hs : DocI w0 w' s (k + 1) := by
    refine ⟨⟨ho.rbox, hat, hold, OwnL.nil _ _ _ _ _, fun i p hp => (by cases hp), OwnL.nil _ _ _ _ _, ⟨?_, ?_⟩⟩, ho.pbox, ho.rules.mono hw0, OwnL.nil _ _ _ _ _, CfgRight.is hc, hok, ⟨fun x hx => (by cases hx), fun l => Nat.zero_le _⟩, fun x hx => (by cases hx), ⟨Nat.zero_le _, fun a ha => (by cases ha)⟩, ?_, fun a x hx => ⟨Nat.le_trans hw0 (hnew a x hx).1, (hnew a x hx).2⟩⟩
    · intro p q b hp hq
      rcases hblk (.ref p) b hp with ⟨h1, _⟩ | ⟨h1, _⟩ | ⟨h1, _⟩
      · rcases hblk (.ref q) b hq with ⟨h2, _⟩ | ⟨h2, _⟩ | ⟨h2, _⟩
        · injection h1 with h1; injection h2 with h2; rw [h1, h2]
        · cases h2
        · cases h2
      · cases h1
      · cases h1
    · exact fun p b hp => ⟨Nat.le_trans hw0 (hnew (.ref p) b hp).1, (hnew (.ref p) b hp).2⟩
    · intro a b x ha hb
      rcases hblk a x ha with ⟨rfl, h1⟩ | ⟨rfl, h1⟩ | ⟨rfl, h1⟩
      · rcases hblk b x hb with ⟨rfl, h2⟩ | ⟨rfl, h2⟩ | ⟨rfl, h2⟩
        · rfl
        · exact absurd (h2.symm.trans h1) ho.gr
        · exact absurd h1 (ho.rgd x h2).2
      · rcases hblk b x hb with ⟨rfl, h2⟩ | ⟨rfl, h2⟩ | ⟨rfl, h2⟩
        · exact absurd (h1.symm.trans h2) ho.gr
        · rfl
        · exact absurd h1 (ho.rgd x h2).1
      · rcases hblk b x hb with ⟨rfl, h2⟩ | ⟨rfl, h2⟩ | ⟨rfl, h2⟩
        · exact absurd h2 (ho.rgd x h1).2
        · exact absurd h2 (ho.rgd x h1).1
        · rfl
  have hdocs : ∀ t, t ∈ D → DocI w0 w' t k := fun t ht => (h.docs t ht).only ho.only hlowF (fun a x hx e => by
    have := h.own t a x ht hx
    rcases e with e | e
    · exact this.1 e
    · exact this.2 e)
  have hDl : ∀ t a x, t ∈ D → dblk t a = some x → x < w.heap.size := fun t a x ht hx => ((h.docs t ht).low a x hx).2
  refine ⟨fun b => b = g ∨ dv'.ownBlock = some b ∨ ∃ t a, t ∈ D ++ [s] ∧ dblk t a = some b, ⟨D ++ [s], dv', ⟨ho.law, ?_, ?_, ?_, ?_, ?_, ?_, hold, h.glow, fun b => Iff.rfl⟩⟩, hon, ?_⟩
  · rw [List.map_append]; exact ho.ds
  · intro t ht
    simp only [List.mem_append, List.mem_singleton] at ht
    rcases ht with ht | rfl
    · exact (hdocs t ht).mono (Nat.le_succ k)
    · exact hs
  · intro i j si sj a b x hi hj ha hb
    have split : ∀ i si, (D ++ [s])[i]? = some si → (i < D.length ∧ D[i]? = some si) ∨ (i = D.length ∧ si = s) := fun i si hi => by
      by_cases hlt : i < D.length
      · rw [List.getElem?_append_left hlt] at hi; exact Or.inl ⟨hlt, hi⟩
      · rw [List.getElem?_append_right (by omega)] at hi
        have hz : i - D.length = 0 := by
          have := (List.getElem?_eq_some_iff.1 hi).1
          simp at this; omega
        rw [hz] at hi
        exact Or.inr ⟨by omega, (Option.some.inj hi).symm⟩
    rcases split i si hi with ⟨h1, h2⟩ | ⟨h1, rfl⟩
    · rcases split j sj hj with ⟨h3, h4⟩ | ⟨h3, rfl⟩
      · exact h.far i j si sj a b x h2 h4 ha hb
      · have := hDl si a x (List.mem_of_getElem? h2) ha; have := (hnew b x hb).1; omega
    · rcases split j sj hj with ⟨h3, h4⟩ | ⟨h3, rfl⟩
      · have := hDl sj b x (List.mem_of_getElem? h4) hb; have := (hnew a x ha).1; omega
      · omega
  · intro t a x ht ha
    simp only [List.mem_append, List.mem_singleton] at ht
    rcases ht with ht | rfl
    · refine ⟨(h.own t a x ht ha).1, fun e => ?_⟩
      rcases ho.dvb x e with h1 | ⟨h1, _⟩
      · exact (h.own t a x ht ha).2 h1
      · have := hDl t a x ht ha; omega
    · exact ⟨by have := (hnew a x ha).1; omega, hdvn a x ha⟩
  · intro b hb
    rcases ho.dvb b hb with h1 | ⟨h1, _⟩
    · exact h.dvg b h1
    · omega
  · rw [List.length_append]; have := h.len; simp; omega
  · rintro b (rfl | hb | ⟨t, a, ht, ha⟩)
    · exact Or.inl ((h.f _).2 (Or.inl rfl))
    · rcases ho.dvb b hb with h1 | ⟨h1, _⟩
      · exact Or.inl ((h.f b).2 (Or.inr (Or.inl h1)))
      · exact Or.inr h1
    · simp only [List.mem_append, List.mem_singleton] at ht
      rcases ht with ht | rfl
      · exact Or.inl ((h.f b).2 (Or.inr (Or.inr ⟨t, a, ht, ha⟩)))
      · exact Or.inr (hnew a b ha).1
end
end Go.Proofs.YthgcpjdlcooncaaGreat
namespace Go.Proofs.YthgcpjdlcooncaaGreat
open Go.RowKit Veil
theorem check_ex (c : Cfg) : ∃ e, CheckIs c e := by
  cases hl : labelsB c with
  | false => exact ⟨1, fun _ => rfl, fun h => (by rw [hl] at h; cases h), fun h => (by rw [hl] at h; cases h), fun h => (by rw [hl] at h; cases h), fun h => (by rw [hl] at h; cases h), fun h => (by rw [hl] at h; cases h)⟩
  | true =>
    by_cases h1 : c.circle
    · exact ⟨2, fun h => by simp [hl] at h, fun _ _ => rfl, fun _ h => absurd h1 h, fun _ h => absurd h1 h, fun _ h => absurd h1 h, fun _ h => absurd h1 h⟩
    by_cases h2 : c.noLat
    · exact ⟨3, fun h => by simp [hl] at h, fun _ h => absurd h h1, fun _ _ _ => rfl, fun _ _ h => absurd h2 h, fun _ _ h => absurd h2 h, fun _ _ h => absurd h2 h⟩
    cases h3 : rulesB c with
    | false => exact ⟨4, fun h => by simp [hl] at h, fun _ h => absurd h h1, fun _ _ h => absurd h h2, fun _ _ _ _ => rfl, fun _ _ _ h => by simp [h3] at h, fun _ _ _ h => by simp [h3] at h⟩
    | true =>
      cases h4 : grantsB c with
      | false => exact ⟨5, fun h => by simp [hl] at h, fun _ h => absurd h h1, fun _ _ h => absurd h h2, fun _ _ _ h => by simp [h3] at h, fun _ _ _ _ _ => rfl, fun _ _ _ _ h => by simp [h4] at h⟩
      | true => exact ⟨0, fun h => by simp [hl] at h, fun _ h => absurd h h1, fun _ _ h => absurd h h2, fun _ _ _ h => by simp [h3] at h, fun _ _ _ _ h => by simp [h4] at h, fun _ _ _ _ _ => rfl⟩
/-- What a step leaves. -/
def StepOk (w0 : World) (cv : Value) (g k : Nat) (F : Nat → Prop) (w w' : World) : Prop := ∃ F', LawI w0 cv g (k + 1) F' w' ∧ Only F w w' ∧ ∀ b, F' b → F b ∨ w.heap.size ≤ b
section
variable {w0 w w' w1 : World} {cv : Value} {g k : Nat} {F : Nat → Prop} {D : List DS} {dv : Value}
theorem StepOk.same (h : LawS w0 cv g k F w D dv) (hb : Below w.heap.size w w') : StepOk w0 cv g k F w w' := ⟨F, ⟨D, dv, (h.frame hb).skip⟩, Only.of_below hb, fun _ h => Or.inl h⟩
theorem StepOk.pre (hb : Below w.heap.size w w1) (h : StepOk w0 cv g k F w1 w') : StepOk w0 cv g k F w w' := by
  obtain ⟨F', h1, h2, h3⟩ := h
  exact ⟨F', h1, (Only.of_below hb).trans h2 (fun _ h => Or.inl h), fun b hb' => (h3 b hb').imp id (fun h => Nat.le_trans hb.size h)⟩
end
theorem step_pair (w0 w : World) (cv : Value) (g k : Nat) (F : Nat → Prop) (D : List DS) (dv : Value) (o : OpR) (h : LawS w0 cv g k F w D dv) (hk : k ≤ 4000000000000) (h7 : 7 ≤ o.kind) (h17 : o.kind ≤ 17) (ha : -9223372036854775808 ≤ o.a ∧ o.a ≤ 9223372036854775807)
    (hE : ∀ s, s ∈ D → ∀ w1, Below w.heap.size w w1 → DocI w0 w1 s k → Calls Tryz.prog 20 #[.pointer (some ⟨g, 0, none⟩), .agg (pairC s.pd s.rd), .agg o.cells] w1 fun e w'' => e = .returned (.bool true) ∧ EditOk w0 w1 s k w'') :
    Calls Tryz.prog 13 #[.pointer (some ⟨g, 0, none⟩), .agg o.cells] w fun e w' => e = .returned (.bool true) ∧ StepOk w0 cv g k F w w' := by
  have hd1 : w.cell? ⟨g, 1, none⟩ = some dv := by rw [cell_of_row _ _ _ _ _ _ h.law]; rfl
  by_cases hz : D = []
  · subst hz
    obtain ⟨ao, cap, hv⟩ := h.ds.shape
    have hd1' : w.cell? ⟨g, 1, none⟩ = some (.slice ao 0 cap) := by rw [hd1, hv]; rfl
    exact (step_none g o cap ao w h7 h17 hd1').mono fun e w' ⟨h1, h2⟩ => ⟨h1, StepOk.same h h2⟩
  · have hl : 0 < D.length := List.length_pos_iff.2 hz
    obtain ⟨db, dcap, hv, hdb0, hdb⟩ := h.ds.form (by rw [List.length_map]; exact hl)
    rw [List.length_map] at hv
    obtain ⟨i, hi, hil⟩ := pickI_lt (c := o.a) (n := D.length) ha.1 hl
    have hgi : D[i]? = some D[i] := List.getElem?_eq_getElem hil
    have hmi : (D.map fun s => (s.pd, s.rd))[i]? = some (D[i].pd, D[i].rd) := by rw [List.getElem?_map, hgi]; rfl
    have hob : dv.ownBlock = some db := by rw [hv]; rfl
    have c0 := h.ds.cell (show ∀ a, (pairV a).length = 2 from fun _ => rfl) hob hmi (j := 0) (by omega)
    have c1 := h.ds.cell (show ∀ a, (pairV a).length = 2 from fun _ => rfl) hob hmi (j := 1) (by omega)
    have hmem : D[i] ∈ D := List.getElem_mem hil
    have hgl := lt_of_row h.law
    refine step_doc g db D.length dcap i D[i].pd D[i].rd o (StepOk w0 cv g k F w) w h7 h17 ha (by have := h.len; omega) hi hil (by rw [hd1, hv]) c0 c1 (fun w1 hb1 => ?_)
    refine (hE D[i] hmem w1 hb1 ((h.docs _ hmem).below hb1)).mono ?_
    rintro e w'' ⟨rfl, he⟩
    refine ⟨rfl, h.edit hgi (he.pre hb1), fun j hj hj1 => ?_⟩
    obtain ⟨s', _, _, _, h4, _⟩ := he
    refine h4.block j hj1 (fun ⟨a, ha'⟩ => ?_)
    rcases hj with rfl | rfl | hj
    · exact (h.own _ a _ hmem ha').1 rfl
    · exact (h.own _ a _ hmem ha').2 hob
    · have := ((h.docs _ hmem).low a j ha').2; omega
theorem docs_inv {co : Option Addr} {cn cap : Nat} {cs : Nat → Cfg} {vs : Nat → CfgV} {n : Nat} {ops : Nat → OpR} {w : World} {Lp Lh : List Int} (hcs : CfgsAt w co cn cs vs) (hcn : cn < 2 ^ 57) (hn : n ≤ 1759218604441) (hL : ∀ k, Lp.contains k = true → k = 6 ∨ k = 7 ∨ k = 8 ∨ k = 9 ∨ k = 12 ∨ k = 13)
    (ha : ∀ i, i < n → (ops i).s.size ≤ 140737488355328 ∧ -9223372036854775808 ≤ (ops i).a ∧ (ops i).a ≤ 9223372036854775807) : PlayInv w n ops Lp Lh (LawI w (.slice co cn cap)) := by
  refine ⟨fun g k F w' ⟨D, dv, h⟩ => ⟨h.old, lt_of_row h.law, h.low⟩, fun g k F w' w'' ⟨D, dv, h⟩ hb => ⟨D, dv, h.frame hb⟩, fun g k F w' ⟨D, dv, h⟩ => ⟨D, dv, h.skip⟩, ?_, fun g k F w' ⟨D, dv, h⟩ => looks_docs g _ _ w' h.law⟩
  intro g k F w' hkn hin ⟨D, dv, h⟩
  have hk4 : k ≤ 4000000000000 := by omega
  obtain ⟨hs, ha1, ha2⟩ := ha k hkn
  have fin : (Calls Tryz.prog 13 #[.pointer (some ⟨g, 0, none⟩), .agg (ops k).cells] w' fun e w'' => e = .returned (.bool true) ∧ StepOk w (.slice co cn cap) g k F w' w'') → Calls Tryz.prog 13 #[.pointer (some ⟨g, 0, none⟩), .agg (ops k).cells] w' fun e w'' => ∃ r F', e = .returned (.bool r) ∧ ((Lh.contains (ops k).kind = true ∨ (ops k).kind = 6) → r = true) ∧ LawI w (.slice co cn cap) g (k + 1) F' w'' ∧ Only F w' w'' ∧ ∀ b, F' b → F b ∨ w'.heap.size ≤ b := fun hc => hc.mono fun e w'' ⟨h1, F', h2, h3, h4⟩ => ⟨true, F', h1, fun _ => rfl, h2, h3, h4⟩
  apply fin
  rcases hL _ hin with hk | hk | hk | hk | hk | hk
  · refine step_open co cn cap cs vs (ops k) g w w' (StepOk w (.slice co cn cap) g k F w') hk ⟨ha1, ha2⟩ hcn h.old (lt_of_row h.law) (by rw [cell_of_row _ _ _ _ _ _ h.law]; rfl) hcs (fun w'' hb _ => StepOk.same h hb) (fun i w1 hi hb1 hok hat hnil => ?_)
    obtain ⟨e, he⟩ := check_ex (cs i)
    by_cases h0 : e = 0
    · subst h0
      have h1 := h.frame hb1
      have hat0 : CfgAt w (cs i) (vs i) := by
        rcases hcs with hz | ⟨b, off, _, _, hall⟩
        · omega
        · exact (hall i hi).2.2.1
      refine (opened_ok g (cs i) (vs i) w.heap.size _ (.slice co cn cap) dv (.slice none 0 0) (.slice none 0 0) (.slice none 0 0) w1 hok hat hnil he h1.law h1.ds (by rw [List.length_map]; have := h.len; omega) h1.dvg h1.old.size).mono ?_
      rintro e w'' ⟨rfl, gd, rd, rv, dv', ho⟩
      exact ⟨rfl, StepOk.pre hb1 (h1.opened he hok hat0 ho)⟩
    · exact (opened_bad g (cs i) (vs i) e w1 hok hat hnil he h0).mono fun e w'' ⟨h1, h2⟩ => ⟨h1, StepOk.same h (hb1.trans (h2.mono hb1.size))⟩
  · exact step_pair w w' _ g k F D dv (ops k) h hk4 (by omega) (by omega) ⟨ha1, ha2⟩ (fun s _ w1 _ hd => onDoc_insert g s.pd s.rd (ops k) (EditOk w w1 s k) w1 hk (fun w2 hb2 => (doc_insert w w2 s k (ops k) (hd.below hb2) hk4 hs hk).mono fun e w'' ⟨h1, h2⟩ => ⟨h1, h2.pre hb2⟩))
  · exact step_pair w w' _ g k F D dv (ops k) h hk4 (by omega) (by omega) ⟨ha1, ha2⟩ (fun s _ w1 _ hd => onDoc_delete g s.pd s.rd (ops k) (EditOk w w1 s k) w1 hk (fun w2 hb2 => (doc_delete w w2 s k (ops k) (hd.below hb2) hk4 hk).mono fun e w'' ⟨h1, h2⟩ => ⟨h1, h2.pre hb2⟩))
  · exact step_pair w w' _ g k F D dv (ops k) h hk4 (by omega) (by omega) ⟨ha1, ha2⟩ (fun s _ w1 _ hd => onDoc_view g s.pd s.rd (ops k) (EditOk w w1 s k) w1 hk (fun w2 hb2 => (doc_view w w2 s k (ops k) (hd.below hb2) hk4 hk).mono fun e w'' ⟨h1, h2⟩ => ⟨h1, EditOk.same hd (hb2.trans (h2.mono hb2.size))⟩))
  · exact step_pair w w' _ g k F D dv (ops k) h hk4 (by omega) (by omega) ⟨ha1, ha2⟩ (fun s _ w1 _ hd => onDoc_left g s.pd s.rd (ops k) (EditOk w w1 s k) w1 hk (fun w2 hb2 => (doc_left w w2 s k (ops k) (hd.below hb2) hk4 hk).mono fun e w'' ⟨h1, h2⟩ => ⟨h1, EditOk.same hd (hb2.trans (h2.mono hb2.size))⟩))
  · exact step_pair w w' _ g k F D dv (ops k) h hk4 (by omega) (by omega) ⟨ha1, ha2⟩ (fun s _ w1 _ hd => onDoc_raise g s.pd s.rd (ops k) (EditOk w w1 s k) w1 hk (fun w2 hb2 => (doc_raise w w2 s k (ops k) (hd.below hb2) hk4 hk).mono fun e w'' ⟨h1, h2⟩ => ⟨h1, h2.pre hb2⟩))
/-- The beginning. -/
theorem law_start (w : World) (cv : Value) : ∃ F, LawI w cv w.heap.size 0 F (w.alloc (.cells #[cv, .slice none 0 0, .slice none 0 0, .slice none 0 0, .slice none 0 0] 33)) :=
  ⟨fun b => b = w.heap.size ∨ (Value.slice none 0 0).ownBlock = some b ∨ ∃ s a, s ∈ ([] : List DS) ∧ dblk s a = some b, [], .slice none 0 0, ⟨Go.heap_alloc_new _ _, OwnL.nil _ _ _ _ _, fun s hs => (by cases hs), fun i j si sj a b x hi => (by cases hi), fun s a x hs => (by cases hs), fun b hb => (by cases hb), Nat.le_refl _, below_box _ _, Nat.le_refl _, fun b => Iff.rfl⟩⟩
end Go.Proofs.YthgcpjdlcooncaaGreat
namespace Go.Proofs.YthgcpjdlcooncaaGreat
open Go.RowKit Veil
set_option maxHeartbeats 1000000 in
theorem law_edits (co : Option Addr) (cn cc : Nat) (ao : Option Addr) (n cap : Nat) (ops : Nat → OpR) (cs : Nat → Cfg) (vs : Nat → CfgV) (w : World) (hops : OpsAt w ao n ops) (hn : n ≤ 1759218604441)
    (hcs : CfgsAt w co cn cs vs) (hcn : cn < 2 ^ 57) (ha : ∀ i, i < n → (ops i).s.size ≤ 140737488355328 ∧ -9223372036854775808 ≤ (ops i).a ∧ (ops i).a ≤ 9223372036854775807) :
    Calls Tryz.prog 6 #[.slice co cn cc, .slice ao n cap] w fun e w' => e = .returned (.bool true) ∧ Below w.heap.size w w' := by
  have HO := hide hops
  have HC := hide hcs
  have HA := hide ha
  have HN := hide hcn
  clear hops hcs ha hcn
  go_enter Tryz.func6, Tryz.ntmps6
  go_wp2_with fail
  have hbel : ∀ o : Obj, Below w.heap.size w (w.alloc o) := fun o => (Below.refl _ _).alloc (Nat.le_refl _) _
  refine (plays_inv co cn cc ao n cap ops w.heap.size w.heap.size [6, 7, 8, 12] [6, 7, 8, 12] (w.alloc (.cells #[.int .i64 6, .int .i64 7, .int .i64 8, .int .i64 12] 3)) (LawI (w.alloc (.cells #[.int .i64 6, .int .i64 7, .int .i64 8, .int .i64 12] 3)) (.slice co cn cc)) (OpsAt.below HO.out (hbel _)) (by omega) (Go.heap_alloc_new _ _) (Go.heap_alloc_new _ _) (by decide) (by decide) ?_ ?_).mono ?_
  · exact docs_inv (HC.out.below (hbel _)) HN.out hn (fun k hk => by simp at hk; omega) HA.out
  · exact law_start _ _
  · rintro e w1 ⟨rfl, hb1⟩
    have HB := hide ((hbel (.cells #[.int .i64 6, .int .i64 7, .int .i64 8, .int .i64 12] 3)).trans (hb1.mono (by simp)))
    clear hb1 hbel
    go_wp2
    go_ret
    exact ⟨rfl, HB.out⟩
set_option maxHeartbeats 1000000 in
theorem law_views (co : Option Addr) (cn cc : Nat) (ao : Option Addr) (n cap : Nat) (ops : Nat → OpR) (cs : Nat → Cfg) (vs : Nat → CfgV) (w : World) (hops : OpsAt w ao n ops) (hn : n ≤ 1759218604441)
    (hcs : CfgsAt w co cn cs vs) (hcn : cn < 2 ^ 57) (ha : ∀ i, i < n → (ops i).s.size ≤ 140737488355328 ∧ -9223372036854775808 ≤ (ops i).a ∧ (ops i).a ≤ 9223372036854775807) :
    Calls Tryz.prog 7 #[.slice co cn cc, .slice ao n cap] w fun e w' => e = .returned (.bool true) ∧ Below w.heap.size w w' := by
  have HO := hide hops
  have HC := hide hcs
  have HA := hide ha
  have HN := hide hcn
  clear hops hcs ha hcn
  go_enter Tryz.func7, Tryz.ntmps7
  go_wp2_with fail
  have hbel : ∀ o o' : Obj, Below w.heap.size w ((w.alloc o).alloc o') := fun o o' => ((Below.refl _ _).alloc (Nat.le_refl _) _).alloc (by simp) _
  refine (plays_inv co cn cc ao n cap ops w.heap.size (w.heap.size + 1) [6, 7, 8, 9] [9] ((w.alloc (.cells #[.int .i64 6, .int .i64 7, .int .i64 8, .int .i64 9] 3)).alloc (.cells #[.int .i64 9] 3)) (LawI ((w.alloc (.cells #[.int .i64 6, .int .i64 7, .int .i64 8, .int .i64 9] 3)).alloc (.cells #[.int .i64 9] 3)) (.slice co cn cc)) (OpsAt.below HO.out (hbel _ _)) (by omega) (heap_alloc2_old _ _ _) (heap_alloc2_new _ _ _) (by decide) (by decide) ?_ ?_).mono ?_
  · exact docs_inv (HC.out.below (hbel _ _)) HN.out hn (fun k hk => by simp at hk; omega) HA.out
  · exact law_start _ _
  · rintro e w1 ⟨rfl, hb1⟩
    have HB := hide ((hbel (.cells #[.int .i64 6, .int .i64 7, .int .i64 8, .int .i64 9] 3) (.cells #[.int .i64 9] 3)).trans (hb1.mono (by simp; omega)))
    clear hb1 hbel
    go_wp2
    go_ret
    exact ⟨rfl, HB.out⟩
end Go.Proofs.YthgcpjdlcooncaaGreat
