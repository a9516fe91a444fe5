/- Kshowx: what the groups left out of Kshow. -/
import Derived.Test.YtgigkiocdiffjabU32
namespace Go.Proofs.Ytgigkiocdiffjab
open Veil
def noMask (L : List Nat) : List Nat := L.filter fun b => !(b == 35)
structure Up (c : Cfg) : Prop where
  jle : ∀ {a b d : Nat}, a < c.n → b < c.n → c.le (c.join a b).toNat d = true → c.le a d = true
section
variable {c : Cfg} {d : Nat} {row : List RC}
theorem first_bytes : ∀ (n : Nat) (row : List RC), row.length = n → (firstTo c row d row.length).map (fun s => bif s.hid then 35 else s.b) = bytesL c row d := by
  intro n
  induction n with
  | zero =>
    intro row hl
    obtain rfl := List.eq_nil_of_length_eq_zero hl
    rfl
  | succ n ih =>
    intro row hl
    rcases List.eq_nil_or_concat row with rfl | ⟨row', x, rfl⟩
    · cases hl
    · rw [List.concat_eq_append] at *
      rw [firstTo_snoc, List.map_append, ih row' (by simpa using hl)]
      unfold bytesL
      rw [List.flatMap_append]
      congr 1
      simp only [List.flatMap_cons, List.flatMap_nil, List.append_nil, gC]
      cases thereB c x d
      · rfl
      · cases c.le (seenF c x d).1 d <;> rfl
/-- The bytes of a view, where there are no rules. -/
theorem places_bytes (hr : c.rules = []) (h : RowGood c row) : (placesR c row d).map (·.b) = colL (bytesL c row d) := by
  rw [places_none hr h, joinTo_bytes, range_see, first_bytes _ row rfl]
theorem view_eqb {P Q : List Pl} (h : P.map (·.b) = Q.map (·.b)) : viewT P = viewT Q := by
  have hl : P.length = Q.length := by simpa using congrArg List.length h
  unfold viewT
  rw [hl]
  congr 1
  funext j
  have := congrArg (fun L => L.getD j 0) h
  unfold plB
  have e : ∀ P : List Pl, (P.getD j ⟨0, 0, 0⟩).b = (P.map (·.b)).getD j 0 := fun P => by
    rw [List.getD, List.getD, List.getElem?_map]
    cases P[j]? <;> rfl
  rw [e, e, h]
theorem noMask_col (L : List Nat) : ∀ acc, noMask (L.foldl colS acc) = noMask acc ++ noMask L := by
  induction L with
  | nil => intro acc; simp [noMask]
  | cons m L ih =>
    intro acc
    rw [List.foldl_cons, ih]
    have : noMask (colS acc m) = noMask acc ++ noMask [m] := by
      unfold colS
      cases h : (acc.getLast? == some 35) && (m == 35)
      · rw [cond_false]
        unfold noMask
        rw [List.filter_append]
      · have hm := (Bool.and_eq_true_iff.1 h).2
        simp [noMask, hm]
    rw [this, List.append_assoc]
    unfold noMask
    rw [← List.filter_append]
    rfl
theorem noMask_colL (L : List Nat) : noMask (colL L) = noMask L := by
  have := noMask_col L []
  simpa [noMask, colL] using this
/-- What a view shows. -/
def showL (c : Cfg) (row : List RC) (d : Nat) : List Nat := noMask (bytesL c row d)
theorem show_is (hr : c.rules = []) (h : RowGood c row) : noMask ((placesR c row d).map (·.b)) = showL c row d := by
  rw [places_bytes hr h, noMask_colL]
  rfl
theorem seen_mark (x : RC) (m : Mk) : seenF c (marked m x) d = seenS c x.origin d (seenF c x d) m := by
  unfold seenF marked; rw [List.foldl_append]; rfl
/-- What does not count. -/
theorem gC_mute {m : Mk} (hm : c.le m.level d = false) (x : RC) : gC c d (marked m x) = gC c d x := by
  unfold gC
  rw [there_mark, seen_mark]
  unfold goneB seenS
  rw [hm]
  simp [marked]
theorem bytes_markC {m : Mk} (hm : c.le m.level d = false) : ∀ (row : List RC) (r : Nat), bytesL c (markC row r m) d = bytesL c row d
  | [], r => by simp [markC]
  | x :: row, 0 => by
    show (marked m x :: row).flatMap _ = (x :: row).flatMap _
    rw [List.flatMap_cons, List.flatMap_cons, gC_mute hm]
  | x :: row, r + 1 => by
    have ih := bytes_markC hm row r
    have e1 : markC (x :: row) (r + 1) m = x :: markC row r m := by simp [markC]
    unfold bytesL at *
    rw [e1, List.flatMap_cons, List.flatMap_cons, ih]
theorem bytes_mark {m : Mk} (hm : c.le m.level d = false) (L : List Nat) : ∀ (row : List RC), bytesL c (markAll row L m) d = bytesL c row d := by
  induction L with
  | nil => intro row; rfl
  | cons r L ih =>
    intro row
    show bytesL c (markAll (markC row r m) L m) d = _
    rw [ih, bytes_markC hm]
theorem show_markC {m : Mk} (R : List Nat → List Nat → Prop) (hrefl : ∀ l, R l l) (happ : ∀ a b a' b', R a a' → R b b' → R (a ++ b) (a' ++ b')) (P : RC → Prop) (hP : ∀ x, P x → R (noMask (gC c d (marked m x))) (noMask (gC c d x))) : ∀ (row : List RC) (r : Nat), (∀ x, x ∈ row → P x) → R (showL c (markC row r m) d) (showL c row d) := by
  have sc : ∀ (x : RC) (row : List RC), showL c (x :: row) d = noMask (gC c d x) ++ showL c row d := fun x row => by
    unfold showL bytesL noMask
    rw [List.flatMap_cons, List.filter_append]
  intro row
  induction row with
  | nil => intro r _; simp only [markC, List.modify_nil]; exact hrefl _
  | cons x row ih =>
    intro r hr
    cases r with
    | zero =>
      show R (showL c (marked m x :: row) d) _
      rw [sc, sc]
      exact happ _ _ _ _ (hP x (hr x (List.mem_cons_self))) (hrefl _)
    | succ r =>
      have e1 : markC (x :: row) (r + 1) m = x :: markC row r m := by simp [markC]
      rw [e1, sc, sc]
      exact happ _ _ _ _ (hrefl _) (ih r (fun y hy => hr y (List.mem_cons_of_mem _ hy)))
theorem markC_rc {m : Mk} (hm : MkOk c m) {row : List RC} (h : ∀ x, x ∈ row → RCOk c x) (r : Nat) : ∀ x, x ∈ markC row r m → RCOk c x := by
  have key : ∀ (row : List RC) (r : Nat) (x : RC), x ∈ markC row r m → x ∈ row ∨ ∃ y, y ∈ row ∧ x = marked m y := by
    intro row
    induction row with
    | nil => intro r x hx; simp [markC] at hx
    | cons y row ih =>
      intro r x hx
      cases r with
      | zero =>
        have : x = marked m y ∨ x ∈ row := by simpa [markC, marked] using hx
        rcases this with h1 | h1
        · exact Or.inr ⟨y, List.mem_cons_self, h1⟩
        · exact Or.inl (List.mem_cons_of_mem _ h1)
      | succ r =>
        have e1 : markC (y :: row) (r + 1) m = y :: markC row r m := by simp [markC]
        rw [e1, List.mem_cons] at hx
        rcases hx with h1 | h1
        · exact Or.inl (by rw [h1]; exact List.mem_cons_self)
        · rcases ih r x h1 with h2 | ⟨z, h2, h3⟩
          · exact Or.inl (List.mem_cons_of_mem _ h2)
          · exact Or.inr ⟨z, List.mem_cons_of_mem _ h2, h3⟩
  intro x hx
  rcases key row r x hx with h1 | ⟨y, h1, rfl⟩
  · exact h x h1
  · have := h y h1
    refine ⟨this.byte, this.origin, fun k hk => ?_⟩
    have : k ∈ y.marks ∨ k = m := by simpa [marked] using hk
    rcases this with h2 | rfl
    · exact (h y h1).marks k h2
    · exact hm
theorem show_markAll {m : Mk} (hm : MkOk c m) (R : List Nat → List Nat → Prop) (hrefl : ∀ l, R l l) (htr : ∀ a b e, R a b → R b e → R a e) (happ : ∀ a b a' b', R a a' → R b b' → R (a ++ b) (a' ++ b')) (hP : ∀ x, RCOk c x → R (noMask (gC c d (marked m x))) (noMask (gC c d x))) (L : List Nat) : ∀ (row : List RC), (∀ x, x ∈ row → RCOk c x) → R (showL c (markAll row L m) d) (showL c row d) := by
  induction L with
  | nil => intro row _; exact hrefl _
  | cons r L ih =>
    intro row hr
    show R (showL c (markAll (markC row r m) L m) d) _
    exact htr _ _ _ (ih _ (markC_rc hm hr r)) (show_markC R hrefl happ (RCOk c) hP row r hr)
theorem gC_show (x : RC) : noMask (gC c d x) = bif thereB c x d && c.le (seenF c x d).1 d && !(x.b == 35) then [x.b] else [] := by
  unfold gC noMask
  cases thereB c x d
  · rfl
  · cases c.le (seenF c x d).1 d
    · rfl
    · cases h : x.b == 35 <;> simp [h]
/-- Deleted, raised: some less. -/
theorem gC_less (hu : Up c) (hlat : ¬ c.noLat) {m : Mk} (hm : MkOk c m) (hk : m.kind = 2 ∨ m.kind = 3) (x : RC) (hx : RCOk c x) : (noMask (gC c d (marked m x))).Sublist (noMask (gC c d x)) := by
  rw [gC_show, gC_show, there_mark, seen_mark]
  have key : c.le (seenS c x.origin d (seenF c x d) m).1 d = true → c.le (seenF c x d).1 d = true := by
    unfold seenS
    cases c.le m.level d
    · exact id
    · rcases hk with hk | hk
      · rw [hk]; exact id
      · rw [hk]
        intro h
        exact hu.jle (seenF_lt hlat hx d) hm.label h
  show List.Sublist (bif _ then [x.b] else []) _
  cases h1 : (thereB c x d && !goneB c d m && c.le (seenS c x.origin d (seenF c x d) m).1 d && !((marked m x).b == 35))
  · exact List.nil_sublist _
  · simp only [Bool.and_eq_true] at h1
    have h4 : (!(x.b == 35)) = true := h1.2
    rw [h1.1.1.1, key h1.1.2, h4]
    exact List.Sublist.refl _
/-- Released: some more. -/
theorem gC_more {m : Mk} (hk : m.kind = 4) (x : RC) : (noMask (gC c d x)).Sublist (noMask (gC c d (marked m x))) := by
  rw [gC_show, gC_show, there_mark, seen_mark]
  show List.Sublist _ (bif _ then [x.b] else [])
  cases h1 : (thereB c x d && c.le (seenF c x d).1 d && !(x.b == 35))
  · exact List.nil_sublist _
  · simp only [Bool.and_eq_true] at h1
    have h2 : goneB c d m = false := by unfold goneB; rw [hk]; rfl
    have h3 : c.le (seenS c x.origin d (seenF c x d) m).1 d = true := by
      unfold seenS
      cases c.le m.level d
      · exact h1.1.2
      · rw [hk]
        have := h1.1.1
        unfold thereB at this
        exact (Bool.and_eq_true_iff.1 this).2
    have h4 : (!((marked m x).b == 35)) = true := h1.2
    rw [h1.1.1, h2, h3, h4]
    exact List.Sublist.refl _
theorem show_less (hu : Up c) (hlat : ¬ c.noLat) {m : Mk} (hm : MkOk c m) (hk : m.kind = 2 ∨ m.kind = 3) (L : List Nat) (hr : ∀ x, x ∈ row → RCOk c x) : (showL c (markAll row L m) d).Sublist (showL c row d) :=
  show_markAll hm List.Sublist List.Sublist.refl (fun _ _ _ h1 h2 => h1.trans h2) (fun _ _ _ _ h1 h2 => h1.append h2) (fun x hx => gC_less hu hlat hm hk x hx) L row hr
theorem show_more {m : Mk} (hm : MkOk c m) (hk : m.kind = 4) (L : List Nat) (hr : ∀ x, x ∈ row → RCOk c x) : (showL c row d).Sublist (showL c (markAll row L m) d) :=
  show_markAll hm (fun a b => b.Sublist a) List.Sublist.refl (fun _ _ _ h1 h2 => h2.trans h1) (fun _ _ _ _ h1 h2 => h1.append h2) (fun x _ => gC_more hk x) L row hr
/-- New cells. -/
theorem gC_new_out {lv b : Nat} (h : c.le lv d = false) : gC c d ⟨b, lv, []⟩ = [] := by
  unfold gC thereB
  rw [show c.le (⟨b, lv, []⟩ : RC).origin d = false from h]
  simp
theorem gC_new_in {lv b : Nat} (h : c.le lv d = true) : gC c d ⟨b, lv, []⟩ = [b] := by
  unfold gC thereB seenF
  simp [h]
theorem bytes_new_out {t : ByteArray} {lv : Nat} (h : c.le lv d = false) : bytesL c (newC t lv t.size) d = [] := by
  unfold bytesL
  rw [List.flatMap_eq_nil_iff]
  intro x hx
  obtain ⟨b, rfl⟩ := new_form hx
  exact gC_new_out h
theorem bytes_new_in {t : ByteArray} {lv : Nat} (h : c.le lv d = true) : bytesL c (newC t lv t.size) d = (newC t lv t.size).map (·.b) := by
  have key : ∀ l : List RC, (∀ x, x ∈ l → ∃ b : Nat, x = ⟨b, lv, []⟩) → l.flatMap (gC c d) = l.map (·.b) := by
    intro l
    induction l with
    | nil => intro _; rfl
    | cons x l ih =>
      intro hl
      obtain ⟨b, rfl⟩ := hl x (List.mem_cons_self)
      rw [List.flatMap_cons, ih (fun y hy => hl y (List.mem_cons_of_mem _ hy)), gC_new_in h]
      rfl
  exact key _ (fun x hx => new_form hx)
theorem bytes_put (row new : List RC) (k : Nat) : bytesL c (putC row new k) d = bytesL c (row.take k) d ++ bytesL c new d ++ bytesL c (row.drop k) d := by
  unfold putC bytesL
  rw [List.flatMap_append, List.flatMap_append]
end
end Go.Proofs.Ytgigkiocdiffjab

