/- P17: what a view shows, as a text; how it changes. No Go here. -/
import Derived.Test.YtgigkiocdiffjaaGreatSKshow2
import Derived.Test.YtgigkiocdiffjaaGreatKviews
import Derived.Test.YtgigkiocdiffjaaGreatKmoved
namespace Go.Proofs.YtgigkiocdiffjaaGreat
open Go.RowKit Veil
theorem bytes_inj {a b : ByteArray} (h : bytes a = bytes b) : a = b := by
  unfold bytes at h
  exact ByteArray.ext (Array.toList_inj.1 h)
theorem bytes_app (a b : ByteArray) : bytes (a ++ b) = bytes a ++ bytes b := by
  simp [bytes]
theorem bytes_cutb (s : ByteArray) (i j : Nat) : bytes (s.extract i j) = ((bytes s).drop i).take (j - i) := by
  simp only [bytes, ByteArray.data_extract, Array.toList_extract, List.extract_eq_take_drop]
theorem bytes_txt (l : List Nat) : bytes (txt l) = l.map UInt8.ofNat := by
  unfold txt textF bytes
  apply List.ext_getElem?
  intro i
  simp only [Nat.sub_zero, List.getElem?_map]
  by_cases h : i < l.length
  · simp [h]
  · simp [h]
theorem new_bytes (t : ByteArray) (lv : Nat) : ∀ k, k ≤ t.size → ((newC t lv k).map (·.b)).map UInt8.ofNat = (bytes t).take k
  | 0, _ => by simp [newC_zero]
  | k + 1, h => by
    rw [newC_succ t lv k (by omega), List.map_append, List.map_append, new_bytes t lv k (by omega), take_snoc t k (by omega)]
    simp
theorem view_bytes {P : List Pl} (hP : ∀ j, plB P j < 256) : (List.range (viewT P).size).map (bt (viewT P)) = P.map (·.b) := by
  rw [viewT_size]
  apply List.ext_getElem?
  intro i
  rw [List.getElem?_map, List.getElem?_map]
  by_cases h : i < P.length
  · rw [List.getElem?_range h, List.getElem?_eq_getElem h]
    show some (bt (textF (plB P) 0 P.length) i) = some _
    rw [bt_textF _ _ _ h (hP i), plB_at (List.getElem?_eq_getElem h)]
  · rw [List.getElem?_eq_none (by simp; omega), List.getElem?_eq_none (by omega)]
    rfl
theorem row_lt {c : Cfg} {row : List RC} (h : RowGood c row) (d : Nat) : ∀ j, plB (placesR c row d) j < 256 := fun j =>
  plB_ok (placesR_ok c row d (fun x hx => (h.cells x hx).1.byte)).2 j
theorem view_show {c : Cfg} {row : List RC} (hr : c.rules = []) (h : RowGood c row) (d : Nat) : showT (viewT (placesR c row d)) = txt (showL c row d) := by
  unfold showT noMTo
  rw [view_bytes (row_lt h d)]
  exact congrArg txt (show_is hr h)
theorem join_up {c : Cfg} (h : Right c) (a b : Nat) (ha : a < c.n) (hb : b < c.n) : ∃ j : Nat, j < c.n ∧ c.join a b = j ∧ c.le a j = true ∧ c.le b j = true := by
  have hpos : 0 ≤ c.join a b := Int.not_lt.1 fun h' => h.lat ⟨a, b, ha, hb, Or.inl h'⟩
  rcases firstN_cases (c.isJoin a b) c.n with ⟨j, hj, h1, _, h3⟩ | ⟨_, h2⟩
  · simp only [Cfg.isJoin, Cfg.up, Bool.and_eq_true, List.all_eq_true, List.mem_range, Bool.not_eq_true', Bool.and_eq_false_iff] at h1
    exact ⟨j, hj, h3, h1.1.1, h1.1.2⟩
  · have : c.join a b = -1 := h2
    omega
theorem up_of {c : Cfg} (hr : Right c) : Up c := ⟨fun {a b d} ha hb h => by
  obtain ⟨j, hj, e, h1, h2⟩ := join_up hr a b ha hb
  rw [e, Int.toNat_natCast] at h
  exact le_trans' hr ha hj h1 h⟩
theorem mov_ok {c : Cfg} (hr : Right c) (hru : c.rules = []) {s : PSt} (o : KS) (hg : RowGood c s.row) (hg' : RowGood c (stepSt c s o).row) : MovOk c o (stepAns c s o).e (viewsTo c s c.n) (viewsTo c (stepSt c s o) c.n) := by
  have hn := (labels_of hr.labels).2.2.2.2.1
  have key : ∀ (d : Nat) (a b : ByteArray), (viewsTo c s c.n)[d]? = some a → (viewsTo c (stepSt c s o) c.n)[d]? = some b → a = viewT (placesR c s.row d) ∧ b = viewT (placesR c (stepSt c s o).row d) := by
    intro d a b ha hb
    have hd : d < c.n := by
      have := (List.getElem?_eq_some_iff.1 ha).1
      rwa [viewsTo_length] at this
    rw [viewsTo_at c _ hd] at ha hb
    exact ⟨(Option.some.inj ha).symm, (Option.some.inj hb).symm⟩
  refine ⟨fun d a b ha hb hs => ?_, fun d a b ha hb hs => ?_⟩
  · obtain ⟨rfl, rfl⟩ := key d a b ha hb
    apply view_eqb
    rw [places_bytes hru hg', places_bytes hru hg, step_same hn o hs]
  · obtain ⟨rfl, rfl⟩ := key d a b ha hb
    obtain ⟨hE, hS⟩ := Bool.and_eq_true_iff.1 hs
    have he : (stepAns c s o).e = 0 := by
      unfold editB at hE
      exact eq_of_beq (Bool.and_eq_true_iff.1 hE).2
    refine ⟨⟨fun k1 => ?_, fun k23 => ?_, fun k4 => ?_⟩, viewT_len c _ d hg, viewT_len c _ d hg', fun k1 => ?_⟩
    · have hby : byI o = o.level := by unfold byI; rw [k1]; rfl
      rw [hby] at hS
      obtain ⟨X, Y, h1, h2⟩ := step_ins hn o k1 he hS hg'
      rw [view_show hru hg, view_show hru hg', h1, h2]
      have hsz : (txt (X ++ Y)).size = X.length + Y.length := by rw [← bytes_length, bytes_txt, List.length_map, List.length_append]
      refine ⟨X.length, by omega, ?_⟩
      apply bytes_inj
      rw [bytes_app, bytes_app, bytes_cutb, bytes_cutb, bytes_txt, bytes_txt, hsz, List.map_append, List.map_append, List.map_append, new_bytes _ _ _ (Nat.le_refl _), List.take_of_length_le (by rw [bytes_length]; exact Nat.le_refl _)]
      congr 1
      · congr 1
        simp
      · rw [List.drop_left' (by simp)]
        rw [List.take_of_length_le (by simp)]
    · rw [view_show hru hg, view_show hru hg', bytes_txt, bytes_txt]
      exact (step_less hn (up_of hr) hr.lat hg o k23 he).map _
    · rw [view_show hru hg, view_show hru hg', bytes_txt, bytes_txt]
      exact (step_more hn hg o k4 he).map _
    · rw [show stepAns c s o = .err (insCode c s.row o.level o.lo o.text) by simp [stepAns, k1]] at he
      have h : insCode c s.row o.level o.lo o.text = 0 := he
      unfold insCode at h
      obtain ⟨_, h⟩ := cond_zero (by decide) h
      obtain ⟨_, h⟩ := cond_zero (by decide) h
      obtain ⟨_, h⟩ := cond_zero (by decide) h
      obtain ⟨h, _⟩ := cond_zero (by decide) h
      simp only [decide_eq_false_iff_not] at h
      omega
end Go.Proofs.YtgigkiocdiffjaaGreat
