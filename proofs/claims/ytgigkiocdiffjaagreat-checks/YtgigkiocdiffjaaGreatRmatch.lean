/- veilref.match, Match: the document's own answer. -/
import Derived.Test.YtgigkiocdiffjaaGreatRpat
namespace Go.Proofs.YtgigkiocdiffjaaGreat
open Go.RowKit Veil
theorem some_beq (s t : ByteArray) (i k : Nat) (hi : i < s.size) (hk : k < t.size) : (some s[i] == (bytes t)[k]?) = (s[i] == t[k]) := by
  rw [List.getElem?_eq_getElem (by rw [bytes_length]; exact hk), bytes_get t k hk]; rfl
theorem row_alloc {w : World} {g : Nat} {o o' : Obj} (h : w.heap[g]? = some o) : (w.alloc o').heap[g]? = some o := by
  rw [heap_alloc_old _ _ (lt_of_row h)]; exact h

set_option maxRecDepth 100000 in
set_option maxHeartbeats 4000000 in
theorem rmatch_any (s t : ByteArray) (w : World) (hs : s.size ≤ maxLen) (ht : t.size ≤ 140737488355328) :
    Calls Tryz.prog 79 #[.string s, .string t] w fun e w' => e = .returned (.bool (cutB (bytes s) (bytes t))) ∧ Below w.heap.size w w' := by
  unfold maxLen at hs
  have hmk : ∀ w, (Instr.makeSlice 195 (.int .i64 ((t.size : Int) + 1)) (.int .i64 ((t.size : Int) + 1))).run Tryz.prog w = .ok (.slice (some ⟨w.heap.size, 0, none⟩) (t.size + 1) (t.size + 1)) (w.alloc (.cells (bools (fvec (t.size + 1) fun _ => false)) 4)) := fun w => run_make_bools (t.size + 1) (by omega) w
  have hz0 : (bools (fvec (t.size + 1) fun _ => false))[0]? = some (.bool false) := by rw [bools_get, fvec_get _ _ _ (by omega)]; rfl
  go_enter Tryz.func79, Tryz.ntmps79
  go_wp2
  have HT : Hid _ := bytes_length t
  go_loopw [5, 6] (fun r i wr => ∃ k R : Nat, k ≤ s.size ∧ i = .int .i64 k ∧ r = .slice (some ⟨R, 0, none⟩) (t.size + 1) (t.size + 1) ∧ w.heap.size ≤ R ∧
      wr.heap[R]? = some (.cells (bools (fvec (t.size + 1) (reachF ((bytes s).take k) (bytes t)))) 4 (0, 0)) ∧ Below w.heap.size w wr) (fun _ i _ => s.size - (intOf i).toNat)
  case atStart =>
    refine ⟨0, w.heap.size, Nat.zero_le _, rfl, rfl, Nat.le_refl _, ?_, (Below.refl _ _).alloc (Nat.le_refl _) _⟩
    rw [Go.heap_alloc_new, bools_set, fvec_set, fvec_congr _ _ (reachF ((bytes s).take 0) (bytes t))]
    intro j hj
    simp only [reachF, List.take_zero, cutB]
    match j with
    | 0 => simp
    | j + 1 =>
      have : bytes t ≠ [] := fun e => by have h := HT.out; rw [e] at h; simp at h; omega
      simp [this]
  case round =>
    obtain ⟨wo, rfl⟩ : ∃ x, x = wr := ⟨_, rfl⟩
    obtain ⟨k, R, hk, rfl, rfl, hR, hrow, hbel⟩ := hrel
    have HR : Hid _ := hrow
    clear hrow
    by_cases hlt : k < s.size
    · have HX : Hid _ := Go.heap_alloc_new wo (.cells (bools (fvec (t.size + 1) fun _ => false)) 4)
      have hRX : R < wo.heap.size := lt_of_row HR.out
      go_wp2
      go_loopw [8] (fun kk w2 => ∃ j : Nat, j ≤ t.size + 1 ∧ kk = .int .i64 j ∧ w2.heap[wo.heap.size]? = some (.cells (bools (fvec (t.size + 1) (nextF s[k] ((bytes s).take k) (bytes t) j))) 4 (0, 0)) ∧
          w2.heap[R]? = some (.cells (bools (fvec (t.size + 1) (reachF ((bytes s).take k) (bytes t)))) 4 (0, 0)) ∧ Below w.heap.size w w2 ∧ (s[k] = 42 → j ≤ t.size → ∀ x, x < j → reachF ((bytes s).take k) (bytes t) x = false)) (fun kk _ => t.size + 1 - (intOf kk).toNat)
      case atStart => exact ⟨0, Nat.zero_le _, rfl, f_same HX.out (fun i _ => nextF_zero _ _ _ _), row_alloc HR.out, hbel.alloc hbel.size _, fun _ _ x hx => absurd hx (Nat.not_lt_zero _)⟩
      case round =>
        obtain ⟨wi, rfl⟩ : ∃ x, x = wr := ⟨_, rfl⟩
        obtain ⟨j, hj, rfl, hnx, hre, hb2, hno⟩ := hrel
        have HN : Hid _ := hnx
        have HE : Hid _ := hre
        have HO : Hid _ := hno
        clear hno
        by_cases hjt : j ≤ t.size
        · have hc := f_cell hre (show j < t.size + 1 by omega)
          clear hnx hre
          cases hr : reachF ((bytes s).take k) (bytes t) j
          · have HF : Hid _ := hr
            go_wp2
            go_roundw
            case rel =>
              refine ⟨j + 1, by omega, by go_num, f_same HN.out (fun i _ => ?_), HE.out, hb2, fun h42 _ x hx => ?_⟩
              · by_cases h42 : s[k] = 42
                · rw [h42]; exact nextF_star_no _ _ _ HF.out _
                · exact nextF_past _ _ _ _ h42 (by rw [HF.out]; simp) _
              · by_cases e : x = j
                · rw [e]; exact HF.out
                · exact HO.out h42 (by omega) x (by omega)
            case measure => simp [intOf]; omega
          · have HF : Hid _ := hr
            by_cases h42 : s[k] = 42
            · have hb42 : ((s[k].toNat : Int) == 42) = true := by rw [eq42]; simpa using h42
              have HC : Hid _ := h42
              clear h42
              go_wp2
              go_loopw [9] (fun nn w3 => ∃ m : Nat, j ≤ m ∧ m ≤ t.size + 1 ∧ nn = .int .i64 m ∧ w3.heap[wo.heap.size]? = some (.cells (bools (fvec (t.size + 1) (fun x => decide (j ≤ x) && decide (x < m)))) 4 (0, 0)) ∧
                  w3.heap[R]? = some (.cells (bools (fvec (t.size + 1) (reachF ((bytes s).take k) (bytes t)))) 4 (0, 0)) ∧ Below w.heap.size w w3) (fun nn _ => t.size + 1 - (intOf nn).toNat)
              case atStart =>
                refine ⟨j, Nat.le_refl _, by omega, rfl, f_same HN.out (fun i _ => ?_), HE.out, hb2⟩
                rw [HC.out, nextF_star_none _ _ _ (HO.out HC.out hjt)]
                simp
              case round =>
                obtain ⟨m, hm1, hm2, rfl, hx3, hr3, hb3⟩ := hrel
                have H3 : Hid _ := hx3
                have G3 : Hid _ := hr3
                by_cases hmt : m ≤ t.size
                · have hc3 := f_cell hx3 (show m < t.size + 1 by omega)
                  have hf3 : wr.frozen? ⟨wo.heap.size, m, none⟩ = false := frozen_of_row _ _ _ _ _ hx3
                  clear hx3 hr3
                  go_wp2
                  go_roundw
                  case rel =>
                    refine ⟨m + 1, by omega, by omega, by go_num, f_store H3.out (fun i _ => ?_), row_other G3.out (by omega), hb3.setCell (by exact hbel.size) _⟩
                    by_cases e : i = m
                    · subst e; simp; omega
                    · rw [if_neg e]
                      have : decide (i < m + 1) = decide (i < m) := by rw [decide_eq_decide]; omega
                      rw [this]
                  case measure => simp [intOf]; omega
                · have : m = t.size + 1 := by omega
                  subst this
                  clear hx3 hr3
                  go_wp2
                  go_roundw
                  case rel =>
                    refine ⟨t.size + 1, Nat.le_refl _, by go_num, f_same H3.out (fun i hi => ?_), G3.out, hb3, fun _ h => absurd h (by omega)⟩
                    rw [HC.out, nextF_star_yes _ _ j (t.size + 1) (by omega) (HO.out HC.out hjt) HF.out]
                    simp; omega
                  case measure => simp [intOf]; omega
            · have hb42 : ((s[k].toNat : Int) == 42) = false := by rw [eq42]; simpa using h42
              have HC : Hid (s[k] ≠ 42) := h42
              clear h42
              by_cases hjl : j < t.size
              · have hjl' : (j : Int) < (t.size : Int) := by omega
                have HB : Hid _ := some_beq s t k j hlt hjl
                have hc1 := f_cell HN.out (show j + 1 < t.size + 1 by omega)
                have hf1 : wi.frozen? ⟨wo.heap.size, j + 1, none⟩ = false := frozen_of_row _ _ _ _ _ HN.out
                by_cases hq : s[k] = 63 ∨ s[k] = t[j]
                · have HQ : Hid ((s[k] == 63 || some s[k] == (bytes t)[j]?) = true) := by
                    show _ = _
                    rw [HB.out]; simpa using hq
                  have HS : ∀ n, nextF s[k] ((bytes s).take k) (bytes t) (j + 1) n = if n = j + 1 then true else nextF s[k] ((bytes s).take k) (bytes t) j n := nextF_one _ _ _ _ HC.out true (by rw [HQ.out, HF.out]; rfl)
                  have HS' : Hid _ := HS
                  have hsp : ((s[k].toNat : Int) == 63) = true ∨ (((s[k].toNat : Int) == 63) = false ∧ ((s[k].toNat : Int) == (t[j].toNat : Int)) = true) := by
                    rw [eq63, eqB]
                    by_cases e : s[k] = 63
                    · left; simpa using e
                    · right; exact ⟨by simpa using e, by simpa using hq.resolve_left e⟩
                  clear HS hq
                  rcases hsp with hx | ⟨hx, hy⟩
                  all_goals
                    go_wp2_with fail
                    go_quiet (fail)
                    go_wp2_with fail
                    go_roundw
                    case rel => exact ⟨j + 1, by omega, by go_num, f_store HN.out (fun i _ => HS'.out i), row_other (o := .cells _ _ (0, 0)) HE.out (by omega), (Below.drawn hb2 _).setCell (by exact hbel.size) _, fun h => absurd h HC.out⟩
                    case measure => simp [intOf]; omega
                · have HQ : Hid ((s[k] == 63 || some s[k] == (bytes t)[j]?) = false) := by
                    show _ = _
                    rw [HB.out]; simpa using hq
                  have h63 : ((s[k].toNat : Int) == 63) = false := by rw [eq63]; simpa using fun e => hq (Or.inl e)
                  have hbb : ((s[k].toNat : Int) == (t[j].toNat : Int)) = false := by rw [eqB]; simpa using fun e => hq (Or.inr e)
                  clear hq
                  go_wp2_with fail
                  go_quiet (fail)
                  go_wp2_with fail
                  go_roundw
                  case rel => exact ⟨j + 1, by omega, by go_num, f_same HN.out (fun i _ => nextF_past _ _ _ _ HC.out (by rw [HQ.out]; rfl) i), HE.out, Below.drawn hb2 _, fun h => absurd h HC.out⟩
                  case measure => simp [intOf]; omega
              · have hd : decide ((j : Int) < (t.size : Int)) = false := decide_eq_false (by omega)
                go_wp2_with fail
                go_quiet (fail)
                go_wp2_with fail
                go_roundw
                case rel => exact ⟨j + 1, by omega, by go_num, f_same HN.out (fun i hi => by rw [nextF_one _ _ _ _ HC.out _ rfl i, if_neg (by omega)]), HE.out, Below.drawn hb2 _, fun h => absurd h HC.out⟩
                case measure => simp [intOf]; omega
        · have : j = t.size + 1 := by omega
          subst this
          clear hnx hre
          go_wp2
          go_roundw
          case rel =>
            refine ⟨k + 1, wo.heap.size, by omega, by go_num, rfl, hbel.size, f_same HN.out (fun i hi => ?_), hb2⟩
            rw [take_snoc s k hlt, ← HT.out, nextF_all _ _ _ _ (by rw [HT.out]; omega)]
          case measure => simp [intOf]; omega
    · have hc := f_cell HR.out (show t.size < t.size + 1 by omega)
      rw [reachF, List.take_of_length_le (by rw [bytes_length]; omega), List.take_of_length_le (by rw [bytes_length]; exact Nat.le_refl _)] at hc
      go_wp2
      go_ret
      exact ⟨rfl, hbel⟩
end Go.Proofs.YtgigkiocdiffjaaGreat
