/- veilkeep.kept, by what a step leaves. No walk here. -/
import Derived.Test.YtgigkiocdiffjabKkept
namespace Go.Proofs.Ytgigkiocdiffjab
open Go.RowKit Veil
theorem rel_piece {c : Cfg} {s : PSt} {level a b tg : Int} (h : relCode c s level a b tg = 0) : 0 ≤ a ∧ a < b ∧ b ≤ ((placesR c s.row level.toNat).length : Int) := by
  unfold relCode at h
  obtain ⟨_, h⟩ := cond_zero (by decide) h
  obtain ⟨_, h⟩ := cond_zero (by decide) h
  obtain ⟨h', _⟩ := cond_zero (by decide) h
  unfold pieceB at h'
  simp only [Bool.not_eq_eq_eq_not, Bool.not_false, Bool.and_eq_true, decide_eq_true_eq] at h'
  exact ⟨h'.1.1, h'.1.2, h'.2⟩
theorem kkept_any (c : Cfg) (v : CfgV) (hr : Right c) (sv : Value) (o : KS) (s : PSt) (d : Nat) (hd : d < c.n) (lw ln : Value) (w : World) (hat : CfgAt w c v) (hw : SeqV 3 recV w lw (s.L d)) (hn : SeqV 3 recV w ln ((stepSt c s o).L d)) (hL : (s.L d).length ≤ 8) (hV : s.V d ≤ 4000000000000) (hg : RowGood c s.row) :
    Calls Try.prog 16 #[.agg (caseC c v sv), .agg o.cells, .int .i64 (stepAns c s o).e, .int .i64 d, .agg #[lw, .int .i64 (s.V d : Nat)], .agg #[ln, .int .i64 ((stepSt c s o).V d : Nat)]] w fun r w' => r = .returned (.bool true) ∧ Below w.heap.size w w' := by
  have hcn := (labels_of hr.labels).2.2.2.2.1
  obtain ⟨b1, b2, b3⟩ := step_books (s := s) hcn o d
  have hpc : o.kind = 4 → (stepAns c s o).e = 0 → 0 ≤ o.lo ∧ o.lo < o.hi ∧ o.hi ≤ 1200 := fun k4 he => by
    have e2 : stepAns c s o = .err (relCode c s o.level o.lo o.hi o.label) := by simp [stepAns, k4]
    rw [e2] at he
    obtain ⟨h1, h2, h3⟩ := rel_piece he
    have h4 := viewT_len c s.row o.level.toNat hg
    rw [viewT_size] at h4
    exact ⟨h1, h2, by omega⟩
  rw [b2] at hn
  rw [b1]
  rw [b1] at hn
  generalize (stepAns c s o).e = e at *
  generalize s.V d = V at *
  generalize s.L d = L at *
  clear b1 b2
  obtain ⟨kind, level, lo, hi, label, text⟩ := o
  simp only at hpc
  show Calls Try.prog 16 #[.agg (caseC c v sv), .agg #[.int .i64 kind, .int .i64 level, .int .i64 lo, .int .i64 hi, .int .i64 label, .string text], _, _, _, _] w _
  by_cases k1 : kind < 1
  · have hE : editB ⟨kind, level, lo, hi, label, text⟩ e = false := by
      unfold editB
      rw [show decide (1 ≤ kind) = false by simpa using k1]
      rfl
    have hR : relB ⟨kind, level, lo, hi, label, text⟩ e d = false := by unfold relB; rw [hE]; rfl
    rw [hE] at hn ⊢
    rw [hR] at hn
    exact kkept_A1 c v hr sv kind level lo hi label text e d hd L lw ln V w hat hw hn hL (by simpa using k1) (by rw [beq_eq_false_iff_ne]; omega)
  by_cases k5 : 4 < kind
  · have hE : editB ⟨kind, level, lo, hi, label, text⟩ e = false := by
      unfold editB
      rw [show decide (kind ≤ 4) = false by simpa using k5, Bool.and_false]
      rfl
    have hR : relB ⟨kind, level, lo, hi, label, text⟩ e d = false := by unfold relB; rw [hE]; rfl
    rw [hE] at hn ⊢
    rw [hR] at hn
    exact kkept_A2 c v hr sv kind level lo hi label text e d hd L lw ln V w hat hw hn hL (by omega) (by simpa using k5) (by rw [beq_eq_false_iff_ne]; omega)
  by_cases he : e = 0
  · subst he
    have hE : editB ⟨kind, level, lo, hi, label, text⟩ 0 = true := by
      unfold editB
      rw [show decide (1 ≤ kind) = true by simp; omega, show decide (kind ≤ 4) = true by simp; omega]
      rfl
    rw [hE, Bool.true_and] at hn ⊢
    by_cases k4 : kind = 4
    · subst k4
      rw [show byI ⟨4, level, lo, hi, label, text⟩ = label from rfl] at hn ⊢
      have hR : relB ⟨4, level, lo, hi, label, text⟩ 0 d = (label == (d : Int)) := by unfold relB; rw [hE]; rfl
      rw [hR] at hn b3
      obtain ⟨p1, p2, p3⟩ := hpc rfl rfl
      cases hld : (label == (d : Int))
      · rw [hld] at hn
        cases hsd : seesB c label d
        · rw [hsd] at hn
          exact kkept_Rf c v hr sv 4 level lo hi label text 0 d hd L lw ln V w hat hw hn hL hsd rfl rfl hld
        · rw [hsd] at hn
          have := kkept_Rt c v hr sv 4 level lo hi label text 0 d hd L lw ln V w hat hw hn hL hV hsd rfl rfl hld
          exact this
      · rw [hld] at hn b3
        have hlt := b3 rfl
        have hdl := eq_of_beq hld
        have hsd : seesB c label d = true := by
          unfold seesB
          rw [hdl, le_refl' hr.labels d hd, Bool.and_true, ← hcn]
          simp [okL]
          omega
        rw [hsd] at hn ⊢
        have := kkept_R1 c v hr sv 4 level lo hi label text 0 d hd L lw ln V w hat hw (by simpa using hn) (by omega) hV hsd rfl rfl hdl p1 p2 p3
        exact this
    · have hk4 : (kind == 4) = false := by rw [beq_eq_false_iff_ne]; exact k4
      rw [show byI ⟨kind, level, lo, hi, label, text⟩ = level by unfold byI; rw [hk4]; rfl] at hn ⊢
      have hR : relB ⟨kind, level, lo, hi, label, text⟩ 0 d = false := by unfold relB; rw [hk4, Bool.and_false]; rfl
      rw [hR] at hn
      cases hsd : seesB c level d
      · rw [hsd] at hn
        exact kkept_Bf c v hr sv kind level lo hi label text 0 d hd L lw ln V w hat hw hn hL hsd (by omega) (by omega) rfl hk4
      · rw [hsd] at hn
        exact kkept_Bt c v hr sv kind level lo hi label text 0 d hd L lw ln V w hat hw hn hL hV hsd (by omega) (by omega) rfl hk4
  · have he2 : (e == 0) = false := by rw [beq_eq_false_iff_ne]; exact he
    have hE : editB ⟨kind, level, lo, hi, label, text⟩ e = false := by unfold editB; rw [he2, Bool.and_false]
    have hR : relB ⟨kind, level, lo, hi, label, text⟩ e d = false := by unfold relB; rw [hE]; rfl
    rw [hE] at hn ⊢
    rw [hR] at hn
    by_cases k4 : kind = 4
    · exact kkept_A3r c v hr sv kind level lo hi label text e d hd L lw ln V w hat hw hn hL k4 he2
    · exact kkept_A3n c v hr sv kind level lo hi label text e d hd L lw ln V w hat hw hn hL (by omega) (by omega) he2 (by rw [beq_eq_false_iff_ne]; exact k4)
end Go.Proofs.Ytgigkiocdiffjab
