/- Plays3, Looked, DocU, DocV. -/
import Derived.Test.YthgcpjdlcooncaaGreatE06
import Derived.Test.YthgcpjdlcooncaaGreatE11
import Derived.Test.YthgcpjdlcooncaaGreatE13
namespace Go.Proofs.YthgcpjdlcooncaaGreat
open Go.RowKit Veil
/-- What a law keeps: g: the block of its world; k: how many steps were seen; F: the blocks that it may write. -/
structure PlayInv (w : World) (n : Nat) (ops : Nat → OpR) (Lp Lh : List Int) (Inv : Nat → Nat → (Nat → Prop) → World → Prop) : Prop where
  low : ∀ g k F w', Inv g k F w' → Below w.heap.size w w' ∧ g < w'.heap.size ∧ ∀ b, F b → w.heap.size ≤ b ∧ b < w'.heap.size
  frame : ∀ g k F w' w'', Inv g k F w' → Below w'.heap.size w' w'' → Inv g k F w''
  skip : ∀ g k F w', Inv g k F w' → Inv g (k + 1) F w'
  step : ∀ g k F w', k < n → Lp.contains (ops k).kind = true → Inv g k F w' → Calls Tryz.prog 13 #[.pointer (some ⟨g, 0, none⟩), .agg (ops k).cells] w'
    fun e w'' => ∃ r F', e = .returned (.bool r) ∧ ((Lh.contains (ops k).kind = true ∨ (ops k).kind = 6) → r = true) ∧ Inv g (k + 1) F' w'' ∧ Only F w' w'' ∧ ∀ b, F' b → F b ∨ w'.heap.size ≤ b
  looks : ∀ g k F w', Inv g k F w' → Calls Tryz.prog 14 #[.pointer (some ⟨g, 0, none⟩)] w' fun e w'' => e = .returned (.bool true) ∧ Below w'.heap.size w' w''
set_option maxRecDepth 100000 in
set_option maxHeartbeats 4000000 in
theorem plays_inv (co : Option Addr) (cn cc : Nat) (ao : Option Addr) (n cap : Nat) (ops : Nat → OpR) (gp gh : Nat) (Lp Lh : List Int) (w : World) (Inv : Nat → Nat → (Nat → Prop) → World → Prop) (hops : OpsAt w ao n ops) (hn : n ≤ 140737488355328)
    (hp : IntsAt w gp Lp) (hh : IntsAt w gh Lh) (hLp : Lp.length ≤ 1000) (hLh : Lh.length ≤ 1000) (hI : PlayInv w n ops Lp Lh Inv) (hstart : ∃ F, Inv w.heap.size 0 F (w.alloc (.cells #[.slice co cn cc, .slice none 0 0, .slice none 0 0, .slice none 0 0, .slice none 0 0] 33))) :
    Calls Tryz.prog 11 #[.slice co cn cc, .slice ao n cap, .slice (some ⟨gp, 0, none⟩) Lp.length Lp.length, .slice (some ⟨gh, 0, none⟩) Lh.length Lh.length] w fun e w' => e = .returned (.bool true) ∧ Below w.heap.size w w' := by
  rcases hops with rfl | ⟨b, off, rfl, hblt, hcells⟩
  · have HP := hide hp
    have HH := hide hh
    have HI := hide hI
    have HST := hide hstart
    clear hp hh hI hstart
    go_enter Tryz.func11, Tryz.ntmps11
    go_wp2
    refine wp_loop_rounds 1 ?_
    rw [rounds_succ]
    go_wp2
    go_ret
    exact ⟨rfl, (Below.refl _ _).alloc (Nat.le_refl _) _⟩
  have HP := hide hp
  have HH := hide hh
  have HI := hide hI
  have HC := hide hcells
  have HST := hide hstart
  clear hp hh hI hcells hstart
  go_enter Tryz.func11, Tryz.ntmps11
  go_wp2
  go_loopw [10] (fun i wr => ∃ k : Nat, k ≤ n ∧ i = .int .i64 k ∧ ∃ F, Inv w.heap.size k F wr) (fun i _ => n - (intOf i).toNat)
  case atStart => exact ⟨0, Nat.zero_le _, rfl, HST.out⟩
  case round =>
    obtain ⟨wo, rfl⟩ : ∃ x, x = wr := ⟨_, rfl⟩
    obtain ⟨k, hk, rfl, F, hinv⟩ := hrel
    obtain ⟨hbel, hgl, hF⟩ := HI.out.low _ _ _ _ hinv
    have HIN := hide hinv
    have HFF := hide hF
    clear hinv hF
    by_cases hlt : k < n
    · obtain ⟨c0, c1, c2, c3, c4, c5, c6, c7⟩ := OpsAt.cells HC.out hbel hblt k hlt
      have h57 : (k : Int) < 144115188075855872 := by omega
      have h58 : decide ((k : Int) < 144115188075855872) = true := decide_eq_true h57
      have HB2 := hide (show ∀ o, Below w.heap.size w (wo.alloc o) from fun o => hbel.alloc hbel.size o)
      have HB1 := hide (show ∀ o, Below wo.heap.size wo (wo.alloc o) from fun o => below_box wo o)
      have HIA := hide (fun o => HI.out.frame _ _ _ _ _ HIN.out (HB1.out o))
      cases hin : Lp.contains (ops k).kind
      · go_wp2_with fail
        refine (among_any gp Lp (ops k).kind _ (HP.out.below (HB2.out _) HP.out.lt) hLp).mono ?_
        rintro e w' ⟨rfl, rfl⟩
        rw [hin]
        go_wp2
        go_roundw
        case rel => exact ⟨k + 1, by omega, by go_num, F, HI.out.skip _ _ _ _ (HIA.out _)⟩
        case measure => simp [intOf]; omega
      · have HSTEP := hide (fun o => HI.out.step _ _ _ _ hlt hin (HIA.out o))
        go_wp2_with fail
        refine (among_any gp Lp (ops k).kind _ (HP.out.below (HB2.out _) HP.out.lt) hLp).mono ?_
        rintro e w' ⟨rfl, rfl⟩
        rw [hin]
        go_wp2_with fail
        refine (HSTEP.out _).mono ?_
        rintro e w2 ⟨r, F', rfl, hr, hinv2, honly, hfoot⟩
        have HR := hide hr
        have HI2 := hide hinv2
        have hb3 := (HI.out.low _ _ _ _ hinv2).1
        have hk2 : w2.cell? ⟨wo.heap.size, 0, none⟩ = some (.int .i64 (ops k).kind) := by
          rw [World.cell?_of_block (a := ⟨wo.heap.size, 0, none⟩) (honly.block wo.heap.size (by simp) (fun hf => by have := (HFF.out _ hf).2; omega))]
          simp
        have HB3 := hide hb3
        have HLK := hide (HI.out.looks _ _ _ _ hinv2)
        clear hr hinv2 honly hfoot hb3 c0 c1 c2 c3 c4 c5 c6 c7
        go_wp2_with fail
        refine (among_any gh Lh (ops k).kind _ (HH.out.below HB3.out HH.out.lt) hLh).mono ?_
        rintro e w' ⟨rfl, rfl⟩
        cases r
        · have hnh : Lh.contains (ops k).kind = false := by
            cases h : Lh.contains (ops k).kind with
            | false => rfl
            | true => exact absurd (HR.out (Or.inl h)) (by decide)
          have hn6 : ((ops k).kind == 6) = false := by
            cases h : ((ops k).kind == 6) with
            | false => rfl
            | true => exact absurd (HR.out (Or.inr (by simpa using h))) (by decide)
          rw [hnh]
          go_wp2_with fail
          refine (HLK.out).mono ?_
          rintro e w5 ⟨rfl, hb5⟩
          have HI5 := hide (HI.out.frame _ _ _ _ _ HI2.out hb5)
          clear hb5
          go_wp2
          go_roundw
          case rel => exact ⟨k + 1, by omega, by go_num, F', HI5.out⟩
          case measure => simp [intOf]; omega
        · go_wp2_with fail
          refine (HLK.out).mono ?_
          rintro e w5 ⟨rfl, hb5⟩
          have HI5 := hide (HI.out.frame _ _ _ _ _ HI2.out hb5)
          clear hb5
          go_wp2
          go_roundw
          case rel => exact ⟨k + 1, by omega, by go_num, F', HI5.out⟩
          case measure => simp [intOf]; omega
    · go_wp2
      go_ret
      exact ⟨rfl, hbel⟩
set_option maxHeartbeats 1000000 in
/-- looks, where no list has come out. -/
theorem looks_docs (g : Nat) (cs ds : Value) (w : World) (h : w.heap[g]? = some (.cells #[cs, ds, .slice none 0 0, .slice none 0 0, .slice none 0 0] 33 (0, 0))) :
    Calls Tryz.prog 14 #[.pointer (some ⟨g, 0, none⟩)] w fun e w' => e = .returned (.bool true) ∧ Below w.heap.size w w' := by
  have h2 : w.cell? ⟨g, 2, none⟩ = some (.slice none 0 0) := (cell_of_row _ _ _ _ _ _ h).trans rfl
  have h3 : w.cell? ⟨g, 3, none⟩ = some (.slice none 0 0) := (cell_of_row _ _ _ _ _ _ h).trans rfl
  have h4 : w.cell? ⟨g, 4, none⟩ = some (.slice none 0 0) := (cell_of_row _ _ _ _ _ _ h).trans rfl
  clear h
  go_enter Tryz.func14, Tryz.ntmps14
  go_wp2
  refine wp_loop_rounds 1 ?_
  rw [rounds_succ]
  go_wp2
  refine wp_loop_rounds 1 ?_
  rw [rounds_succ]
  go_wp2
  refine wp_loop_rounds 1 ?_
  rw [rounds_succ]
  go_wp2
  go_ret
  exact ⟨rfl, Below.refl _ _⟩
end Go.Proofs.YthgcpjdlcooncaaGreat
namespace Go.Proofs.YthgcpjdlcooncaaGreat
open Go.RowKit Veil
def pairC (pd rd : Nat) : Array Value := #[.pointer (some ⟨pd, 0, none⟩), .pointer (some ⟨rd, 0, none⟩)]
theorem toList_self (s : ByteArray) : (s.toList == s.toList) = true := by simp
set_option maxRecDepth 100000 in
set_option maxHeartbeats 4000000 in
theorem looked_view (pd rd : Nat) (o : OpR) (s : ByteArray) (code : Int) (w : World) (hk : o.kind = 9)
    (hP : ∀ w', Below w.heap.size w w' → Calls Tryz.prog 88 #[.pointer (some ⟨pd, 0, none⟩), .int .i64 o.b] w' fun e w'' => e = .returned (.tuple #[.string s, .int .i64 code]) ∧ Below w'.heap.size w' w'')
    (hR : ∀ w', Below w.heap.size w w' → Calls Tryz.prog 81 #[.pointer (some ⟨rd, 0, none⟩), .int .i64 o.b] w' fun e w'' => e = .returned (.tuple #[.string s, .int .i64 code]) ∧ Below w'.heap.size w' w'') :
    Calls Tryz.prog 48 #[.agg (pairC pd rd), .agg o.cells] w fun e w' => e = .returned (.bool true) ∧ Below w.heap.size w w' := by
  have HP := hide hP
  have HR := hide hR
  clear hP hR
  obtain ⟨kind, a, b, cc, d, e0, s0, t0⟩ := o
  simp only at hk HP HR
  subst hk
  unfold OpR.cells pairC
  simp only
  have hb0 : Below w.heap.size w ((w.alloc (.cells #[.pointer (some ⟨pd, 0, none⟩), .pointer (some ⟨rd, 0, none⟩)] 54)).alloc (.cells #[.int .i64 9, .int .i64 a, .int .i64 b, .int .i64 cc, .int .i64 d, .int .i64 e0, .string s0, .string t0] 35)) := (below_box w _).alloc (by simp) _
  have HN1 := hide (heap_alloc2_old w (.cells #[.pointer (some ⟨pd, 0, none⟩), .pointer (some ⟨rd, 0, none⟩)] 54) (.cells #[.int .i64 9, .int .i64 a, .int .i64 b, .int .i64 cc, .int .i64 d, .int .i64 e0, .string s0, .string t0] 35))
  have HN2 := hide (heap_alloc2_new w (.cells #[.pointer (some ⟨pd, 0, none⟩), .pointer (some ⟨rd, 0, none⟩)] 54) (.cells #[.int .i64 9, .int .i64 a, .int .i64 b, .int .i64 cc, .int .i64 d, .int .i64 e0, .string s0, .string t0] 35))
  go_enter Tryz.func48, Tryz.ntmps48
  go_wp2_with fail
  refine (HP.out _ hb0).mono ?_
  rintro e w1 ⟨rfl, hb1⟩
  have hbel1 := hb0.trans (hb1.mono hb0.size)
  have x1 : w1.cell? ⟨w.heap.size, 1, none⟩ = some (.pointer (some ⟨rd, 0, none⟩)) := (cell_of_row _ _ _ _ _ _ (Below.row hb1 HN1.out (lt_of_row HN1.out))).trans rfl
  have x2 : w1.cell? ⟨w.heap.size + 1, 2, none⟩ = some (.int .i64 b) := (cell_of_row _ _ _ _ _ _ (Below.row hb1 HN2.out (lt_of_row HN2.out))).trans rfl
  clear hb1
  go_wp2_with fail
  refine (HR.out _ hbel1).mono ?_
  rintro e w2 ⟨rfl, hb2⟩
  have hbel2 := hbel1.trans (hb2.mono hbel1.size)
  clear hb2 x1 x2
  have hss := toList_self s
  go_wp2
  go_ret
  exact ⟨rfl, hbel2⟩
set_option maxRecDepth 100000 in
set_option maxHeartbeats 4000000 in
theorem looked_left (pd rd : Nat) (o : OpR) (x : Int) (code : Int) (w : World) (hk : o.kind = 12)
    (hP : ∀ w', Below w.heap.size w w' → Calls Tryz.prog 89 #[.pointer (some ⟨pd, 0, none⟩), .int .i64 o.b] w' fun e w'' => e = .returned (.tuple #[.int .i64 x, .int .i64 code]) ∧ Below w'.heap.size w' w'')
    (hR : ∀ w', Below w.heap.size w w' → Calls Tryz.prog 90 #[.pointer (some ⟨rd, 0, none⟩), .int .i64 o.b] w' fun e w'' => e = .returned (.tuple #[.int .i64 x, .int .i64 code]) ∧ Below w'.heap.size w' w'') :
    Calls Tryz.prog 48 #[.agg (pairC pd rd), .agg o.cells] w fun e w' => e = .returned (.bool true) ∧ Below w.heap.size w w' := by
  have HP := hide hP
  have HR := hide hR
  clear hP hR
  obtain ⟨kind, a, b, cc, d, e0, s0, t0⟩ := o
  simp only at hk HP HR
  subst hk
  unfold OpR.cells pairC
  simp only
  have hb0 : Below w.heap.size w ((w.alloc (.cells #[.pointer (some ⟨pd, 0, none⟩), .pointer (some ⟨rd, 0, none⟩)] 54)).alloc (.cells #[.int .i64 12, .int .i64 a, .int .i64 b, .int .i64 cc, .int .i64 d, .int .i64 e0, .string s0, .string t0] 35)) := (below_box w _).alloc (by simp) _
  have HN1 := hide (heap_alloc2_old w (.cells #[.pointer (some ⟨pd, 0, none⟩), .pointer (some ⟨rd, 0, none⟩)] 54) (.cells #[.int .i64 12, .int .i64 a, .int .i64 b, .int .i64 cc, .int .i64 d, .int .i64 e0, .string s0, .string t0] 35))
  have HN2 := hide (heap_alloc2_new w (.cells #[.pointer (some ⟨pd, 0, none⟩), .pointer (some ⟨rd, 0, none⟩)] 54) (.cells #[.int .i64 12, .int .i64 a, .int .i64 b, .int .i64 cc, .int .i64 d, .int .i64 e0, .string s0, .string t0] 35))
  go_enter Tryz.func48, Tryz.ntmps48
  go_wp2_with fail
  refine (HP.out _ hb0).mono ?_
  rintro e w1 ⟨rfl, hb1⟩
  have hbel1 := hb0.trans (hb1.mono hb0.size)
  have x1 : w1.cell? ⟨w.heap.size, 1, none⟩ = some (.pointer (some ⟨rd, 0, none⟩)) := (cell_of_row _ _ _ _ _ _ (Below.row hb1 HN1.out (lt_of_row HN1.out))).trans rfl
  have x2 : w1.cell? ⟨w.heap.size + 1, 2, none⟩ = some (.int .i64 b) := (cell_of_row _ _ _ _ _ _ (Below.row hb1 HN2.out (lt_of_row HN2.out))).trans rfl
  clear hb1
  go_wp2_with fail
  refine (HR.out _ hbel1).mono ?_
  rintro e w2 ⟨rfl, hb2⟩
  have hbel2 := hbel1.trans (hb2.mono hbel1.size)
  clear hb2 x1 x2
  go_wp2
  go_ret
  exact ⟨rfl, hbel2⟩
set_option maxRecDepth 100000 in
set_option maxHeartbeats 4000000 in
theorem looked_version (pd rd : Nat) (o : OpR) (x : Int) (code : Int) (w : World) (hk : o.kind = 16)
    (hP : ∀ w', Below w.heap.size w w' → Calls Tryz.prog 91 #[.pointer (some ⟨pd, 0, none⟩), .int .i64 o.b] w' fun e w'' => e = .returned (.tuple #[.int .i64 x, .int .i64 code]) ∧ Below w'.heap.size w' w'')
    (hR : ∀ w', Below w.heap.size w w' → Calls Tryz.prog 92 #[.pointer (some ⟨rd, 0, none⟩), .int .i64 o.b] w' fun e w'' => e = .returned (.tuple #[.int .i64 x, .int .i64 code]) ∧ Below w'.heap.size w' w'') :
    Calls Tryz.prog 48 #[.agg (pairC pd rd), .agg o.cells] w fun e w' => e = .returned (.bool true) ∧ Below w.heap.size w w' := by
  have HP := hide hP
  have HR := hide hR
  clear hP hR
  obtain ⟨kind, a, b, cc, d, e0, s0, t0⟩ := o
  simp only at hk HP HR
  subst hk
  unfold OpR.cells pairC
  simp only
  have hb0 : Below w.heap.size w ((w.alloc (.cells #[.pointer (some ⟨pd, 0, none⟩), .pointer (some ⟨rd, 0, none⟩)] 54)).alloc (.cells #[.int .i64 16, .int .i64 a, .int .i64 b, .int .i64 cc, .int .i64 d, .int .i64 e0, .string s0, .string t0] 35)) := (below_box w _).alloc (by simp) _
  have HN1 := hide (heap_alloc2_old w (.cells #[.pointer (some ⟨pd, 0, none⟩), .pointer (some ⟨rd, 0, none⟩)] 54) (.cells #[.int .i64 16, .int .i64 a, .int .i64 b, .int .i64 cc, .int .i64 d, .int .i64 e0, .string s0, .string t0] 35))
  have HN2 := hide (heap_alloc2_new w (.cells #[.pointer (some ⟨pd, 0, none⟩), .pointer (some ⟨rd, 0, none⟩)] 54) (.cells #[.int .i64 16, .int .i64 a, .int .i64 b, .int .i64 cc, .int .i64 d, .int .i64 e0, .string s0, .string t0] 35))
  go_enter Tryz.func48, Tryz.ntmps48
  go_wp2_with fail
  refine (HP.out _ hb0).mono ?_
  rintro e w1 ⟨rfl, hb1⟩
  have hbel1 := hb0.trans (hb1.mono hb0.size)
  have x1 : w1.cell? ⟨w.heap.size, 1, none⟩ = some (.pointer (some ⟨rd, 0, none⟩)) := (cell_of_row _ _ _ _ _ _ (Below.row hb1 HN1.out (lt_of_row HN1.out))).trans rfl
  have x2 : w1.cell? ⟨w.heap.size + 1, 2, none⟩ = some (.int .i64 b) := (cell_of_row _ _ _ _ _ _ (Below.row hb1 HN2.out (lt_of_row HN2.out))).trans rfl
  clear hb1
  go_wp2_with fail
  refine (HR.out _ hbel1).mono ?_
  rintro e w2 ⟨rfl, hb2⟩
  have hbel2 := hbel1.trans (hb2.mono hbel1.size)
  clear hb2 x1 x2
  go_wp2
  go_ret
  exact ⟨rfl, hbel2⟩
end Go.Proofs.YthgcpjdlcooncaaGreat
namespace Go.Proofs.YthgcpjdlcooncaaGreat
open Go.RowKit Veil
set_option maxRecDepth 100000 in
set_option maxHeartbeats 8000000 in
theorem rraise_no1 (c : Cfg) (v : CfgV) (rows : List (RC × Value)) (rv av : Value) (g : Nat) (level a b lb2 : Int) (w : World) (hdoc : RDocR w g c v rows rv av) (hlv : okL c.labels level = false) :
    Calls Tryz.prog 75 #[.pointer (some ⟨g, 0, none⟩), .int .i64 level, .int .i64 a, .int .i64 b, .int .i64 lb2] w fun e w' => e = .returned (.int .i64 6) ∧ Below w.heap.size w w' := by
  have HLB := hide (fun w' => rlabel_any c v level w')
  obtain ⟨q0, q1, q2, q3⟩ := hdoc.box.cells
  rw [hlv] at HLB
  unfold cfgCells at HLB
  clear hlv hdoc
  go_enter Tryz.func75, Tryz.ntmps75
  go_wp2_with fail
  refine (HLB.out _).mono ?_
  rintro e w1 ⟨rfl, hb1⟩
  go_wp2
  go_ret
  exact ⟨rfl, hb1⟩
set_option maxRecDepth 100000 in
set_option maxHeartbeats 8000000 in
theorem rraise_no1b (c : Cfg) (v : CfgV) (rows : List (RC × Value)) (rv av : Value) (g : Nat) (level a b lb2 : Int) (w : World) (hdoc : RDocR w g c v rows rv av) (hlv : okL c.labels level = true) (hlb : okL c.labels lb2 = false) :
    Calls Tryz.prog 75 #[.pointer (some ⟨g, 0, none⟩), .int .i64 level, .int .i64 a, .int .i64 b, .int .i64 lb2] w fun e w' => e = .returned (.int .i64 6) ∧ Below w.heap.size w w' := by
  have HLB := hide (fun w' => rlabel_any c v level w')
  have HLB2 := hide (fun w' => rlabel_any c v lb2 w')
  have HBX := hide hdoc.box
  have hgl := hdoc.box.lt
  obtain ⟨q0, q1, q2, q3⟩ := hdoc.box.cells
  rw [hlv] at HLB
  rw [hlb] at HLB2
  unfold cfgCells at HLB HLB2
  clear hlv hlb hdoc
  go_enter Tryz.func75, Tryz.ntmps75
  go_wp2_with fail
  refine (HLB.out _).mono ?_
  rintro e w1 ⟨rfl, hb1⟩
  clear q0 q1 q2 q3
  obtain ⟨q0, q1, q2, q3⟩ := (HBX.out.below hb1 hgl).cells
  go_wp2_with fail
  refine (HLB2.out _).mono ?_
  rintro e w2 ⟨rfl, hb2⟩
  have hb := hb1.trans (hb2.mono hb1.size)
  clear hb1 hb2 q0 q1 q2 q3
  go_wp2
  go_ret
  exact ⟨rfl, hb⟩
set_option maxRecDepth 100000 in
set_option maxHeartbeats 8000000 in
theorem rraise_no2 (c : Cfg) (v : CfgV) (rows : List (RC × Value)) (rv av : Value) (g level : Nat) (a b lb2 : Int) (w : World) (hdoc : RDocR w g c v rows rv av) (hok : RDocOk c rows) (hlv : okL c.labels level = true) (hlb : okL c.labels lb2 = true) (hno : a < 0 ∨ b ≤ a ∨ ((placesR c (rows.map (·.1)) level).length : Int) < b) :
    Calls Tryz.prog 75 #[.pointer (some ⟨g, 0, none⟩), .int .i64 level, .int .i64 a, .int .i64 b, .int .i64 lb2] w fun e w' => e = .returned (.int .i64 7) ∧ Below w.heap.size w w' := by
  obtain ⟨_, _, _, _, hn, _, _⟩ := labels_of hok.labels
  obtain ⟨lv, hlv1, hlv2⟩ := okL_nat' hn hlv
  obtain rfl : level = lv := by omega
  have HLB := hide (fun w' => rlabel_any c v level w')
  have HLB2 := hide (fun w' => rlabel_any c v lb2 w')
  have HBX := hide hdoc.box
  have hgl0 := hdoc.box.lt
  have HCE := hide (fun (w' : World) (hb : Below w.heap.size w w') => rcells_no c v rows rv av g level a b w' (hdoc.below hb) hok hlv2 hno)
  obtain ⟨q0, q1, q2, q3⟩ := hdoc.box.cells
  rw [hlv] at HLB
  rw [hlb] at HLB2
  unfold cfgCells at HLB HLB2
  clear hlv hlb hdoc hok hno hn hlv1
  go_enter Tryz.func75, Tryz.ntmps75
  go_wp2_with fail
  refine (HLB.out _).mono ?_
  rintro e w01 ⟨rfl, hb01⟩
  clear q0 q1 q2 q3
  obtain ⟨q0, q1, q2, q3⟩ := (HBX.out.below hb01 hgl0).cells
  go_wp2_with fail
  refine (HLB2.out _).mono ?_
  rintro e w1 ⟨rfl, hb02⟩
  have hb1 := hb01.trans (hb02.mono hb01.size)
  clear hb01 hb02
  go_wp2_with fail
  refine (HCE.out _ hb1).mono ?_
  rintro e w2 ⟨rfl, hb2⟩
  have hb := hb1.trans (hb2.mono hb1.size)
  clear hb1 hb2 q0 q1 q2 q3
  go_wp2
  go_ret
  exact ⟨rfl, hb⟩
set_option maxRecDepth 100000 in
set_option maxHeartbeats 16000000 in
theorem rraise_ok (w0 w : World) (g : Nat) (c : Cfg) (v : CfgV) (rows : List (RC × Value)) (acts : List RA) (rv av : Value) (level a b lb2 : Nat) (hdoc : RDocO w0 w g c v rows acts rv av) (hok : RDocOk c rows) (hlv : okL c.labels level = true) (hlb : okL c.labels lb2 = true) (hab : a < b) (hbl : b ≤ (placesR c (rows.map (·.1)) level).length)
    (hmk : ∀ (i : Nat) (p : RC × Value), rows[i]? = some p → p.1.marks.length ≤ 4000000000000) (hal : acts.length ≤ 4000000000000) (hrc : (cellsTo c (rows.map (·.1)) level (placesR c (rows.map (·.1)) level) a b).length ≤ 1000000000000 ∧ ∀ r, r ∈ cellsTo c (rows.map (·.1)) level (placesR c (rows.map (·.1)) level) a b → r < rows.length) :
    Calls Tryz.prog 75 #[.pointer (some ⟨g, 0, none⟩), .int .i64 level, .int .i64 a, .int .i64 b, .int .i64 lb2] w
      fun e w' => e = .returned (.int .i64 0) ∧ ∃ rows' av', RDocO w0 w' g c v rows' (acts ++ [⟨3, level, level, 0⟩]) rv av' ∧ rows'.map (·.1) = markAll (rows.map (·.1)) (cellsTo c (rows.map (·.1)) level (placesR c (rows.map (·.1)) level) a b) ⟨3, level, lb2⟩ ∧ Only (fun k => ∃ s, blkOf' g rv av rows s = some k) w w' ∧ (∀ s b, blkOf' g rv av' rows' s = some b → (∃ s, blkOf' g rv av rows s = some b) ∨ w.heap.size ≤ b) := by
  obtain ⟨_, _, _, _, hn, _, _⟩ := labels_of hok.labels
  obtain ⟨lv, hlv1, hlv2⟩ := okL_nat' hn hlv
  obtain rfl : level = lv := by omega
  obtain ⟨hp1, hp2⟩ := places_of hok level
  have HLB := hide (fun w' => rlabel_any c v level w')
  have HLB2 := hide (fun w' => rlabel_any c v lb2 w')
  have HBX := hide hdoc.box
  have hgl0 := hdoc.box.lt
  have HCE := hide (fun (w' : World) (hb : Below w.heap.size w w') => rcells_ok c v rows rv av g level a b w' (hdoc.read.below hb) hok hlv2 hab hbl hp1 (fun p hp => ⟨(hp2 p hp).le, (hp2 p hp).lt⟩))
  have HDOC := hide hdoc
  obtain ⟨q0, q1, q2, q3⟩ := hdoc.box.cells
  rw [hlv] at HLB
  rw [hlb] at HLB2
  unfold cfgCells at HLB HLB2
  have HRC := hide hrc
  have HMK := hide hmk
  generalize cellsTo c (rows.map (·.1)) level (placesR c (rows.map (·.1)) level) a b = L at *
  clear hlv hlb hdoc hok hn hlv1 hp1 hp2 hbl hrc hmk
  go_enter Tryz.func75, Tryz.ntmps75
  go_wp2_with fail
  refine (HLB.out _).mono ?_
  rintro e w01 ⟨rfl, hb01⟩
  clear q0 q1 q2 q3
  obtain ⟨q0, q1, q2, q3⟩ := (HBX.out.below hb01 hgl0).cells
  go_wp2_with fail
  refine (HLB2.out _).mono ?_
  rintro e w1 ⟨rfl, hb02⟩
  have hb1 := hb01.trans (hb02.mono hb01.size)
  clear hb01 hb02
  go_wp2_with fail
  refine (HCE.out _ hb1).mono ?_
  rintro e w2 ⟨vl, rfl, hvl, hb2⟩
  have hbw := hb1.trans (hb2.mono hb1.size)
  have HD2 := hide (HDOC.out.drop hbw)
  have HVL := hide hvl
  have hsz1 := hb1.size
  clear hb1 hb2 q0 q1 q2 q3 hvl
  obtain ⟨lao, lcap, hvv⟩ := HVL.out.shape
  subst hvv
  have HMA : Hid (Calls Tryz.prog 106 #[.pointer (some ⟨g, 0, none⟩), .slice lao L.length lcap, .agg #[.int .i64 3, .int .i64 level, .int .i64 lb2]] w2
      fun e w' => e = .returned (.tuple #[]) ∧ ∃ rows', RDocO w0 w' g c v rows' acts rv av ∧ rows'.map (·.1) = markAll (rows.map (·.1)) L ⟨3, level, lb2⟩ ∧ Only (fun k => ∃ s, blkOf' g rv av rows s = some k) w2 w' ∧ (∀ s b, blkOf' g rv av rows' s = some b → (∃ s, blkOf' g rv av rows s = some b) ∨ w2.heap.size ≤ b)) := by
    by_cases hL0 : L.length = 0
    · exact rmark_any w0 w2 g c v rows acts rv av L lao 0 lcap ⟨3, level, lb2⟩ HD2.out (Or.inl (List.eq_nil_of_length_eq_zero hL0)) (fun h => absurd (List.eq_nil_of_length_eq_zero hL0) h) (fun h => absurd (List.eq_nil_of_length_eq_zero hL0) h) (fun k r h => by rw [List.eq_nil_of_length_eq_zero hL0] at h; simp at h) (by omega) (fun i p hp => by have := HMK.out i p hp; omega)
    · obtain ⟨lb, lc, hvv, hlb1, hlb2⟩ := HVL.out.form (by omega)
      simp only [Value.slice.injEq] at hvv
      obtain ⟨rfl, _, rfl⟩ := hvv
      refine rmark_any w0 w2 g c v rows acts rv av L _ lb lcap ⟨3, level, lb2⟩ HD2.out (Or.inr rfl) (fun _ => hlb2) (fun _ s hs => ?_) (fun k r h => ⟨?_, HRC.out.2 r (List.mem_of_getElem? h)⟩) (by have := HRC.out.1; omega) (fun i p hp => by have := HMK.out i p hp; have := HRC.out.1; omega)
      · have := (HDOC.out.parts.low s lb hs).2
        omega
      · have := HVL.out.cell (show ∀ a, (intV a).length = 1 from fun _ => rfl) rfl h (j := 0) Nat.zero_lt_one
        simpa [intV] using this
  go_wp2_with fail
  refine (HMA.out).mono ?_
  rintro e w3 ⟨rfl, rows', hd3, hm3, ho3, hf3⟩
  have HD3 := hide hd3
  have HM3 := hide hm3
  have HO3 := hide ((Only.of_below (F := fun k => ∃ s, blkOf' g rv av rows s = some k) hbw).trans ho3 (fun k h => Or.inl h))
  have HF3 := hide (show ∀ s b, blkOf' g rv av rows' s = some b → (∃ s, blkOf' g rv av rows s = some b) ∨ w.heap.size ≤ b from fun s b hb => (hf3 s b hb).imp id (fun h => by have := hbw.size; omega))
  have t5 := hd3.box.acts
  have hgl := hd3.box.lt
  have hbA : Below w3.heap.size w3 (w3.alloc (.cells #[.int .i64 3, .int .i64 level, .int .i64 level, .int .i64 0] 158)) := below_box w3 _
  have HOA := hide (hd3.acts.below hbA)
  have HNA := hide (Go.heap_alloc_new w3 (.cells #[.int .i64 3, .int .i64 level, .int .i64 level, .int .i64 0] 158))
  have HAG := hide (show ∀ b, av.ownBlock = some b → b ≠ g from fun b hb e => by subst e; cases HD3.out.parts.apart .box .acts b rfl hb)
  have HBX3 := hide hd3.box
  have hB0 := hd3.old.size
  clear hd3 hm3 ho3 hf3
  go_wp2_with (at_builtin; refine wpList_push rfl (.tmp 49) (.tmp 53) 76 rfl (.agg #[.int .i64 0, .int .i64 0, .int .i64 0, .int .i64 0]) 32 Tryz.underlying76 Tryz.infoRAct rfl (by decide) rfl HOA.out w3.heap.size 1 ⟨3, level, level, 0⟩ rfl 158 (0, 0) HNA.out rfl (by intro u hu; simp [actV] at hu; rcases hu with rfl | rfl | rfl <;> rfl) (by omega) (by decide) (by simp; omega) (w3.heap.size + 1) (by simp) ?_; intro g6 cap6 w6 hown6 hgrow6 hat6 hlt6; have z5 := (hgrow6.cell_far ⟨g, 5, none⟩ (by simp; omega) (fun e => HAG.out _ e.symm rfl)).trans ((hbA.cell (p := ⟨g, 5, none⟩) hgl).trans t5); have z7 : w6.frozen? ⟨g, 5, none⟩ = false := by (rw [hgrow6.frozen_far ⟨g, 5, none⟩ (by simp; omega) (fun e => HAG.out _ e.symm rfl)]; exact frozen_of_row _ _ _ _ _ (row_alloc' HBX3.out)))
  obtain ⟨n1, n2, n3⟩ := actStep HD3.out hbA hown6 hgrow6 (by have h : av.ownBlock = some g6 ∨ g6 = w3.heap.size + 1 := hat6; simpa using h) hlt6
  go_ret
  exact ⟨rfl, rows', _, n1, HM3.out, HO3.out.trans n2 (fun b ⟨s, hs⟩ => HF3.out s b hs), fun s b hb => by
    rcases n3 s b hb with ⟨s', hs⟩ | h
    · exact HF3.out s' b hs
    · right; have := HO3.out.size; omega⟩
end Go.Proofs.YthgcpjdlcooncaaGreat
namespace Go.Proofs.YthgcpjdlcooncaaGreat
open Go.RowKit Veil
def countB (c : Cfg) (a : RA) (d : Nat) : Bool := !(a.kind == 5) && c.le a.target d
def RAOk (c : Cfg) (a : RA) : Prop := a.kind ≠ 5 → ∃ t : Nat, a.target = t ∧ t < c.n
set_option maxRecDepth 100000 in
set_option maxHeartbeats 8000000 in
theorem rcounts_any (c : Cfg) (v : CfgV) (rv av : Value) (g d : Nat) (a : RA) (w : World) (hl : labelsB c = true) (hat : CfgAt w c v) (hbox : RBox w g c v rv av) (ha : RAOk c a) (hd : d < c.n) :
    Calls Tryz.prog 118 #[.pointer (some ⟨g, 0, none⟩), .agg #[.int .i64 a.kind, .int .i64 a.who, .int .i64 a.target, .int .i64 a.cells], .int .i64 d] w fun e w' => e = .returned (.bool (countB c a d)) ∧ Below w.heap.size w w' := by
  obtain ⟨kind, who, target, cells⟩ := a
  have hbx := below_box w (.cells #[.int .i64 kind, .int .i64 who, .int .i64 target, .int .i64 cells] 158)
  have hgl := hbox.lt
  have HBX := hide hbox
  by_cases hk : kind = 5
  · subst hk
    clear ha hat hl hbox
    go_enter Tryz.func118, Tryz.ntmps118
    go_wp2_with fail
    go_quiet (fail)
    go_wp2
    go_ret
    exact ⟨ret_bool (by simp [countB]), Below.drawn hbx _⟩
  · obtain ⟨t, ht, htn⟩ := ha hk
    simp only at ht
    subst ht
    have HLE := hide (rleq_any c v t d (w.alloc (.cells #[.int .i64 kind, .int .i64 who, .int .i64 t, .int .i64 cells] 158)).drew hl (hat.below hbx.drew) htn hd)
    have HCB := hide (show countB c ⟨kind, who, t, cells⟩ d = c.le t d by simp [countB, hk])
    have hk' : (kind == 5) = false := by simpa using hk
    have hk2 : (kind != 5) = true := by simpa using hk
    have HNA := hide (Go.heap_alloc_new w (.cells #[.int .i64 kind, .int .i64 who, .int .i64 t, .int .i64 cells] 158))
    have HGA := hide (HBX.out.below hbx hgl)
    obtain ⟨q0, q1, q2, q3⟩ := HGA.out.cells
    have b0 : (w.alloc (.cells #[.int .i64 kind, .int .i64 who, .int .i64 t, .int .i64 cells] 158)).cell? ⟨w.heap.size, 0, none⟩ = some (.int .i64 kind) := (cell_of_row _ _ _ _ _ _ HNA.out).trans rfl
    have b2 : (w.alloc (.cells #[.int .i64 kind, .int .i64 who, .int .i64 t, .int .i64 cells] 158)).cell? ⟨w.heap.size, 2, none⟩ = some (.int .i64 t) := (cell_of_row _ _ _ _ _ _ HNA.out).trans rfl
    unfold cfgCells at HLE
    clear ha hat hl hbox
    go_enter Tryz.func118, Tryz.ntmps118
    go_wp2_with fail
    first | (go_region_held (fun w' => w'.cell? ⟨w.heap.size, 0, none⟩ = some (.int .i64 kind) ∧ w'.cell? ⟨w.heap.size, 2, none⟩ = some (.int .i64 t) ∧ w'.cell? ⟨g, 0, none⟩ = some (.int .i64 c.labels) ∧ w'.cell? ⟨g, 1, none⟩ = some (.slice v.ea c.edges.length v.ec) ∧ w'.cell? ⟨g, 2, none⟩ = some (.slice v.ra c.rules.length v.rc) ∧ w'.cell? ⟨g, 3, none⟩ = some (.slice v.ga c.grants.length v.gc)) (go_keep) (first | (go_at_call 57; refine (HLE.out).mono ?_; rintro e w2 ⟨rfl, hb2⟩; obtain ⟨s0, s1, s2, s3⟩ := (show RBox w2 g c v rv av from Below.row hb2 HGA.out HGA.out.lt).cells; have s4 : w2.cell? ⟨w.heap.size, 0, none⟩ = some (.int .i64 kind) := (cell_of_row _ _ _ _ _ _ (Below.row hb2 HNA.out (lt_of_row HNA.out))).trans rfl; have s5 : w2.cell? ⟨w.heap.size, 2, none⟩ = some (.int .i64 t) := (cell_of_row _ _ _ _ _ _ (Below.row hb2 HNA.out (lt_of_row HNA.out))).trans rfl))) | fail "no"
    have hb := hbx.drew.trans (hb2.mono hbx.drew.size)
    go_wp2
    go_ret
    exact ⟨ret_bool HCB.out.symm, hb⟩
def verTo (c : Cfg) (acts : List RA) (d k : Nat) : Nat := ((acts.take k).filter fun a => countB c a d).length
theorem verTo_yes {c : Cfg} {acts : List RA} {d k : Nat} {a : RA} (h : acts[k]? = some a) (hc : countB c a d = true) : verTo c acts d (k + 1) = verTo c acts d k + 1 := by
  unfold verTo; rw [List.take_add_one, h]; simp [List.filter_append, hc]
theorem verTo_no {c : Cfg} {acts : List RA} {d k : Nat} {a : RA} (h : acts[k]? = some a) (hc : countB c a d = false) : verTo c acts d (k + 1) = verTo c acts d k := by
  unfold verTo; rw [List.take_add_one, h]; simp [List.filter_append, hc]
theorem verTo_le (c : Cfg) (acts : List RA) (d k : Nat) : verTo c acts d k ≤ k := by
  unfold verTo
  have h1 := List.length_filter_le (fun a => countB c a d) (acts.take k)
  have h2 : (acts.take k).length ≤ k := by simp; omega
  omega
set_option maxRecDepth 100000 in
set_option maxHeartbeats 8000000 in
theorem rversion_no (c : Cfg) (v : CfgV) (rv av : Value) (g : Nat) (level : Int) (w : World) (hbox : RBox w g c v rv av) (hlv : okL c.labels level = false) :
    Calls Tryz.prog 92 #[.pointer (some ⟨g, 0, none⟩), .int .i64 level] w fun e w' => e = .returned (.tuple #[.int .i64 0, .int .i64 6]) ∧ Below w.heap.size w w' := by
  have HLB := hide (fun w' => rlabel_any c v level w')
  obtain ⟨q0, q1, q2, q3⟩ := hbox.cells
  rw [hlv] at HLB
  unfold cfgCells at HLB
  clear hlv hbox
  go_enter Tryz.func92, Tryz.ntmps92
  go_wp2_with fail
  refine (HLB.out _).mono ?_
  rintro e w1 ⟨rfl, hb1⟩
  go_wp2
  go_ret2
  exact ⟨rfl, hb1⟩
set_option maxRecDepth 100000 in
set_option maxHeartbeats 8000000 in
theorem rversion_ok (w0 w : World) (g : Nat) (c : Cfg) (v : CfgV) (rows : List (RC × Value)) (acts : List RA) (rv av : Value) (level : Nat) (hdoc : RDocO w0 w g c v rows acts rv av) (hok : RDocOk c rows) (hlv : okL c.labels level = true) (hra : ∀ a, a ∈ acts → RAOk c a) (hal : acts.length ≤ 4000000000000) :
    Calls Tryz.prog 92 #[.pointer (some ⟨g, 0, none⟩), .int .i64 level] w fun e w' => e = .returned (.tuple #[.int .i64 (verTo c acts level acts.length), .int .i64 0]) ∧ Below w.heap.size w w' := by
  obtain ⟨_, _, _, _, hn, _, _⟩ := labels_of hok.labels
  obtain ⟨lv, hlv1, hlv2⟩ := okL_nat' hn hlv
  obtain rfl : level = lv := by omega
  have HLB := hide (fun w' => rlabel_any c v level w')
  have HCO := hide (fun (a : RA) (w' : World) (hb : Below w.heap.size w w') (ha : RAOk c a) => rcounts_any c v rv av g level a w' hok.labels (hdoc.read.cfg.below hb) (hdoc.box.below hb hdoc.box.lt) ha hlv2)
  obtain ⟨q0, q1, q2, q3⟩ := hdoc.box.cells
  have HBX := hide hdoc.box
  have hgl := hdoc.box.lt
  have HAC := hide hdoc.acts
  have HRA := hide hra
  rw [hlv] at HLB
  unfold cfgCells at HLB
  obtain ⟨aao, acap, haa⟩ := hdoc.acts.shape
  subst haa
  clear hlv hdoc hok hn hlv1 hlv2 hra
  go_enter Tryz.func92, Tryz.ntmps92
  go_wp2_with fail
  refine (HLB.out _).mono ?_
  rintro e w1 ⟨rfl, hb1⟩
  clear q0 q1 q2 q3
  go_wp2
  go_loopw [6, 7] (fun n i wr => ∃ k : Nat, k ≤ acts.length ∧ i = .int .i64 k ∧ n = .int .i64 (verTo c acts level k) ∧ Below w.heap.size w wr) (fun _ i _ => acts.length - (intOf i).toNat)
  case atStart => exact ⟨0, Nat.zero_le _, rfl, rfl, hb1⟩
  case round =>
    clear hb1
    obtain ⟨wo, rfl⟩ : ∃ x, x = wr := ⟨_, rfl⟩
    obtain ⟨k, hk, rfl, rfl, hbel⟩ := hrel
    have r5 := (HBX.out.below hbel hgl).acts
    have hle := verTo_le c acts level k
    by_cases hlt : k < acts.length
    · obtain ⟨ab, ac, hvv, _, hab⟩ := HAC.out.form (by omega)
      simp only [Value.slice.injEq] at hvv
      obtain ⟨rfl, _, rfl⟩ := hvv
      have hej : acts[k]? = some acts[k] := List.getElem?_eq_getElem hlt
      have c0 := HAC.out.cell (show ∀ a, (actV a).length = 4 from fun _ => rfl) rfl hej (j := 0) (by omega)
      have c1 := HAC.out.cell (show ∀ a, (actV a).length = 4 from fun _ => rfl) rfl hej (j := 1) (by omega)
      have c2 := HAC.out.cell (show ∀ a, (actV a).length = 4 from fun _ => rfl) rfl hej (j := 2) (by omega)
      have c3 := HAC.out.cell (show ∀ a, (actV a).length = 4 from fun _ => rfl) rfl hej (j := 3) (by omega)
      have HY := hide (fun h => verTo_yes (c := c) (d := level) hej h)
      have HN := hide (fun h => verTo_no (c := c) (d := level) hej h)
      have hao := HRA.out _ (List.getElem_mem hlt)
      generalize acts[k] = a at *
      have HC1 := hide (HCO.out a wo hbel hao)
      obtain ⟨kind, who, target, cells⟩ := a
      simp only at HC1
      have d0 : wo.cell? ⟨ab, k * 4, none⟩ = some (.int .i64 kind) := (hbel.cell (p := ⟨ab, k * 4, none⟩) hab).trans c0
      have d1 : wo.cell? ⟨ab, k * 4 + 1, none⟩ = some (.int .i64 who) := (hbel.cell (p := ⟨ab, k * 4 + 1, none⟩) hab).trans c1
      have d2 : wo.cell? ⟨ab, k * 4 + 2, none⟩ = some (.int .i64 target) := (hbel.cell (p := ⟨ab, k * 4 + 2, none⟩) hab).trans c2
      have d3 : wo.cell? ⟨ab, k * 4 + 3, none⟩ = some (.int .i64 cells) := (hbel.cell (p := ⟨ab, k * 4 + 3, none⟩) hab).trans c3
      have hki : (k : Int) < (acts.length : Int) := by omega
      clear c0 c1 c2 c3 hej hao
      go_wp2_with fail
      refine (HC1.out).mono ?_
      rintro e w2 ⟨rfl, hb2⟩
      have hbel2 := hbel.trans (hb2.mono hbel.size)
      clear hb2 d0 d1 d2 d3 r5
      cases hc : countB c ⟨kind, who, target, cells⟩ level
      · have HZ := hide (HN.out hc)
        clear hc
        go_wp2
        go_roundw
        case rel => exact ⟨k + 1, by omega, by go_num, by rw [HZ.out], hbel2⟩
        case measure => simp [intOf]; omega
      · have HZ := hide (HY.out hc)
        clear hc
        go_wp2
        go_roundw
        case rel => exact ⟨k + 1, by omega, by go_num, by rw [HZ.out]; go_num, hbel2⟩
        case measure => simp [intOf]; omega
    · obtain rfl : k = acts.length := by omega
      have hkc : decide ((acts.length : Int) < (acts.length : Int)) = false := by simp
      go_wp2
      go_ret2
      exact ⟨rfl, hbel⟩
end Go.Proofs.YthgcpjdlcooncaaGreat
