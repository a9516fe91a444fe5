/- DocN. -/
import Derived.Test.YthgcpjdlcooncaaGreatE11
import Derived.Deep.RegionHeldLaw
import Derived.Test.YthgcpjdlcooncaaGreatE07
namespace Go.Proofs.YthgcpjdlcooncaaGreat
open Go.RowKit Veil
theorem Tryz.infoRMark : (Tryz.prog.info? 165).map (fun i => (i.zero, i.size, i.bytes)) = some (some (.agg #[.int .i64 0, .int .i64 0, .int .i64 0]), 3, 24) := by kernel_rfl
theorem markAll_snoc (row : List RC) (L : List Nat) (m : Mk) (k r : Nat) (h : L[k]? = some r) : markAll row (L.take (k + 1)) m = markC (markAll row (L.take k) m) r m := by
  unfold markAll; exact foldl_snoc _ _ _ _ _ h
theorem markC_length (row : List RC) (r : Nat) (m : Mk) : (markC row r m).length = row.length := by simp [markC]
theorem markAll_length (row : List RC) (L : List Nat) (m : Mk) : (markAll row L m).length = row.length := by
  unfold markAll
  induction L generalizing row with
  | nil => rfl
  | cons a L ih => rw [List.foldl_cons, ih, markC_length]
theorem map_length_eq {rows rows' : List (RC × Value)} {L : List Nat} {m : Mk} (h : rows'.map (·.1) = markAll (rows.map (·.1)) L m) : rows'.length = rows.length := by
  have := congrArg List.length h
  rw [markAll_length] at this
  simpa using this
set_option maxRecDepth 100000 in
set_option maxHeartbeats 16000000 in
theorem rmark_any (w0 w : World) (g : Nat) (c : Cfg) (v : CfgV) (rows : List (RC × Value)) (acts : List RA) (rv av : Value) (L : List Nat) (lao : Option Addr) (lb lcap : Nat) (m : Mk) (hdoc : RDocO w0 w g c v rows acts rv av)
    (hlao : L = [] ∨ lao = some ⟨lb, 0, none⟩) (hll' : L ≠ [] → lb < w.heap.size) (hlap : L ≠ [] → ∀ s, blkOf' g rv av rows s ≠ some lb) (hL : ∀ (k r : Nat), L[k]? = some r → w.cell? ⟨lb, k, none⟩ = some (.int .i64 r) ∧ r < rows.length) (hlen : L.length ≤ 140737488355328)
    (hmk : ∀ (i : Nat) (p : RC × Value), rows[i]? = some p → p.1.marks.length + L.length ≤ 5000000000000) :
    Calls Tryz.prog 106 #[.pointer (some ⟨g, 0, none⟩), .slice lao L.length lcap, .agg #[.int .i64 m.kind, .int .i64 m.level, .int .i64 m.label]] w
      fun e w' => e = .returned (.tuple #[]) ∧ ∃ rows', RDocO w0 w' g c v rows' acts rv av ∧ rows'.map (·.1) = markAll (rows.map (·.1)) L m ∧ Only (fun k => ∃ s, blkOf' g rv av rows s = some k) w w' ∧ (∀ s b, blkOf' g rv av rows' s = some b → (∃ s, blkOf' g rv av rows s = some b) ∨ w.heap.size ≤ b) := by
  have HDOC := hide hdoc
  have HLA0 := hide hlap
  have HLL := hide hll'
  have HLO := hide hlao
  have HL := hide hL
  have HMK := hide hmk
  have hgl := hdoc.box.lt
  have hbM : Below w.heap.size w (w.alloc (.cells #[.int .i64 m.kind, .int .i64 m.level, .int .i64 m.label] 165)) := below_box w _
  have HBX := hide (Go.heap_alloc_new w (.cells #[.int .i64 m.kind, .int .i64 m.level, .int .i64 m.label] 165))
  have HFN := hide (show ∀ k, (∃ s, blkOf' g rv av rows s = some k) → w0.heap.size ≤ k ∧ k < w.heap.size from fun k ⟨s, hs⟩ => hdoc.parts.low s k hs)
  have HD0 := hide (hdoc.kept (F := fun _ => False) (Only.of_below hbM) (fun k h => absurd h (fun h => h)) (fun _ _ _ h => h))
  clear hdoc hlap hL hmk hll' hlao
  go_enter Tryz.func106, Tryz.ntmps106
  go_wp2
  go_loopw [6] (fun i wr => ∃ k : Nat, k ≤ L.length ∧ i = .int .i64 k ∧ ∃ rows', RDocO w0 wr g c v rows' acts rv av ∧ rows'.map (·.1) = markAll (rows.map (·.1)) (L.take k) m ∧ Only (fun k => ∃ s, blkOf' g rv av rows s = some k) (w.alloc (.cells #[.int .i64 m.kind, .int .i64 m.level, .int .i64 m.label] 165)) wr ∧ (∀ s b, blkOf' g rv av rows' s = some b → (∃ s, blkOf' g rv av rows s = some b) ∨ w.heap.size + 1 ≤ b) ∧ (∀ (i : Nat) (p : RC × Value), rows'[i]? = some p → p.1.marks.length + L.length ≤ 5000000000000 + k)) (fun i _ => L.length - (intOf i).toNat)
  case atStart => exact ⟨0, Nat.zero_le _, rfl, rows, HD0.out, rfl, Only.refl _ _, fun s b hb => Or.inl ⟨s, hb⟩, fun i p hp => HMK.out i p hp⟩
  case round =>
    obtain ⟨wo, rfl⟩ : ∃ x, x = wr := ⟨_, rfl⟩
    obtain ⟨k, hk, rfl, rows', hd, hmap, honly, hfoot, hmks⟩ := hrel
    have HD := hide hd
    have HMAP := hide hmap
    have HON := hide honly
    have HFO := hide hfoot
    have HMS := hide hmks
    have r4 := hd.box.row
    have hgo := hd.box.lt
    clear hd hmap honly hfoot hmks
    by_cases hlt : k < L.length
    · have hLne : L ≠ [] := fun e => by rw [e] at hlt; simp at hlt
      have hll := HLL.out hLne
      have HLA := hide (HLA0.out hLne)
      have hlo := HLO.out.resolve_left hLne
      subst hlo
      have hej : L[k]? = some L[k] := List.getElem?_eq_getElem hlt
      obtain ⟨c0, hrl⟩ := HL.out k _ hej
      have HSN := hide (markAll_snoc (rows.map (·.1)) L m k _ hej)
      generalize L[k] = r at *
      have hrl2 : r < rows'.length := by rw [map_length_eq HMAP.out]; exact hrl
      have hp : rows'[r]? = some rows'[r] := List.getElem?_eq_getElem hrl2
      obtain ⟨rb, cb, hrv, _, hrbl⟩ := HD.out.row.form (by omega)
      subst hrv
      have m2 := HD.out.row.cell (show ∀ a, (cellV a).length = 3 from fun _ => rfl) rfl hp (j := 2) (by omega)
      have HOWN := hide (HD.out.marks r _ hp)
      have hml := HMS.out r _ hp
      have HP := hide hp
      generalize rows'[r] = p at *
      obtain ⟨⟨xb, xo, xm⟩, mv⟩ := p
      simp only at hml
      have hlbN : lb ≠ w.heap.size := by omega
      have d0 : wo.cell? ⟨lb, k, none⟩ = some (.int .i64 r) := by
        have h1 := World.cell?_of_block (a := ⟨lb, k, none⟩) (HON.out.block lb (by simp; omega) (fun ⟨s, hs⟩ => HLA.out s hs))
        rw [h1]
        exact (hbM.cell (p := ⟨lb, k, none⟩) hll).trans c0
      have HBXo : Hid (wo.heap[w.heap.size]? = some (.cells #[.int .i64 m.kind, .int .i64 m.level, .int .i64 m.label] 165 (0, 0))) := (HON.out.block w.heap.size (by simp) (fun hs => by have := (HFN.out _ hs).2; omega)).trans HBX.out
      have x0 : wo.cell? ⟨w.heap.size, 0, none⟩ = some (.int .i64 m.kind) := (cell_of_row _ _ _ _ _ _ HBXo.out).trans rfl
      have x1 : wo.cell? ⟨w.heap.size, 1, none⟩ = some (.int .i64 m.level) := (cell_of_row _ _ _ _ _ _ HBXo.out).trans rfl
      have x2 : wo.cell? ⟨w.heap.size, 2, none⟩ = some (.int .i64 m.label) := (cell_of_row _ _ _ _ _ _ HBXo.out).trans rfl
      have m2' : wo.cell? ⟨rb, r * 3 + 2, none⟩ = some mv := m2
      have hki : (k : Int) < (L.length : Int) := by omega
      have hri : (r : Int) < (rows'.length : Int) := by omega
      have hlbo : lb < wo.heap.size := by have := HON.out.size; simp at this; omega
      have hbxo := lt_of_row HBXo.out
      have hrowp : blkOf' g (.slice (some ⟨rb, 0, none⟩) rows'.length cb) av rows' .row = some rb := rfl
      have hrg : rb ≠ g := fun e => by subst e; cases HD.out.parts.apart .row .box rb hrowp rfl
      have hrlb : rb ≠ lb := fun e => by
        rcases HFO.out .row rb hrowp with ⟨s, hs⟩ | h
        · exact HLA.out s (by rw [hs, e])
        · omega
      have hrm : rb ≠ w.heap.size := fun e => by
        rcases HFO.out .row rb hrowp with hs | h
        · have := (HFN.out _ hs).2; omega
        · omega
      have HMF := hide (show ∀ b, mv.ownBlock = some b → b ≠ g ∧ b ≠ rb ∧ b ≠ lb ∧ b ≠ w.heap.size from fun b hb => by
        have hmk : blkOf' g (.slice (some ⟨rb, 0, none⟩) rows'.length cb) av rows' (.mk r) = some b := by simp only [blkOf', HP.out, Option.bind_some]; exact hb
        refine ⟨fun e => ?_, fun e => ?_, fun e => ?_, fun e => ?_⟩
        · subst e; cases HD.out.parts.apart (.mk r) .box b hmk rfl
        · subst e; cases HD.out.parts.apart (.mk r) .row b hmk hrowp
        · rcases HFO.out (.mk r) b hmk with ⟨s, hs⟩ | h
          · exact HLA.out s (by rw [hs, e])
          · omega
        · rcases HFO.out (.mk r) b hmk with hs | h
          · have := (HFN.out _ hs).2; omega
          · omega)
      have hbA : Below wo.heap.size wo (wo.drew.alloc (.cells #[.int .i64 m.kind, .int .i64 m.level, .int .i64 m.label] 165)) := (below_drew wo).alloc (Nat.le_refl _) _
      have HOA := hide (HOWN.out.below hbA)
      have HNA := hide (Go.heap_alloc_new wo.drew (.cells #[.int .i64 m.kind, .int .i64 m.level, .int .i64 m.label] 165))
      have hB0 := HD.out.old.size
      clear hej hp m2 c0 hLne
      go_wp2_with fail
      refine wp_region_held_drew (S := (fun w' => w'.cell? ⟨g, 4, none⟩ = some (.slice (some ⟨rb, 0, none⟩) rows'.length cb) ∧ w'.cell? ⟨lb, k, none⟩ = some (.int .i64 r) ∧ w'.cell? ⟨w.heap.size, 0, none⟩ = some (.int .i64 m.kind) ∧ w'.cell? ⟨w.heap.size, 1, none⟩ = some (.int .i64 m.level) ∧ w'.cell? ⟨w.heap.size, 2, none⟩ = some (.int .i64 m.label))) (by kernel_rfl) ?_ (fun hHeld => ?_)
      · (try dsimp only); go_keep
      refine takeW 0 (some 13) ?_ rfl rfl (by kernel_rfl) (by kernel_rfl) (by kernel_rfl) (fun _ _ _ h => h) ?_ (by assumption) ?_
      rotate_left 1
      · (intro o ho w hSw; obtain rfl := Option.some.inj ho; clear ho; (try dsimp only at hSw); go_simp; try (with_reducible rfl))
      (try simp only [Act.put, List.setIfInBounds_toArray, List.set_cons_zero, List.set_cons_succ])
      refine takeW 1 (some 14) ?_ rfl rfl (by kernel_rfl) (by kernel_rfl) (by kernel_rfl) (fun _ _ _ h => h) ?_ (by assumption) ?_
      rotate_left 1
      · (intro o ho w hSw; obtain rfl := Option.some.inj ho; clear ho; (try dsimp only at hSw); go_simp; try (with_reducible rfl))
      (try simp only [Act.put, List.setIfInBounds_toArray, List.set_cons_zero, List.set_cons_succ])
      refine takeW 2 (some 15) ?_ rfl rfl (by kernel_rfl) (by kernel_rfl) (by kernel_rfl) (fun _ _ _ h => h) ?_ (by assumption) ?_
      rotate_left 1
      · (intro o ho w hSw; obtain rfl := Option.some.inj ho; clear ho; (try dsimp only at hSw); go_simp; try (with_reducible rfl))
      (try simp only [Act.put, List.setIfInBounds_toArray, List.set_cons_zero, List.set_cons_succ])
      refine takeW 3 (some 16) ?_ rfl rfl (by kernel_rfl) (by kernel_rfl) (by kernel_rfl) (fun _ _ _ h => h) ?_ (by assumption) ?_
      rotate_left 1
      · (intro o ho w hSw; obtain rfl := Option.some.inj ho; clear ho; (try dsimp only at hSw); go_simp; try (with_reducible rfl))
      (try simp only [Act.put, List.setIfInBounds_toArray, List.set_cons_zero, List.set_cons_succ])
      refine takeW 4 (some 17) ?_ rfl rfl (by kernel_rfl) (by kernel_rfl) (by kernel_rfl) (fun _ _ _ h => h) ?_ (by assumption) ?_
      rotate_left 1
      · (intro o ho w hSw; obtain rfl := Option.some.inj ho; clear ho; (try dsimp only at hSw); go_simp; try (with_reducible rfl))
      (try simp only [Act.put, List.setIfInBounds_toArray, List.set_cons_zero, List.set_cons_succ])
      refine takeW 5 (some 18) ?_ rfl rfl (by kernel_rfl) (by kernel_rfl) (by kernel_rfl) (fun _ _ _ h => h) ?_ (by assumption) ?_
      rotate_left 1
      · (intro o ho w hSw; obtain rfl := Option.some.inj ho; clear ho; (try dsimp only at hSw); go_simp; try (with_reducible rfl))
      (try simp only [Act.put, List.setIfInBounds_toArray, List.set_cons_zero, List.set_cons_succ])
      refine takeW 6 (some 19) ?_ rfl rfl (by kernel_rfl) (by kernel_rfl) (by kernel_rfl) (fun _ _ _ h => h) ?_ (by assumption) ?_
      rotate_left 1
      · (intro o ho w hSw; obtain rfl := Option.some.inj ho; clear ho; (try dsimp only at hSw); go_simp; try (with_reducible rfl))
      (try simp only [Act.put, List.setIfInBounds_toArray, List.set_cons_zero, List.set_cons_succ])
      refine takeW 7 (some 20) ?_ rfl rfl (by kernel_rfl) (by kernel_rfl) (by kernel_rfl) (fun _ _ _ h => h) ?_ (by assumption) ?_
      rotate_left 1
      · (intro o ho w hSw; obtain rfl := Option.some.inj ho; clear ho; (try dsimp only at hSw); go_simp; try (with_reducible rfl))
      (try simp only [Act.put, List.setIfInBounds_toArray, List.set_cons_zero, List.set_cons_succ])
      refine takeW 8 (some 21) ?_ rfl rfl (by kernel_rfl) (by kernel_rfl) (by kernel_rfl) (fun _ _ _ h => h) ?_ (by assumption) ?_
      rotate_left 1
      · (intro o ho w hSw; obtain rfl := Option.some.inj ho; clear ho; (try dsimp only at hSw); go_simp; try (with_reducible rfl))
      (try simp only [Act.put, List.setIfInBounds_toArray, List.set_cons_zero, List.set_cons_succ])
      refine takeW 9 (some 22) ?_ rfl rfl (by kernel_rfl) (by kernel_rfl) (by kernel_rfl) (fun _ _ _ h => h) ?_ (by assumption) ?_
      rotate_left 1
      · (intro o ho w hSw; obtain rfl := Option.some.inj ho; clear ho; (try dsimp only at hSw); go_simp; try (with_reducible rfl))
      (try simp only [Act.put, List.setIfInBounds_toArray, List.set_cons_zero, List.set_cons_succ])
      refine takeW 10 (some 23) ?_ rfl rfl (by kernel_rfl) (by kernel_rfl) (by kernel_rfl) (fun _ _ _ h => h) ?_ (by assumption) ?_
      rotate_left 1
      · (intro o ho w hSw; obtain rfl := Option.some.inj ho; clear ho; (try dsimp only at hSw); go_simp; try (with_reducible rfl))
      (try simp only [Act.put, List.setIfInBounds_toArray, List.set_cons_zero, List.set_cons_succ])
      refine takeW 11 (some 24) ?_ rfl rfl (by kernel_rfl) (by kernel_rfl) (by kernel_rfl) (fun _ _ _ h => h) ?_ (by assumption) ?_
      rotate_left 1
      · (intro o ho w hSw; obtain rfl := Option.some.inj ho; clear ho; (try dsimp only at hSw); go_simp; try (with_reducible rfl))
      (try simp only [Act.put, List.setIfInBounds_toArray, List.set_cons_zero, List.set_cons_succ])
      refine takeW 12 (some 25) ?_ rfl rfl (by kernel_rfl) (by kernel_rfl) (by kernel_rfl) (fun _ _ _ h => h) ?_ (by assumption) ?_
      rotate_left 1
      · (intro o ho w hSw; obtain rfl := Option.some.inj ho; clear ho; (try dsimp only at hSw); go_simp; try (with_reducible rfl))
      (try simp only [Act.put, List.setIfInBounds_toArray, List.set_cons_zero, List.set_cons_succ])
      refine takeW 13 (some 26) ?_ rfl rfl (by kernel_rfl) (by kernel_rfl) (by kernel_rfl) (fun _ _ _ h => h) ?_ (by assumption) ?_
      rotate_left 1
      · (intro o ho w hSw; obtain rfl := Option.some.inj ho; clear ho; (try dsimp only at hSw); go_simp; try (with_reducible rfl))
      (try simp only [Act.put, List.setIfInBounds_toArray, List.set_cons_zero, List.set_cons_succ])
      refine takeW 14 (some 27) ?_ rfl rfl (by kernel_rfl) (by kernel_rfl) (by kernel_rfl) (fun _ _ _ h => h) ?_ (by assumption) ?_
      rotate_left 1
      · (intro o ho w hSw; obtain rfl := Option.some.inj ho; clear ho; (try dsimp only at hSw); go_simp; try (with_reducible rfl))
      (try simp only [Act.put, List.setIfInBounds_toArray, List.set_cons_zero, List.set_cons_succ])
      refine takeW 15 (some 28) ?_ rfl rfl (by kernel_rfl) (by kernel_rfl) (by kernel_rfl) (fun _ _ _ h => h) ?_ (by assumption) ?_
      rotate_left 1
      · (intro o ho w hSw; obtain rfl := Option.some.inj ho; clear ho; (try dsimp only at hSw); go_simp; try (with_reducible rfl))
      (try simp only [Act.put, List.setIfInBounds_toArray, List.set_cons_zero, List.set_cons_succ])
      refine takeW 16 (some 29) ?_ rfl rfl (by kernel_rfl) (by kernel_rfl) (by kernel_rfl) (fun _ _ _ h => h) ?_ (by assumption) ?_
      rotate_left 1
      · (intro o ho w hSw; obtain rfl := Option.some.inj ho; clear ho; (try dsimp only at hSw); go_simp; try (with_reducible rfl))
      (try simp only [Act.put, List.setIfInBounds_toArray, List.set_cons_zero, List.set_cons_succ])
      refine takeW 17 (some 30) ?_ rfl rfl (by kernel_rfl) (by kernel_rfl) (by kernel_rfl) (fun _ _ _ h => h) ?_ (by assumption) ?_
      rotate_left 1
      · (intro o ho w hSw; obtain rfl := Option.some.inj ho; clear ho; (try dsimp only at hSw); go_simp; try (with_reducible rfl))
      (try simp only [Act.put, List.setIfInBounds_toArray, List.set_cons_zero, List.set_cons_succ])
      refine takeW 19 (some 32) ?_ rfl rfl (by kernel_rfl) (by kernel_rfl) (by kernel_rfl) (fun _ _ _ h => h) ?_ (by assumption) ?_
      rotate_left 1
      · (intro o ho w hSw; obtain rfl := Option.some.inj ho; clear ho; (try dsimp only at hSw); go_simp; try (with_reducible rfl))
      (try simp only [Act.put, List.setIfInBounds_toArray, List.set_cons_zero, List.set_cons_succ])
      refine wpAnyH_ready (rs := [18, 20]) (by kernel_rfl) (by simp) ?_
      refine AllReadyH.cons rfl (fun K hK => ?_) (AllReadyH.cons rfl (fun K hK => ?_) AllReadyH.nil)
      · go_simp
        refine hK.out _ _ ?_ (fun hHeld => ?_)
        · (try dsimp only); go_keep
        clear hK K
        refine wpAnyH_ready (rs := [20]) (by kernel_rfl) (by simp) ?_
        refine AllReadyH.cons rfl (fun K hK => ?_) AllReadyH.nil
        go_simp
        refine hK.out _ _ ?_ (fun hHeld => ?_)
        · (try dsimp only); go_keep
        clear hK K
        refine wpAnyH_ready (rs := [21]) (by kernel_rfl) (by simp) ?_
        refine AllReadyH.cons rfl (fun K hK => ?_) AllReadyH.nil
        refine step_push rfl (.tmp 31) (.tmp 33) 154 rfl (.agg #[.int .i64 0, .int .i64 0, .int .i64 0]) 24 Tryz.underlying154 Tryz.infoRMark rfl (by decide) rfl HOA.out wo.heap.size 1 m rfl 165 (0, 0) HNA.out rfl (by intro u hu; simp [markV] at hu; rcases hu with rfl | rfl | rfl <;> rfl) (by omega) (by decide) (by simp; omega) (wo.heap.size + 1) (by simp) ?_; intro g6 cap6 w6 hown6 hgrow6 hat6 hlt6; have z1 := (hgrow6.cell_far ⟨g, 4, none⟩ (by simp; omega) (fun e => (HMF.out _ e.symm).1 rfl)).trans ((hbA.cell (p := ⟨g, 4, none⟩) hgo).trans r4); have z2 := (hgrow6.cell_far ⟨lb, k, none⟩ (by simp; omega) (fun e => (HMF.out _ e.symm).2.2.1 rfl)).trans ((hbA.cell (p := ⟨lb, k, none⟩) hlbo).trans d0); have z3 := (hgrow6.cell_far ⟨w.heap.size, 0, none⟩ (by simp; omega) (fun e => (HMF.out _ e.symm).2.2.2 rfl)).trans ((hbA.cell (p := ⟨w.heap.size, 0, none⟩) hbxo).trans x0); have z4 := (hgrow6.cell_far ⟨w.heap.size, 1, none⟩ (by simp; omega) (fun e => (HMF.out _ e.symm).2.2.2 rfl)).trans ((hbA.cell (p := ⟨w.heap.size, 1, none⟩) hbxo).trans x1); have z5 := (hgrow6.cell_far ⟨w.heap.size, 2, none⟩ (by simp; omega) (fun e => (HMF.out _ e.symm).2.2.2 rfl)).trans ((hbA.cell (p := ⟨w.heap.size, 2, none⟩) hbxo).trans x2); have z6 := (hgrow6.cell_far ⟨rb, r * 3 + 2, none⟩ (by simp; omega) (fun e => (HMF.out _ e.symm).2.1 rfl)).trans ((hbA.cell (p := ⟨rb, r * 3 + 2, none⟩) hrbl).trans m2'); have z7 : w6.frozen? ⟨rb, r * 3 + 2, none⟩ = false := by (obtain ⟨_, _, _, hrw, _⟩ := HD.out.row.row (g := rb) rfl; rw [hgrow6.frozen_far ⟨rb, r * 3 + 2, none⟩ (by simp; omega) (fun e => (HMF.out _ e.symm).2.1 rfl)]; exact frozen_of_row _ _ _ _ _ (row_alloc' (o' := (.cells #[.int .i64 m.kind, .int .i64 m.level, .int .i64 m.label] 165)) (w := wo.drew) hrw))
        refine hK.out _ _ ?_ (fun hHeld => ?_)
        · (try dsimp only); go_keep
        clear hK K
        refine takeW 22 (some 35) ?_ rfl rfl (by kernel_rfl) (by kernel_rfl) (by kernel_rfl) (fun _ _ _ h => h) ?_ (by assumption) ?_
        rotate_left 1
        · (intro o ho w hSw; obtain rfl := Option.some.inj ho; clear ho; (try dsimp only at hSw); go_simp; try (with_reducible rfl))
        (try simp only [Act.put, List.setIfInBounds_toArray])
        refine takeW 23 (some 36) ?_ rfl rfl (by kernel_rfl) (by kernel_rfl) (by kernel_rfl) (fun _ _ _ h => h) ?_ (by assumption) ?_
        rotate_left 1
        · (intro o ho w hSw; obtain rfl := Option.some.inj ho; clear ho; (try dsimp only at hSw); go_simp; try (with_reducible rfl))
        (try simp only [Act.put])
        refine wpAnyH_ready (rs := [24]) (by kernel_rfl) (by simp) ?_
        refine AllReadyH.cons rfl (fun K hK => ?_) AllReadyH.nil
        go_simp
        refine hK.out _ _ ?_ (fun hHeld => ?_)
        · (try dsimp only); go_keep
        clear hK K
        refine wpAnyH_done (by kernel_rfl) ?_ _
        obtain ⟨n1, n2, n3⟩ := markStep (p := (⟨xb, xo, xm⟩, mv)) HD.out HP.out (rb := rb) rfl hbA hown6 hgrow6 (by have h : mv.ownBlock = some g6 ∨ g6 = wo.heap.size + 1 := hat6; simpa using h) hlt6
        have HN1 := hide n1
        have HN2 := hide (HON.out.trans n2 (fun b hs => by rcases hs with ⟨s, hs⟩; rcases HFO.out s b hs with h | h; exact Or.inl h; exact Or.inr (by simpa using h)))
        have HN3 := hide (show ∀ s b, blkOf' g (.slice (some ⟨rb, 0, none⟩) rows'.length cb) av (markAt rows' r m (.slice (some ⟨g6, 0, none⟩) (xm.length + 1) cap6)) s = some b → (∃ s, blkOf' g (.slice (some ⟨rb, 0, none⟩) rows'.length cb) av rows s = some b) ∨ w.heap.size + 1 ≤ b from fun s b hb => by rcases n3 s b hb with ⟨s', hs⟩ | h; exact HFO.out s' b hs; right; have := HON.out.size; simp at this; omega)
        have HN4 := hide (show ∀ (i : Nat) (p : RC × Value), (markAt rows' r m (.slice (some ⟨g6, 0, none⟩) (xm.length + 1) cap6))[i]? = some p → p.1.marks.length + L.length ≤ 5000000000000 + (k + 1) from fun i p hp => by
          obtain ⟨g1, g2⟩ := markAt_get (m := m) (mv := .slice (some ⟨g6, 0, none⟩) (xm.length + 1) cap6) HP.out
          by_cases hi : i = r
          · subst hi
            rw [g1] at hp
            obtain rfl := Option.some.inj hp
            simp only [List.length_append, List.length_singleton]
            omega
          · rw [g2 i hi] at hp
            have := HMS.out i p hp
            omega)
        have HN5 := hide (show (markAt rows' r m (.slice (some ⟨g6, 0, none⟩) (xm.length + 1) cap6)).map (·.1) = markAll (rows.map (·.1)) (L.take (k + 1)) m by rw [markAt_map, HMAP.out, HSN.out])
        clear n1 n2 n3
        go_wp2
        go_roundw
        case rel => exact ⟨k + 1, by omega, by go_num, _, HN1.out, HN5.out, HN2.out, HN3.out, HN4.out⟩
        case measure => simp [intOf]; omega
      · go_simp
        refine hK.out _ _ ?_ (fun hHeld => ?_)
        · (try dsimp only); go_keep
        clear hK K
        refine wpAnyH_ready (rs := [18]) (by kernel_rfl) (by simp) ?_
        refine AllReadyH.cons rfl (fun K hK => ?_) AllReadyH.nil
        go_simp
        refine hK.out _ _ ?_ (fun hHeld => ?_)
        · (try dsimp only); go_keep
        clear hK K
        refine wpAnyH_ready (rs := [21]) (by kernel_rfl) (by simp) ?_
        refine AllReadyH.cons rfl (fun K hK => ?_) AllReadyH.nil
        refine step_push rfl (.tmp 31) (.tmp 33) 154 rfl (.agg #[.int .i64 0, .int .i64 0, .int .i64 0]) 24 Tryz.underlying154 Tryz.infoRMark rfl (by decide) rfl HOA.out wo.heap.size 1 m rfl 165 (0, 0) HNA.out rfl (by intro u hu; simp [markV] at hu; rcases hu with rfl | rfl | rfl <;> rfl) (by omega) (by decide) (by simp; omega) (wo.heap.size + 1) (by simp) ?_; intro g6 cap6 w6 hown6 hgrow6 hat6 hlt6; have z1 := (hgrow6.cell_far ⟨g, 4, none⟩ (by simp; omega) (fun e => (HMF.out _ e.symm).1 rfl)).trans ((hbA.cell (p := ⟨g, 4, none⟩) hgo).trans r4); have z2 := (hgrow6.cell_far ⟨lb, k, none⟩ (by simp; omega) (fun e => (HMF.out _ e.symm).2.2.1 rfl)).trans ((hbA.cell (p := ⟨lb, k, none⟩) hlbo).trans d0); have z3 := (hgrow6.cell_far ⟨w.heap.size, 0, none⟩ (by simp; omega) (fun e => (HMF.out _ e.symm).2.2.2 rfl)).trans ((hbA.cell (p := ⟨w.heap.size, 0, none⟩) hbxo).trans x0); have z4 := (hgrow6.cell_far ⟨w.heap.size, 1, none⟩ (by simp; omega) (fun e => (HMF.out _ e.symm).2.2.2 rfl)).trans ((hbA.cell (p := ⟨w.heap.size, 1, none⟩) hbxo).trans x1); have z5 := (hgrow6.cell_far ⟨w.heap.size, 2, none⟩ (by simp; omega) (fun e => (HMF.out _ e.symm).2.2.2 rfl)).trans ((hbA.cell (p := ⟨w.heap.size, 2, none⟩) hbxo).trans x2); have z6 := (hgrow6.cell_far ⟨rb, r * 3 + 2, none⟩ (by simp; omega) (fun e => (HMF.out _ e.symm).2.1 rfl)).trans ((hbA.cell (p := ⟨rb, r * 3 + 2, none⟩) hrbl).trans m2'); have z7 : w6.frozen? ⟨rb, r * 3 + 2, none⟩ = false := by (obtain ⟨_, _, _, hrw, _⟩ := HD.out.row.row (g := rb) rfl; rw [hgrow6.frozen_far ⟨rb, r * 3 + 2, none⟩ (by simp; omega) (fun e => (HMF.out _ e.symm).2.1 rfl)]; exact frozen_of_row _ _ _ _ _ (row_alloc' (o' := (.cells #[.int .i64 m.kind, .int .i64 m.level, .int .i64 m.label] 165)) (w := wo.drew) hrw))
        refine hK.out _ _ ?_ (fun hHeld => ?_)
        · (try dsimp only); go_keep
        clear hK K
        refine takeW 22 (some 35) ?_ rfl rfl (by kernel_rfl) (by kernel_rfl) (by kernel_rfl) (fun _ _ _ h => h) ?_ (by assumption) ?_
        rotate_left 1
        · (intro o ho w hSw; obtain rfl := Option.some.inj ho; clear ho; (try dsimp only at hSw); go_simp; try (with_reducible rfl))
        (try simp only [Act.put, List.setIfInBounds_toArray])
        refine takeW 23 (some 36) ?_ rfl rfl (by kernel_rfl) (by kernel_rfl) (by kernel_rfl) (fun _ _ _ h => h) ?_ (by assumption) ?_
        rotate_left 1
        · (intro o ho w hSw; obtain rfl := Option.some.inj ho; clear ho; (try dsimp only at hSw); go_simp; try (with_reducible rfl))
        (try simp only [Act.put])
        refine wpAnyH_ready (rs := [24]) (by kernel_rfl) (by simp) ?_
        refine AllReadyH.cons rfl (fun K hK => ?_) AllReadyH.nil
        go_simp
        refine hK.out _ _ ?_ (fun hHeld => ?_)
        · (try dsimp only); go_keep
        clear hK K
        refine wpAnyH_done (by kernel_rfl) ?_ _
        obtain ⟨n1, n2, n3⟩ := markStep (p := (⟨xb, xo, xm⟩, mv)) HD.out HP.out (rb := rb) rfl hbA hown6 hgrow6 (by have h : mv.ownBlock = some g6 ∨ g6 = wo.heap.size + 1 := hat6; simpa using h) hlt6
        have HN1 := hide n1
        have HN2 := hide (HON.out.trans n2 (fun b hs => by rcases hs with ⟨s, hs⟩; rcases HFO.out s b hs with h | h; exact Or.inl h; exact Or.inr (by simpa using h)))
        have HN3 := hide (show ∀ s b, blkOf' g (.slice (some ⟨rb, 0, none⟩) rows'.length cb) av (markAt rows' r m (.slice (some ⟨g6, 0, none⟩) (xm.length + 1) cap6)) s = some b → (∃ s, blkOf' g (.slice (some ⟨rb, 0, none⟩) rows'.length cb) av rows s = some b) ∨ w.heap.size + 1 ≤ b from fun s b hb => by rcases n3 s b hb with ⟨s', hs⟩ | h; exact HFO.out s' b hs; right; have := HON.out.size; simp at this; omega)
        have HN4 := hide (show ∀ (i : Nat) (p : RC × Value), (markAt rows' r m (.slice (some ⟨g6, 0, none⟩) (xm.length + 1) cap6))[i]? = some p → p.1.marks.length + L.length ≤ 5000000000000 + (k + 1) from fun i p hp => by
          obtain ⟨g1, g2⟩ := markAt_get (m := m) (mv := .slice (some ⟨g6, 0, none⟩) (xm.length + 1) cap6) HP.out
          by_cases hi : i = r
          · subst hi
            rw [g1] at hp
            obtain rfl := Option.some.inj hp
            simp only [List.length_append, List.length_singleton]
            omega
          · rw [g2 i hi] at hp
            have := HMS.out i p hp
            omega)
        have HN5 := hide (show (markAt rows' r m (.slice (some ⟨g6, 0, none⟩) (xm.length + 1) cap6)).map (·.1) = markAll (rows.map (·.1)) (L.take (k + 1)) m by rw [markAt_map, HMAP.out, HSN.out])
        clear n1 n2 n3
        go_wp2
        go_roundw
        case rel => exact ⟨k + 1, by omega, by go_num, _, HN1.out, HN5.out, HN2.out, HN3.out, HN4.out⟩
        case measure => simp [intOf]; omega
    · obtain rfl : k = L.length := by omega
      have hkc : decide ((L.length : Int) < (L.length : Int)) = false := by simp
      have HM2 := hide (show rows'.map (·.1) = markAll (rows.map (·.1)) L m by rw [HMAP.out, List.take_length])
      have HO2 := hide ((Only.of_below (F := fun k => ∃ s, blkOf' g rv av rows s = some k) hbM).trans HON.out (fun k h => Or.inl h))
      go_wp2
      go_end0
      exact ⟨rfl, rows', HD.out, HM2.out, HO2.out, fun s b hb => (HFO.out s b hb).imp id (fun h => by omega)⟩
end Go.Proofs.YthgcpjdlcooncaaGreat
