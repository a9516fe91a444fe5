/- Row2, Row3. -/
import Derived.Test.YthgcpjdlcooncaaGreatE31
import Derived.Test.YthgcpjdlcooncaaGreatE07
namespace Go.Proofs.YthgcpjdlcooncaaGreat
open Go.RowKit Veil
theorem exec_load_ord {w : World} {g q n : Nat} {f : Nat → Nat → Bool} {ev : Operand → Value} {o : Oper} {x : Operand} (ho : o.op = .load 102 x) (hx : ev x = .pointer (some ⟨g, q, none⟩)) (hp : partIs w g q 37) (ha : partAt w g q 37 = ordC n f) : (execOp ev o).run Tryz.prog w = .ok (.value (.agg (ordC n f))) w := by
  obtain ⟨cs, t', h1, h2⟩ := hp
  have hr : w.rangeAt g q (ordC n f).toList := by
    have := World.rangeAt_of_block h1 q 37
    rw [← ha]
    unfold partAt
    rw [rowAt_mk h1]
    exact this
  have hl := run_loadVar_mid (P := Tryz.prog) w g q 102 (ordC n f).toList _ hr Tryz.underlying102 rfl (by rw [Tryz.sizeOrder, Array.length_toList, ordC_size])
  unfold execOp
  simp only [ho, hx, Instr.loadAt, Instr.sureAddr, Sem.run_bind, Sem.run_pure, Result.andThen_ok, hl, Array.toArray_toList]
/-- Is a cell there for a level? -/
def thereP (n : Nat) (f : Nat → Nat → Bool) (o : Nat) (G : Nat → Bool) (lv : Nat) : Bool := leO n f o lv && !G lv
set_option maxRecDepth 100000 in
set_option maxHeartbeats 8000000 in
theorem isThere_any (b o : Nat) (G : Nat → Bool) (L : Nat → Nat) (F : Nat → Bool) (g q n : Nat) (f : Nat → Nat → Bool) (pv : Value) (lv : Nat) (w : World) (hr : PRowAt w g q n f pv) (hn : n ≤ 6) (hq : 0 < q) :
    Calls Tryz.prog 140 #[.pointer (some ⟨g, q, none⟩), .agg (cellG b o G L F).toArray, .int .i64 lv] w fun e w' => e = .returned (.bool (thereP n f o G lv)) ∧ Below w.heap.size w w' := by
  have HA1 := hide (cell_new w b o G L F)
  have hb1 := below_box w (.cells (cellG b o G L F).toArray 188)
  have HR := hide hr
  have hgl := hr.lt
  have HR1 := hide (show PRowAt (w.alloc (.cells (cellG b o G L F).toArray 188)).drew g q n f pv from HR.out.below hb1.drew hgl)
  have i0 := HR1.out.is
  have a0 := HR1.out.at
  have o0 := HA1.out.origin
  have HQ1 := hide (oleq_any n f o lv ((w.alloc (.cells (cellG b o G L F).toArray 188)).drew) hn)
  have HD := hide (show thereP n f o G lv = (leO n f o lv && !G lv) from rfl)
  have hlt1 := HR1.out.lt
  have hw1 : w.heap.size < (w.alloc (.cells (cellG b o G L F).toArray 188)).heap.size := by simp
  clear hr
  cases hle : leO n f o lv
  · rw [hle] at HQ1 HD
    clear hle
    go_enter Tryz.func140, Tryz.ntmps140
    go_wp2_with fail
    refine wp_region_held_drew (S := (fun w' => (partIs w' g q 37 ∧ partAt w' g q 37 = ordC n f) ∧ w'.cell? ⟨w.heap.size, 1, none⟩ = some (.int .i64 o))) (by kernel_rfl) ?_ (fun hHeld => ?_)
    · exact ⟨⟨i0, a0⟩, o0⟩
    refine takeW 0 (some 7) ?_ rfl rfl (by kernel_rfl) (by kernel_rfl) (by kernel_rfl) (fun _ _ _ h => h) ?_ (by assumption) ?_
    rotate_left 1
    · (intro o ho w hSw; obtain rfl := Option.some.inj ho; clear ho; (try dsimp only at hSw); go_simp; try (with_reducible rfl))
    (try simp only [Act.put, List.setIfInBounds_toArray, List.set_cons_zero, List.set_cons_succ])
    refine takeW 1 (some 8) ?_ rfl rfl (by kernel_rfl) (by kernel_rfl) (by kernel_rfl) (fun _ _ _ h => h) ?_ (by assumption) ?_
    rotate_left 1
    · (intro o ho w hSw; obtain rfl := Option.some.inj ho; clear ho; (try dsimp only at hSw); go_simp; try (with_reducible rfl))
    (try simp only [Act.put, List.setIfInBounds_toArray, List.set_cons_zero, List.set_cons_succ])
    refine takeW 2 (some 9) ?_ rfl rfl (by kernel_rfl) (by kernel_rfl) (by kernel_rfl) (fun _ _ _ h => h) ?_ (by assumption) ?_
    rotate_left 1
    · (intro o ho w hSw; obtain rfl := Option.some.inj ho; clear ho; (try dsimp only at hSw); go_simp; try (with_reducible rfl))
    (try simp only [Act.put, List.setIfInBounds_toArray, List.set_cons_zero, List.set_cons_succ])
    refine takeW 3 (some 10) (.agg (ordC n f)) rfl rfl (by kernel_rfl) (by kernel_rfl) (by kernel_rfl) (fun _ _ _ h => h) ?_ (by assumption) ?_
    · (intro o ho w hSw; obtain rfl := Option.some.inj ho; clear ho; exact exec_load_ord rfl rfl hSw.1.1 hSw.1.2)
    (try simp only [Act.put, List.setIfInBounds_toArray, List.set_cons_zero, List.set_cons_succ])
    refine takeW 4 (some 11) ?_ rfl rfl (by kernel_rfl) (by kernel_rfl) (by kernel_rfl) (fun _ _ _ h => h) ?_ (by assumption) ?_
    rotate_left 1
    · (intro o ho w hSw; obtain rfl := Option.some.inj ho; clear ho; (try dsimp only at hSw); go_simp; try (with_reducible rfl))
    (try simp only [Act.put, List.setIfInBounds_toArray, List.set_cons_zero, List.set_cons_succ])
    refine takeW 5 (some 12) ?_ rfl rfl (by kernel_rfl) (by kernel_rfl) (by kernel_rfl) (fun _ _ _ h => h) ?_ (by assumption) ?_
    rotate_left 1
    · (intro o ho w hSw; obtain rfl := Option.some.inj ho; clear ho; (try dsimp only at hSw); go_simp; try (with_reducible rfl))
    (try simp only [Act.put, List.setIfInBounds_toArray, List.set_cons_zero, List.set_cons_succ])
    refine takeW 6 (some 13) ?_ rfl rfl (by kernel_rfl) (by kernel_rfl) (by kernel_rfl) (fun _ _ _ h => h) ?_ (by assumption) ?_
    rotate_left 1
    · (intro o ho w hSw; obtain rfl := Option.some.inj ho; clear ho; (try dsimp only at hSw); go_simp; try (with_reducible rfl))
    (try simp only [Act.put, List.setIfInBounds_toArray, List.set_cons_zero, List.set_cons_succ])
    refine wpAnyH_ready (rs := [7]) (by kernel_rfl) (by simp) ?_
    refine AllReadyH.cons rfl (fun K hK => ?_) AllReadyH.nil
    go_simp
    go_wp2_with (go_at_call 66; refine (HQ1.out).mono ?_; rintro e w3 ⟨rfl, hb3⟩; have HR3 := hide (HR1.out.below hb3 hlt1); have i3 := HR3.out.is; have a3 := HR3.out.at; have o3 := (hb3.cell (p := ⟨w.heap.size, 1, none⟩) hw1).trans o0)
    refine hK.out _ _ ?_ (fun hHeld => ?_)
    · exact ⟨⟨i3, a3⟩, o3⟩
    clear hK K
    refine takeW 8 (some 15) ?_ rfl rfl (by kernel_rfl) (by kernel_rfl) (by kernel_rfl) (fun _ _ _ h => h) ?_ (by assumption) ?_
    rotate_left 1
    · (intro o ho w hSw; obtain rfl := Option.some.inj ho; clear ho; (try dsimp only at hSw); go_simp; try (with_reducible rfl))
    (try simp only [Act.put, List.setIfInBounds_toArray, List.set_cons_zero, List.set_cons_succ])
    refine takeU 9 (some 16) rfl rfl (by kernel_rfl) (by kernel_rfl) (by kernel_rfl) (fun _ _ _ h => h) (by assumption) ?_
    (try simp only [Act.put, List.setIfInBounds_toArray, List.set_cons_zero, List.set_cons_succ])
    refine takeU 10 (some 17) rfl rfl (by kernel_rfl) (by kernel_rfl) (by kernel_rfl) (fun _ _ _ h => h) (by assumption) ?_
    (try simp only [Act.put, List.setIfInBounds_toArray, List.set_cons_zero, List.set_cons_succ])
    refine takeU 11 (some 18) rfl rfl (by kernel_rfl) (by kernel_rfl) (by kernel_rfl) (fun _ _ _ h => h) (by assumption) ?_
    (try simp only [Act.put, List.setIfInBounds_toArray, List.set_cons_zero, List.set_cons_succ])
    refine takeU 12 (some 19) rfl rfl (by kernel_rfl) (by kernel_rfl) (by kernel_rfl) (fun _ _ _ h => h) (by assumption) ?_
    (try simp only [Act.put, List.setIfInBounds_toArray, List.set_cons_zero, List.set_cons_succ])
    refine takeU 13 (some 20) rfl rfl (by kernel_rfl) (by kernel_rfl) (by kernel_rfl) (fun _ _ _ h => h) (by assumption) ?_
    (try simp only [Act.put, List.setIfInBounds_toArray, List.set_cons_zero, List.set_cons_succ])
    refine takeU 14 (some 21) rfl rfl (by kernel_rfl) (by kernel_rfl) (by kernel_rfl) (fun _ _ _ h => h) (by assumption) ?_
    (try simp only [Act.put, List.setIfInBounds_toArray, List.set_cons_zero, List.set_cons_succ])
    refine takeW 15 (some 22) ?_ rfl rfl (by kernel_rfl) (by kernel_rfl) (by kernel_rfl) (fun _ _ _ h => h) ?_ (by assumption) ?_
    rotate_left 1
    · (intro o ho w hSw; obtain rfl := Option.some.inj ho; clear ho; (try dsimp only at hSw); go_simp; try (with_reducible rfl))
    (try simp only [Act.put, List.setIfInBounds_toArray, List.set_cons_zero, List.set_cons_succ])
    refine takeW 16 (some 6) ?_ rfl rfl (by kernel_rfl) (by kernel_rfl) (by kernel_rfl) (fun _ _ _ h => h) ?_ (by assumption) ?_
    rotate_left 1
    · (intro o ho w hSw; obtain rfl := Option.some.inj ho; clear ho; (try dsimp only at hSw); go_simp; try (with_reducible rfl))
    (try simp only [Act.put, List.setIfInBounds_toArray, List.set_cons_zero, List.set_cons_succ])
    refine wpAnyH_done (by kernel_rfl) ?_ _
    have hbel3 := hb1.drew.trans (hb3.mono hb1.drew.size)
    go_wp2
    go_ret
    exact ⟨ret_bool (by rw [HD.out]; rfl), hbel3⟩
  · have hlv6 : lv < 6 := by
      unfold leO okL at hle
      simp only [Bool.and_eq_true, decide_eq_true_eq] at hle
      omega
    have hli : (lv : Int) < 6 := by omega
    rw [hle] at HQ1 HD
    have g0 := HA1.out.gone lv hlv6
    clear hle
    go_enter Tryz.func140, Tryz.ntmps140
    go_wp2_with fail
    refine wp_region_held_drew (S := (fun w' => ((partIs w' g q 37 ∧ partAt w' g q 37 = ordC n f) ∧ w'.cell? ⟨w.heap.size, 1, none⟩ = some (.int .i64 o)) ∧ w'.cell? ⟨w.heap.size, 2 + lv * 3, none⟩ = some (.bool (G lv)))) (by kernel_rfl) ?_ (fun hHeld => ?_)
    · exact ⟨⟨⟨i0, a0⟩, o0⟩, g0⟩
    refine takeW 0 (some 7) ?_ rfl rfl (by kernel_rfl) (by kernel_rfl) (by kernel_rfl) (fun _ _ _ h => h) ?_ (by assumption) ?_
    rotate_left 1
    · (intro o ho w hSw; obtain rfl := Option.some.inj ho; clear ho; (try dsimp only at hSw); go_simp; try (with_reducible rfl))
    (try simp only [Act.put, List.setIfInBounds_toArray, List.set_cons_zero, List.set_cons_succ])
    refine takeW 1 (some 8) ?_ rfl rfl (by kernel_rfl) (by kernel_rfl) (by kernel_rfl) (fun _ _ _ h => h) ?_ (by assumption) ?_
    rotate_left 1
    · (intro o ho w hSw; obtain rfl := Option.some.inj ho; clear ho; (try dsimp only at hSw); go_simp; try (with_reducible rfl))
    (try simp only [Act.put, List.setIfInBounds_toArray, List.set_cons_zero, List.set_cons_succ])
    refine takeW 2 (some 9) ?_ rfl rfl (by kernel_rfl) (by kernel_rfl) (by kernel_rfl) (fun _ _ _ h => h) ?_ (by assumption) ?_
    rotate_left 1
    · (intro o ho w hSw; obtain rfl := Option.some.inj ho; clear ho; (try dsimp only at hSw); go_simp; try (with_reducible rfl))
    (try simp only [Act.put, List.setIfInBounds_toArray, List.set_cons_zero, List.set_cons_succ])
    refine takeW 3 (some 10) (.agg (ordC n f)) rfl rfl (by kernel_rfl) (by kernel_rfl) (by kernel_rfl) (fun _ _ _ h => h) ?_ (by assumption) ?_
    · (intro o ho w hSw; obtain rfl := Option.some.inj ho; clear ho; exact exec_load_ord rfl rfl hSw.1.1.1 hSw.1.1.2)
    (try simp only [Act.put, List.setIfInBounds_toArray, List.set_cons_zero, List.set_cons_succ])
    refine takeW 4 (some 11) ?_ rfl rfl (by kernel_rfl) (by kernel_rfl) (by kernel_rfl) (fun _ _ _ h => h) ?_ (by assumption) ?_
    rotate_left 1
    · (intro o ho w hSw; obtain rfl := Option.some.inj ho; clear ho; (try dsimp only at hSw); go_simp; try (with_reducible rfl))
    (try simp only [Act.put, List.setIfInBounds_toArray, List.set_cons_zero, List.set_cons_succ])
    refine takeW 5 (some 12) ?_ rfl rfl (by kernel_rfl) (by kernel_rfl) (by kernel_rfl) (fun _ _ _ h => h) ?_ (by assumption) ?_
    rotate_left 1
    · (intro o ho w hSw; obtain rfl := Option.some.inj ho; clear ho; (try dsimp only at hSw); go_simp; try (with_reducible rfl))
    (try simp only [Act.put, List.setIfInBounds_toArray, List.set_cons_zero, List.set_cons_succ])
    refine takeW 6 (some 13) ?_ rfl rfl (by kernel_rfl) (by kernel_rfl) (by kernel_rfl) (fun _ _ _ h => h) ?_ (by assumption) ?_
    rotate_left 1
    · (intro o ho w hSw; obtain rfl := Option.some.inj ho; clear ho; (try dsimp only at hSw); go_simp; try (with_reducible rfl))
    (try simp only [Act.put, List.setIfInBounds_toArray, List.set_cons_zero, List.set_cons_succ])
    refine wpAnyH_ready (rs := [7]) (by kernel_rfl) (by simp) ?_
    refine AllReadyH.cons rfl (fun K hK => ?_) AllReadyH.nil
    go_simp
    go_wp2_with (go_at_call 66; refine (HQ1.out).mono ?_; rintro e w3 ⟨rfl, hb3⟩; have HR3 := hide (HR1.out.below hb3 hlt1); have i3 := HR3.out.is; have a3 := HR3.out.at; have o3 := (hb3.cell (p := ⟨w.heap.size, 1, none⟩) hw1).trans o0; have g3 := (hb3.cell (p := ⟨w.heap.size, 2 + lv * 3, none⟩) hw1).trans g0)
    refine hK.out _ _ ?_ (fun hHeld => ?_)
    · exact ⟨⟨⟨i3, a3⟩, o3⟩, g3⟩
    clear hK K
    refine takeW 8 (some 15) ?_ rfl rfl (by kernel_rfl) (by kernel_rfl) (by kernel_rfl) (fun _ _ _ h => h) ?_ (by assumption) ?_
    rotate_left 1
    · (intro o ho w hSw; obtain rfl := Option.some.inj ho; clear ho; (try dsimp only at hSw); go_simp; try (with_reducible rfl))
    (try simp only [Act.put, List.setIfInBounds_toArray, List.set_cons_zero, List.set_cons_succ])
    refine takeW 9 (some 16) ?_ rfl rfl (by kernel_rfl) (by kernel_rfl) (by kernel_rfl) (fun _ _ _ h => h) ?_ (by assumption) ?_
    rotate_left 1
    · (intro o ho w hSw; obtain rfl := Option.some.inj ho; clear ho; (try dsimp only at hSw); go_simp; try (with_reducible rfl))
    (try simp only [Act.put, List.setIfInBounds_toArray, List.set_cons_zero, List.set_cons_succ])
    refine takeW 10 (some 17) ?_ rfl rfl (by kernel_rfl) (by kernel_rfl) (by kernel_rfl) (fun _ _ _ h => h) ?_ (by assumption) ?_
    rotate_left 1
    · (intro o ho w hSw; obtain rfl := Option.some.inj ho; clear ho; (try dsimp only at hSw); go_simp; try (with_reducible rfl))
    (try simp only [Act.put, List.setIfInBounds_toArray, List.set_cons_zero, List.set_cons_succ])
    refine takeW 11 (some 18) ?_ rfl rfl (by kernel_rfl) (by kernel_rfl) (by kernel_rfl) (fun _ _ _ h => h) ?_ (by assumption) ?_
    rotate_left 1
    · (intro o ho w hSw; obtain rfl := Option.some.inj ho; clear ho; (try dsimp only at hSw); go_simp; try (with_reducible rfl))
    (try simp only [Act.put, List.setIfInBounds_toArray, List.set_cons_zero, List.set_cons_succ])
    refine takeW 12 (some 19) ?_ rfl rfl (by kernel_rfl) (by kernel_rfl) (by kernel_rfl) (fun _ _ _ h => h) ?_ (by assumption) ?_
    rotate_left 1
    · (intro o ho w hSw; obtain rfl := Option.some.inj ho; clear ho; (try dsimp only at hSw); go_simp; try (with_reducible rfl))
    (try simp only [Act.put, List.setIfInBounds_toArray, List.set_cons_zero, List.set_cons_succ])
    refine takeW 13 (some 20) ?_ rfl rfl (by kernel_rfl) (by kernel_rfl) (by kernel_rfl) (fun _ _ _ h => h) ?_ (by assumption) ?_
    rotate_left 1
    · (intro o ho w hSw; obtain rfl := Option.some.inj ho; clear ho; (try dsimp only at hSw); go_simp; try (with_reducible rfl))
    (try simp only [Act.put, List.setIfInBounds_toArray, List.set_cons_zero, List.set_cons_succ])
    refine takeW 14 (some 21) ?_ rfl rfl (by kernel_rfl) (by kernel_rfl) (by kernel_rfl) (fun _ _ _ h => h) ?_ (by assumption) ?_
    rotate_left 1
    · (intro o ho w hSw; obtain rfl := Option.some.inj ho; clear ho; (try dsimp only at hSw); go_simp; try (with_reducible rfl))
    (try simp only [Act.put, List.setIfInBounds_toArray, List.set_cons_zero, List.set_cons_succ])
    refine takeW 15 (some 22) ?_ rfl rfl (by kernel_rfl) (by kernel_rfl) (by kernel_rfl) (fun _ _ _ h => h) ?_ (by assumption) ?_
    rotate_left 1
    · (intro o ho w hSw; obtain rfl := Option.some.inj ho; clear ho; (try dsimp only at hSw); go_simp; try (with_reducible rfl))
    (try simp only [Act.put, List.setIfInBounds_toArray, List.set_cons_zero, List.set_cons_succ])
    refine takeW 16 (some 6) ?_ rfl rfl (by kernel_rfl) (by kernel_rfl) (by kernel_rfl) (fun _ _ _ h => h) ?_ (by assumption) ?_
    rotate_left 1
    · (intro o ho w hSw; obtain rfl := Option.some.inj ho; clear ho; (try dsimp only at hSw); go_simp; try (with_reducible rfl))
    (try simp only [Act.put, List.setIfInBounds_toArray, List.set_cons_zero, List.set_cons_succ])
    refine wpAnyH_done (by kernel_rfl) ?_ _
    have hbel3 := hb1.drew.trans (hb3.mono hb1.drew.size)
    go_wp2
    go_ret
    exact ⟨ret_bool (by rw [HD.out]; simp), hbel3⟩
end Go.Proofs.YthgcpjdlcooncaaGreat
namespace Go.Proofs.YthgcpjdlcooncaaGreat
open Go.RowKit Veil
set_option maxRecDepth 100000 in
set_option maxHeartbeats 8000000 in
theorem released_any (b o : Nat) (G : Nat → Bool) (L : Nat → Nat) (F : Nat → Bool) (g q n : Nat) (f : Nat → Nat → Bool) (pv : Value) (lv : Nat) (w : World) (hr : PRowAt w g q n f pv) (hn : n ≤ 6) (hq : 0 < q) :
    Calls Tryz.prog 138 #[.pointer (some ⟨g, q, none⟩), .agg (cellG b o G L F).toArray, .int .i64 lv] w fun e w' => e = .returned (.agg (cellG b o G (upL (leD n f lv) (fun _ => o) L 6) (upK (leD n f lv) true F 6)).toArray) ∧ Below w.heap.size w w' := by
  have HA1 := hide (cell_new w b o G L F)
  have hb1 := below_box w (.cells (cellG b o G L F).toArray 188)
  have HA2 := hide (cell_new (w.alloc (.cells (cellG b o G L F).toArray 188)) 0 0 noB noL noB)
  have hs1 : (w.alloc (.cells (cellG b o G L F).toArray 188)).heap.size = w.heap.size + 1 := by simp
  rw [hs1] at HA2
  have hb2 : Below w.heap.size w ((w.alloc (.cells (cellG b o G L F).toArray 188)).alloc (.cells (cellG 0 0 noB noL noB).toArray 188)) := hb1.alloc hb1.size _
  have HA3 : Hid (CellAt ((w.alloc (.cells (cellG b o G L F).toArray 188)).alloc (.cells (cellG 0 0 noB noL noB).toArray 188)) w.heap.size b o G L F) := row_alloc' HA1.out
  have HLQ := hide (fun (d : Nat) (w' : World) => oleq_any n f lv d w' hn)
  have HR := hide hr
  have hgl := hr.lt
  clear hb1 hs1 hr
  go_enter Tryz.func138, Tryz.ntmps138
  go_wp2_with (first | (refine wpList_alloc_cell rfl rfl ?_))
  go_loopw [7] (fun i wr => ∃ k : Nat, k ≤ 6 ∧ i = .int .i64 k ∧ CellAt wr w.heap.size b o G (upL (leD n f lv) (fun _ => o) L k) (upK (leD n f lv) true F k) ∧ CellAt wr (w.heap.size + 1) 0 0 noB noL noB ∧ Below w.heap.size w wr) (fun i _ => 6 - (intOf i).toNat)
  case atStart => exact ⟨0, by omega, rfl, by rw [upL_zero, upK_zero]; exact HA3.out, HA2.out, hb2⟩
  case round =>
    clear HA1 HA2 HA3 hb2
    obtain ⟨wo, rfl⟩ : ∃ x, x = wr := ⟨_, rfl⟩
    obtain ⟨k, hk, rfl, hc1, hc2, hbel⟩ := hrel
    have H1 := hide hc1
    have H2 := hide hc2
    by_cases hlt : k < 6
    · have hki : (k : Int) < 6 := by omega
      have HRo := hide (HR.out.below hbel hgl)
      have i0 := HRo.out.is
      have a0 := HRo.out.at
      have HQ1 := hide (HLQ.out k wo)
      have HP := hide (show leD n f lv k = leO n f lv k from rfl)
      clear hc1 hc2
      go_wp2_with fail
      refine (HQ1.out).mono ?_
      rintro e w3 ⟨rfl, hb3⟩
      have hbel3 := hbel.trans (hb3.mono hbel.size)
      have H1c := hide (H1.out.below hb3 H1.out.lt)
      have H2c := hide (H2.out.below hb3 H2.out.lt)
      have HRc := hide (HR.out.below hbel3 hgl)
      clear i0 a0 hb3 H1 H2
      cases hle : leO n f lv k
      · rw [hle] at HP
        have HNO1 := hide (upL_no (y := fun _ => o) (L := L) HP.out)
        have HNO2 := hide (upK_no (x := true) (G := F) HP.out)
        go_wp2
        go_roundw
        case rel => exact ⟨k + 1, by omega, by go_num, by rw [HNO1.out, HNO2.out]; exact H1c.out, H2c.out, hbel3⟩
        case measure => simp [intOf]; omega
      · rw [hle] at HP
        have o1 := H1c.out.origin
        have l1 := H1c.out.lab k hlt
        have f1 := H1c.out.frozen (2 + k * 3 + 1)
        have HS1 : Hid (CellAt (w3.setCell ⟨w.heap.size, 2 + k * 3 + 1, none⟩ (.int .i64 o)) w.heap.size b o G (upL (leD n f lv) (fun _ => o) L (k + 1)) (upK (leD n f lv) true F k)) := H1c.out.set (j := 1) hlt (by omega) (by rw [upL_yes HP.out]; rfl) (fun i _ hne => ⟨rfl, upL_other hne, rfl⟩)
        have HS2 : Hid (CellAt (w3.setCell ⟨w.heap.size, 2 + k * 3 + 1, none⟩ (.int .i64 o)) (w.heap.size + 1) 0 0 noB noL noB) := row_other H2c.out (by omega)
        have hbS : Below w.heap.size w (w3.setCell ⟨w.heap.size, 2 + k * 3 + 1, none⟩ (.int .i64 o)) := hbel3.setCell (by dsimp only; omega) _
        have l2 := HS1.out.free k hlt
        have f2 := HS1.out.frozen (2 + k * 3 + 2)
        have HT1 : Hid (CellAt ((w3.setCell ⟨w.heap.size, 2 + k * 3 + 1, none⟩ (.int .i64 o)).setCell ⟨w.heap.size, 2 + k * 3 + 2, none⟩ (.bool true)) w.heap.size b o G (upL (leD n f lv) (fun _ => o) L (k + 1)) (upK (leD n f lv) true F (k + 1))) := HS1.out.set (j := 2) hlt (by omega) (by rw [upK_yes HP.out]; rfl) (fun i _ hne => ⟨rfl, rfl, upK_other hne⟩)
        have HT2 : Hid (CellAt ((w3.setCell ⟨w.heap.size, 2 + k * 3 + 1, none⟩ (.int .i64 o)).setCell ⟨w.heap.size, 2 + k * 3 + 2, none⟩ (.bool true)) (w.heap.size + 1) 0 0 noB noL noB) := row_other HS2.out (by omega)
        have hbT : Below w.heap.size w ((w3.setCell ⟨w.heap.size, 2 + k * 3 + 1, none⟩ (.int .i64 o)).setCell ⟨w.heap.size, 2 + k * 3 + 2, none⟩ (.bool true)) := hbS.setCell (by dsimp only; omega) _
        go_wp2
        go_roundw
        case rel => exact ⟨k + 1, by omega, by go_num, HT1.out, HT2.out, hbT⟩
        case measure => simp [intOf]; omega
    · obtain rfl : k = 6 := by omega
      have i1 := hc1.is
      have a1 := hc1.at
      have i2 := hc2.is
      have k1 := cellG_ok b o G (upL (leD n f lv) (fun _ => o) L 6) (upK (leD n f lv) true F 6)
      have HS := hide (hc2.store (cellG b o G (upL (leD n f lv) (fun _ => o) L 6) (upK (leD n f lv) true F 6)) (cellG_length ..))
      have hbS := below_setCells hbel (show w.heap.size ≤ w.heap.size + 1 by omega) 0 (cellG b o G (upL (leD n f lv) (fun _ => o) L 6) (upK (leD n f lv) true F 6))
      clear hc1 hc2
      go_wp2
      exact bodyPost_ret (res_cell Tryz.results138 _ _ (w.heap.size + 1) _ (cellG_length ..) (by simp) HS.out) rfl ⟨rfl, hbS⟩
def joinN (n : Nat) (f : Nat → Nat → Bool) (lb a : Nat) : Nat := (posI (leastO n f a lb)).toNat
theorem joinN_pos (n : Nat) (f : Nat → Nat → Bool) (lb a : Nat) : posI (leastO n f a lb) = (joinN n f lb a : Nat) := by
  unfold joinN posI
  split <;> omega
theorem PRowAt.other {w : World} {g q n : Nat} {f : Nat → Nat → Bool} {pv v : Value} {g' j : Nat} (h : PRowAt w g q n f pv) (hne : g ≠ g') : PRowAt (w.setCell ⟨g', j, none⟩ v) g q n f pv := by
  obtain ⟨cs, t, h1, h2⟩ := h
  exact ⟨cs, t, row_other h1 hne, h2⟩
set_option maxRecDepth 100000 in
set_option maxHeartbeats 8000000 in
theorem raised_any (b o : Nat) (G : Nat → Bool) (L : Nat → Nat) (F : Nat → Bool) (g q n : Nat) (f : Nat → Nat → Bool) (pv : Value) (lv lb : Nat) (w : World) (hr : PRowAt w g q n f pv) (hn : n ≤ 6) (hq : 0 < q) :
    Calls Tryz.prog 137 #[.pointer (some ⟨g, q, none⟩), .agg (cellG b o G L F).toArray, .int .i64 lv, .int .i64 lb] w fun e w' => e = .returned (.agg (cellG b o G (upL (leD n f lv) (fun d => joinN n f lb (L d)) L 6) (upK (leD n f lv) false F 6)).toArray) ∧ Below w.heap.size w w' := by
  have HA1 := hide (cell_new w b o G L F)
  have hb1 := below_box w (.cells (cellG b o G L F).toArray 188)
  have HA2 := hide (cell_new (w.alloc (.cells (cellG b o G L F).toArray 188)) 0 0 noB noL noB)
  have hs1 : (w.alloc (.cells (cellG b o G L F).toArray 188)).heap.size = w.heap.size + 1 := by simp
  rw [hs1] at HA2
  have hb2 : Below w.heap.size w ((w.alloc (.cells (cellG b o G L F).toArray 188)).alloc (.cells (cellG 0 0 noB noL noB).toArray 188)) := hb1.alloc hb1.size _
  have HA3 : Hid (CellAt ((w.alloc (.cells (cellG b o G L F).toArray 188)).alloc (.cells (cellG 0 0 noB noL noB).toArray 188)) w.heap.size b o G L F) := row_alloc' HA1.out
  have HLQ := hide (fun (d : Nat) (w' : World) => oleq_any n f lv d w' hn)
  have HJN := hide (fun (d : Nat) (w' : World) => show Calls Tryz.prog 68 #[.agg (ordC n f), .int .i64 (L d), .int .i64 lb] w' fun e w'' => e = .returned (.int .i64 (joinN n f lb (L d))) ∧ Below w'.heap.size w' w'' from (oJoin_any n f (L d) lb w' hn).mono fun e w'' ⟨h1, h2⟩ => ⟨by rw [h1, joinN_pos], h2⟩)
  have HR := hide hr
  have hgl := hr.lt
  clear hb1 hs1 hr
  go_enter Tryz.func137, Tryz.ntmps137
  go_wp2_with (first | (refine wpList_alloc_cell rfl rfl ?_))
  go_loopw [9] (fun i wr => ∃ k : Nat, k ≤ 6 ∧ i = .int .i64 k ∧ CellAt wr w.heap.size b o G (upL (leD n f lv) (fun d => joinN n f lb (L d)) L k) (upK (leD n f lv) false F k) ∧ CellAt wr (w.heap.size + 1) 0 0 noB noL noB ∧ Below w.heap.size w wr) (fun i _ => 6 - (intOf i).toNat)
  case atStart => exact ⟨0, by omega, rfl, by rw [upL_zero, upK_zero]; exact HA3.out, HA2.out, hb2⟩
  case round =>
    clear HA1 HA2 HA3 hb2
    obtain ⟨wo, rfl⟩ : ∃ x, x = wr := ⟨_, rfl⟩
    obtain ⟨k, hk, rfl, hc1, hc2, hbel⟩ := hrel
    have H1 := hide hc1
    have H2 := hide hc2
    by_cases hlt : k < 6
    · have hki : (k : Int) < 6 := by omega
      have HRo := hide (HR.out.below hbel hgl)
      have i0 := HRo.out.is
      have a0 := HRo.out.at
      have HQ1 := hide (HLQ.out k wo)
      have HP := hide (show leD n f lv k = leO n f lv k from rfl)
      clear hc1 hc2
      go_wp2_with fail
      refine (HQ1.out).mono ?_
      rintro e w3 ⟨rfl, hb3⟩
      have hbel3 := hbel.trans (hb3.mono hbel.size)
      have H1c := hide (H1.out.below hb3 H1.out.lt)
      have H2c := hide (H2.out.below hb3 H2.out.lt)
      have HRc := hide (HR.out.below hbel3 hgl)
      clear i0 a0 hb3 H1 H2
      cases hle : leO n f lv k
      · rw [hle] at HP
        have HNO1 := hide (upL_no (y := fun d => joinN n f lb (L d)) (L := L) HP.out)
        have HNO2 := hide (upK_no (x := false) (G := F) HP.out)
        go_wp2
        go_roundw
        case rel => exact ⟨k + 1, by omega, by go_num, by rw [HNO1.out, HNO2.out]; exact H1c.out, H2c.out, hbel3⟩
        case measure => simp [intOf]; omega
      · rw [hle] at HP
        have l0 : w3.cell? ⟨w.heap.size, 2 + k * 3 + 1, none⟩ = some (.int .i64 (L k)) := by have := H1c.out.lab k hlt; rwa [upL_at] at this
        have i3 := HRc.out.is
        have a3 := HRc.out.at
        have HJ1 := hide (HJN.out k w3.drew)
        have hl3 := HRc.out.lt
        have hc3 := H1c.out.lt
        generalize hLk : L k = lk at *
        have HLK := hide hLk
        clear hLk
        go_wp2_with fail
        refine wp_region_held_drew (S := (fun w' => partIs w' g q 37 ∧ partAt w' g q 37 = ordC n f)) (by kernel_rfl) ?_ (fun hHeld => ?_)
        · exact ⟨i3, a3⟩
        refine takeW 0 (some 21) ?_ rfl rfl (by kernel_rfl) (by kernel_rfl) (by kernel_rfl) (fun _ _ _ h => h) ?_ (by assumption) ?_
        rotate_left 1
        · (intro o ho w hSw; obtain rfl := Option.some.inj ho; clear ho; (try dsimp only at hSw); go_simp; try (with_reducible rfl))
        (try simp only [Act.put, List.setIfInBounds_toArray, List.set_cons_zero, List.set_cons_succ])
        refine takeW 1 (some 22) ?_ rfl rfl (by kernel_rfl) (by kernel_rfl) (by kernel_rfl) (fun _ _ _ h => h) ?_ (by assumption) ?_
        rotate_left 1
        · (intro o ho w hSw; obtain rfl := Option.some.inj ho; clear ho; (try dsimp only at hSw); go_simp; try (with_reducible rfl))
        (try simp only [Act.put, List.setIfInBounds_toArray, List.set_cons_zero, List.set_cons_succ])
        refine takeW 2 (some 23) ?_ rfl rfl (by kernel_rfl) (by kernel_rfl) (by kernel_rfl) (fun _ _ _ h => h) ?_ (by assumption) ?_
        rotate_left 1
        · (intro o ho w hSw; obtain rfl := Option.some.inj ho; clear ho; (try dsimp only at hSw); go_simp; try (with_reducible rfl))
        (try simp only [Act.put, List.setIfInBounds_toArray, List.set_cons_zero, List.set_cons_succ])
        refine takeW 3 (some 24) ?_ rfl rfl (by kernel_rfl) (by kernel_rfl) (by kernel_rfl) (fun _ _ _ h => h) ?_ (by assumption) ?_
        rotate_left 1
        · (intro o ho w hSw; obtain rfl := Option.some.inj ho; clear ho; (try dsimp only at hSw); go_simp; try (with_reducible rfl))
        (try simp only [Act.put, List.setIfInBounds_toArray, List.set_cons_zero, List.set_cons_succ])
        refine takeW 4 (some 25) (.agg (ordC n f)) rfl rfl (by kernel_rfl) (by kernel_rfl) (by kernel_rfl) (fun _ _ _ h => h) ?_ (by assumption) ?_
        · (intro o ho w hSw; obtain rfl := Option.some.inj ho; clear ho; exact exec_load_ord rfl rfl hSw.1 hSw.2)
        (try simp only [Act.put, List.setIfInBounds_toArray, List.set_cons_zero, List.set_cons_succ])
        refine takeW 5 (some 26) ?_ rfl rfl (by kernel_rfl) (by kernel_rfl) (by kernel_rfl) (fun _ _ _ h => h) ?_ (by assumption) ?_
        rotate_left 1
        · (intro o ho w hSw; obtain rfl := Option.some.inj ho; clear ho; (try dsimp only at hSw); go_simp; try (with_reducible rfl))
        (try simp only [Act.put, List.setIfInBounds_toArray, List.set_cons_zero, List.set_cons_succ])
        refine takeW 6 (some 27) ?_ rfl rfl (by kernel_rfl) (by kernel_rfl) (by kernel_rfl) (fun _ _ _ h => h) ?_ (by assumption) ?_
        rotate_left 1
        · (intro o ho w hSw; obtain rfl := Option.some.inj ho; clear ho; (try dsimp only at hSw); go_simp; try (with_reducible rfl))
        (try simp only [Act.put, List.setIfInBounds_toArray, List.set_cons_zero, List.set_cons_succ])
        refine takeW 7 (some 28) ?_ rfl rfl (by kernel_rfl) (by kernel_rfl) (by kernel_rfl) (fun _ _ _ h => h) ?_ (by assumption) ?_
        rotate_left 1
        · (intro o ho w hSw; obtain rfl := Option.some.inj ho; clear ho; (try dsimp only at hSw); go_simp; try (with_reducible rfl))
        (try simp only [Act.put, List.setIfInBounds_toArray, List.set_cons_zero, List.set_cons_succ])
        refine takeW 8 (some 29) ?_ rfl rfl (by kernel_rfl) (by kernel_rfl) (by kernel_rfl) (fun _ _ _ h => h) ?_ (by assumption) ?_
        rotate_left 1
        · (intro o ho w hSw; obtain rfl := Option.some.inj ho; clear ho; (try dsimp only at hSw); go_simp; try (with_reducible rfl))
        (try simp only [Act.put, List.setIfInBounds_toArray, List.set_cons_zero, List.set_cons_succ])
        refine takeW 10 (some 31) ?_ rfl rfl (by kernel_rfl) (by kernel_rfl) (by kernel_rfl) (fun _ _ _ h => h) ?_ (by assumption) ?_
        rotate_left 1
        · (intro o ho w hSw; obtain rfl := Option.some.inj ho; clear ho; (try dsimp only at hSw); go_simp; try (with_reducible rfl))
        (try simp only [Act.put, List.setIfInBounds_toArray, List.set_cons_zero, List.set_cons_succ])
        refine takeW 12 (some 33) ?_ rfl rfl (by kernel_rfl) (by kernel_rfl) (by kernel_rfl) (fun _ _ _ h => h) ?_ (by assumption) ?_
        rotate_left 1
        · (intro o ho w hSw; obtain rfl := Option.some.inj ho; clear ho; (try dsimp only at hSw); go_simp; try (with_reducible rfl))
        (try simp only [Act.put, List.setIfInBounds_toArray, List.set_cons_zero, List.set_cons_succ])
        refine wpAnyH_ready (rs := [9]) (by kernel_rfl) (by simp) ?_
        refine AllReadyH.cons rfl (fun K hK => ?_) AllReadyH.nil
        go_simp
        refine hK.out _ _ ?_ (fun hHeld => ?_)
        · exact ⟨i3, a3⟩
        clear hK K
        refine wpAnyH_ready (rs := [11]) (by kernel_rfl) (by simp) ?_
        refine AllReadyH.cons rfl (fun K hK => ?_) AllReadyH.nil
        go_simp
        go_wp2_with (go_at_call 68; refine (HJ1.out).mono ?_; rintro e w5 ⟨rfl, hb5⟩; have HR5 := hide (PRowAt.below (w := w3.drew) HRc.out hb5 hl3); have i5 := HR5.out.is; have a5 := HR5.out.at; have H1d := hide (CellAt.below (w := w3.drew) H1c.out hb5 hc3); have H2d := hide (CellAt.below (w := w3.drew) H2c.out hb5 H2c.out.lt); have l5 := H1d.out.lab k hlt; have f5 := H1d.out.frozen (2 + k * 3 + 1); have HS1 : Hid (CellAt (w5.setCell ⟨w.heap.size, 2 + k * 3 + 1, none⟩ (.int .i64 (joinN n f lb lk))) w.heap.size b o G (upL (leD n f lv) (fun d => joinN n f lb (L d)) L (k + 1)) (upK (leD n f lv) false F k)) := H1d.out.set (j := 1) hlt (by omega) (by rw [upL_yes HP.out, HLK.out]; rfl) (fun i _ hne => ⟨rfl, upL_other hne, rfl⟩); have HS2 : Hid (CellAt (w5.setCell ⟨w.heap.size, 2 + k * 3 + 1, none⟩ (.int .i64 (joinN n f lb lk))) (w.heap.size + 1) 0 0 noB noL noB) := row_other H2d.out (by omega); have HRS := hide (HR5.out.other (v := .int .i64 (joinN n f lb lk)) (j := 2 + k * 3 + 1) (show g ≠ w.heap.size by omega)); have iS := HRS.out.is; have aS := HRS.out.at)
        refine hK.out _ _ ?_ (fun hHeld => ?_)
        · exact ⟨i5, a5⟩
        clear hK K
        refine takeW 13 (some 34) ?_ rfl rfl (by kernel_rfl) (by kernel_rfl) (by kernel_rfl) (fun _ _ _ h => h) ?_ (by assumption) ?_
        rotate_left 1
        · (intro o ho w hSw; obtain rfl := Option.some.inj ho; clear ho; (try dsimp only at hSw); go_simp; try (with_reducible rfl))
        (try simp only [Act.put, List.setIfInBounds_toArray, List.set_cons_zero, List.set_cons_succ])
        refine takeW 14 (some 35) ?_ rfl rfl (by kernel_rfl) (by kernel_rfl) (by kernel_rfl) (fun _ _ _ h => h) ?_ (by assumption) ?_
        rotate_left 1
        · (intro o ho w hSw; obtain rfl := Option.some.inj ho; clear ho; (try dsimp only at hSw); go_simp; try (with_reducible rfl))
        (try simp only [Act.put, List.setIfInBounds_toArray, List.set_cons_zero, List.set_cons_succ])
        refine wpAnyH_ready (rs := [15]) (by kernel_rfl) (by simp) ?_
        refine AllReadyH.cons rfl (fun K hK => ?_) AllReadyH.nil
        go_simp
        refine hK.out _ _ ?_ (fun hHeld => ?_)
        · exact ⟨iS, aS⟩
        clear hK K
        refine wpAnyH_done (by kernel_rfl) ?_ _
        have hbel5 := hbel3.drew.trans (hb5.mono hbel3.drew.size)
        have HT1 : Hid (CellAt ((w5.setCell ⟨w.heap.size, 2 + k * 3 + 1, none⟩ (.int .i64 (joinN n f lb lk))).setCell ⟨w.heap.size, 2 + k * 3 + 2, none⟩ (.bool false)) w.heap.size b o G (upL (leD n f lv) (fun d => joinN n f lb (L d)) L (k + 1)) (upK (leD n f lv) false F (k + 1))) := HS1.out.set (j := 2) hlt (by omega) (by rw [upK_yes HP.out]; rfl) (fun i _ hne => ⟨rfl, rfl, upK_other hne⟩)
        have HT2 : Hid (CellAt ((w5.setCell ⟨w.heap.size, 2 + k * 3 + 1, none⟩ (.int .i64 (joinN n f lb lk))).setCell ⟨w.heap.size, 2 + k * 3 + 2, none⟩ (.bool false)) (w.heap.size + 1) 0 0 noB noL noB) := row_other HS2.out (by omega)
        have hbT : Below w.heap.size w ((w5.setCell ⟨w.heap.size, 2 + k * 3 + 1, none⟩ (.int .i64 (joinN n f lb lk))).setCell ⟨w.heap.size, 2 + k * 3 + 2, none⟩ (.bool false)) := (hbel5.setCell (by dsimp only; omega) _).setCell (by dsimp only; omega) _
        have l2 := HS1.out.free k hlt
        have f2 := HS1.out.frozen (2 + k * 3 + 2)
        clear l5 f5 i5 a5 iS aS i3 a3 l0
        go_wp2
        go_roundw
        case rel => exact ⟨k + 1, by omega, by go_num, HT1.out, HT2.out, hbT⟩
        case measure => simp [intOf]; omega
    · obtain rfl : k = 6 := by omega
      have i1 := hc1.is
      have a1 := hc1.at
      have i2 := hc2.is
      have k1 := cellG_ok b o G (upL (leD n f lv) (fun d => joinN n f lb (L d)) L 6) (upK (leD n f lv) false F 6)
      have HS := hide (hc2.store (cellG b o G (upL (leD n f lv) (fun d => joinN n f lb (L d)) L 6) (upK (leD n f lv) false F 6)) (cellG_length ..))
      have hbS := below_setCells hbel (show w.heap.size ≤ w.heap.size + 1 by omega) 0 (cellG b o G (upL (leD n f lv) (fun d => joinN n f lb (L d)) L 6) (upK (leD n f lv) false F 6))
      clear hc1 hc2
      go_wp2
      exact bodyPost_ret (res_cell Tryz.results137 _ _ (w.heap.size + 1) _ (cellG_length ..) (by simp) HS.out) rfl ⟨rfl, hbS⟩
end Go.Proofs.YthgcpjdlcooncaaGreat
