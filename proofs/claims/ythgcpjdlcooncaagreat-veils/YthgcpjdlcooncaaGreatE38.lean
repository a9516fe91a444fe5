/- Docc. -/
import Derived.Test.YthgcpjdlcooncaaGreatE37
namespace Go.Proofs.YthgcpjdlcooncaaGreat
open Go.RowKit Veil
theorem Only.cellAt {F : Nat → Prop} {w w' : World} (h : Only F w w') {a : Addr} (hk : a.block < w.heap.size) (hn : ¬ F a.block) : w'.cell? a = w.cell? a := by
  have := h.block a.block hk hn
  simp only [World.cell?, this]
set_option maxRecDepth 100000 in
set_option maxHeartbeats 4000000 in
theorem dcDelete_lv (g n : Nat) (f : Nat → Nat → Bool) (rv pv : Value) (GR : Nat → Nat → Bool) (I Lg : Nat → Nat) (level : Int) (a b : Int) (w : World) (hbox : PBox w g n f rv GR pv I Lg) (hlv : okL n level = false) :
    Calls Tryz.prog 72 #[.pointer (some ⟨g, 0, none⟩), .int .i64 level, .int .i64 a, .int .i64 b] w fun e w' => e = .returned (.int .i64 6) ∧ Below w.heap.size w w' := by
  have i0 := hbox.is
  have a0 := hbox.at
  have r0 := hbox.not
  have HQ := hide (has_any n f level w)
  rw [hlv] at HQ
  clear hlv hbox
  go_enter Tryz.func72, Tryz.ntmps72
  go_wp2_with fail
  refine (HQ.out).mono ?_
  rintro e w1 ⟨rfl, hb1⟩
  clear i0 a0 r0
  go_wp2
  go_ret
  exact ⟨rfl, hb1⟩
set_option maxRecDepth 100000 in
set_option maxHeartbeats 4000000 in
theorem dcDelete_at (c : Cfg) (row : List RC) (g n : Nat) (f : Nat → Nat → Bool) (rv pv : Value) (GR : Nat → Nat → Bool) (I Lg : Nat → Nat) (B : Nat) (lv : Nat) (a b : Int) (w : World) (hbox : PBox w g n f rv GR pv I Lg) (hrl : OwnL 96 2 ruleV w B rv c.rules) (hce : OwnL 188 20 (pcV c) w B pv row) (hn : n = c.n) (hf : f = tT c) (hR : CfgRight c) (hrow : RowGood c row) (hlv : lv < c.n) (hpc : pieceB a b (placesR c row lv).length = false) :
    Calls Tryz.prog 72 #[.pointer (some ⟨g, 0, none⟩), .int .i64 lv, .int .i64 a, .int .i64 b] w fun e w' => e = .returned (.int .i64 7) ∧ Below w.heap.size w w' := by
  have HPL := hide (fun (w' : World) (hb : Below w.heap.size w w') => dcPlaces_any c row g n f rv pv GR I Lg B lv w' (hbox.below hb hbox.lt) (hrl.below hb) (hce.below hb) hn hf hR hrow hlv)
  have HBX := hide hbox
  have hgl := hbox.lt
  have i0 := hbox.is
  have a0 := hbox.at
  have r0 := hbox.not
  have HQ := hide (has_any n f lv w)
  rw [okL_lt (show lv < n by omega)] at HQ
  have HPC := hide (fun (w' : World) => dcPiece_any a b (placesR c row lv).length w')
  rw [hpc] at HPC
  generalize placesR c row lv = P at *
  clear hbox hrl hce hn hf hR hrow hlv hpc
  go_enter Tryz.func72, Tryz.ntmps72
  go_wp2_with fail
  refine (HQ.out).mono ?_
  rintro e w1 ⟨rfl, hb1⟩
  clear i0 a0 r0
  go_wp2_with fail
  refine (HPL.out _ hb1).mono ?_
  rintro e w2 ⟨vl, rfl, hvl, hb2⟩
  have hbw := hb1.trans (hb2.mono hb1.size)
  have hw1s := hb1.size
  have HVL := hide hvl
  obtain ⟨ao, cap, hvv⟩ := hvl.shape
  subst hvv
  clear hb1 hb2 hvl
  go_wp2_with fail
  refine (HPC.out _).mono ?_
  rintro e w2' ⟨rfl, rfl⟩
  go_wp2
  go_ret
  exact ⟨rfl, hbw⟩
set_option maxRecDepth 100000 in
set_option maxHeartbeats 8000000 in
theorem dcDelete_ok (c : Cfg) (row : List RC) (g n : Nat) (f : Nat → Nat → Bool) (rv pv : Value) (GR : Nat → Nat → Bool) (I Lg : Nat → Nat) (B : Nat) (lv a b : Nat) (w : World) (hbox : PBox w g n f rv GR pv I Lg) (hrl : OwnL 96 2 ruleV w B rv c.rules) (hce : OwnL 188 20 (pcV c) w B pv row) (hn : n = c.n) (hf : f = tT c) (hR : CfgRight c) (hrow : RowGood c row) (hne : ∀ b, pv.ownBlock = some b → g ≠ b) (hlv : lv < c.n) (hab : a < b) (hbl : b ≤ (placesR c row lv).length) :
    Calls Tryz.prog 72 #[.pointer (some ⟨g, 0, none⟩), .int .i64 lv, .int .i64 a, .int .i64 b] w fun e w' => e = .returned (.int .i64 0) ∧ OwnL 188 20 (pcV c) w' B pv (markAll row (cellsTo c row lv (placesR c row lv) a b) ⟨2, lv, 0⟩) ∧ Only (fun k => pv.ownBlock = some k) w w' := by
  have HPL := hide (fun (w' : World) (hb : Below w.heap.size w w') => dcPlaces_any c row g n f rv pv GR I Lg B lv w' (hbox.below hb hbox.lt) (hrl.below hb) (hce.below hb) hn hf hR hrow hlv)
  have HBX := hide hbox
  have hgl := hbox.lt
  have i0 := hbox.is
  have a0 := hbox.at
  have r0 := hbox.not
  have HQ := hide (has_any n f lv w)
  rw [okL_lt (show lv < n by omega)] at HQ
  have HPC := hide (fun (w' : World) => dcPiece_any a b (placesR c row lv).length w')
  have hpcB : pieceB a b (placesR c row lv).length = true := by unfold pieceB; simp; omega
  rw [hpcB] at HPC
  have HMK := hide (cells_meant c row lv (fun x hx => (hrow.cells x hx).1.byte) hab hbl ⟨2, lv, 0⟩)
  have HRW := hide (fun (w' : World) (hb : Below w.heap.size w w') (first last : Nat) => rwDelete_any c row g 74 n f pv B lv first last w' (hce.below hb) (hbox.below hb hbox.lt).row hne hn hf hR.labels (fun x hx => (hrow.cells x hx).1) hlv (by decide) (by have := hrow.length; omega))
  have HPB := hide (fun b' (h : pv.ownBlock = some b') => (hce.lt h).2)
  have hPl : (placesR c row lv).length ≤ 1200 := Nat.le_trans (placesR_ok c row lv (fun x hx => (hrow.cells x hx).1.byte)).1 hrow.length
  generalize hP : placesR c row lv = P at *
  clear hbox hrl hce hn hf hR hrow hlv hpcB hne hP
  go_enter Tryz.func72, Tryz.ntmps72
  go_wp2_with fail
  refine (HQ.out).mono ?_
  rintro e w1 ⟨rfl, hb1⟩
  clear i0 a0 r0
  go_wp2_with fail
  refine (HPL.out _ hb1).mono ?_
  rintro e w2 ⟨vl, rfl, hvl, hb2⟩
  have hbw := hb1.trans (hb2.mono hb1.size)
  have hw1s := hb1.size
  have HVL := hide hvl
  obtain ⟨ao, cap, hvv⟩ := hvl.shape
  subst hvv
  clear hb1 hb2 hvl
  go_wp2_with fail
  refine (HPC.out _).mono ?_
  rintro e w2' ⟨rfl, rfl⟩
  obtain ⟨gp, cp, hvv, hgp0, hgp⟩ := HVL.out.form (by omega)
  simp only [Value.slice.injEq] at hvv
  obtain ⟨rfl, _, rfl⟩ := hvv
  have hea : P[a]? = some (P[a]'(by omega)) := List.getElem?_eq_getElem (by omega)
  have heb : P[b - 1]? = some (P[b - 1]'(by omega)) := List.getElem?_eq_getElem (by omega)
  have p1 := HVL.out.cell (show ∀ a, (placeV a).length = 3 from fun _ => rfl) rfl hea (j := 1) (by omega)
  have p2 := HVL.out.cell (show ∀ a, (placeV a).length = 3 from fun _ => rfl) rfl heb (j := 2) (by omega)
  have hfa : plAt P a = P[a]'(by omega) := plAt_lt (by omega)
  have hlb1 : plAt P (b - 1) = P[b - 1]'(by omega) := plAt_lt (by omega)
  rw [hfa, hlb1] at HMK
  generalize (P[a]'(by omega)) = pa at *
  generalize (P[b - 1]'(by omega)) = pb at *
  obtain ⟨m, hm1, hm2⟩ : ∃ m : Nat, (b : Int) - 1 = (m : Int) ∧ b - 1 = m := ⟨b - 1, by omega, rfl⟩
  have hmi : (m : Int) < (P.length : Int) := by omega
  have hai : (a : Int) < (P.length : Int) := by omega
  have hwm : IntKind.i64.wrap (m : Int) = (m : Int) := by rw [IntKind.wrap_i64]; omega
  rw [hm2] at p2
  obtain ⟨pa1, pa2, pa3⟩ := pa
  obtain ⟨pb1, pb2, pb3⟩ := pb
  have p1' : w2.cell? ⟨gp, a * 3 + 1, none⟩ = some (.int .i64 pa2) := p1
  have p2' : w2.cell? ⟨gp, m * 3 + 2, none⟩ = some (.int .i64 pb3) := p2
  simp only at HMK
  have HRX := hide (HRW.out w2.drew hbw.drew pa2 pb3)
  rw [← HMK.out] at HRX
  generalize hML : markAll row (cellsTo c row lv P a b) ⟨2, lv, 0⟩ = row' at *
  have hnf : ¬ pv.ownBlock = some gp := fun h => by have := HPB.out gp h; omega
  have HNF := hide hnf
  have HML := hide hML
  have HM2 := hide hm2
  clear hea heb p1 p2 hfa hlb1 hm2 hML
  go_wp2_with fail
  refine wp_region_held_drew (S := (fun w' => w'.cell? ⟨gp, a * 3 + 1, none⟩ = some (.int .i64 pa2) ∧ w'.cell? ⟨gp, m * 3 + 2, none⟩ = some (.int .i64 pb3))) (by kernel_rfl) ?_ (fun hHeld => ?_)
  · exact ⟨p1', p2'⟩
  refine takeW 0 (some 26) ?_ rfl rfl (by kernel_rfl) (by kernel_rfl) (by kernel_rfl) (fun _ _ _ h => h) ?_ (by assumption) ?_
  rotate_left 1
  · (intro o ho w hSw; obtain rfl := Option.some.inj ho; clear ho; (try dsimp only at hSw); go_simp; try (with_reducible rfl))
  (try simp only [Act.put, List.setIfInBounds_toArray, List.set_cons_zero, List.set_cons_succ])
  refine takeW 1 (some 27) ?_ rfl rfl (by kernel_rfl) (by kernel_rfl) (by kernel_rfl) (fun _ _ _ h => h) ?_ (by assumption) ?_
  rotate_left 1
  · (intro o ho w hSw; obtain rfl := Option.some.inj ho; clear ho; (try dsimp only at hSw); go_simp; try (with_reducible rfl))
  (try simp only [Act.put, List.setIfInBounds_toArray, List.set_cons_zero, List.set_cons_succ])
  refine takeW 2 (some 28) ?_ rfl rfl (by kernel_rfl) (by kernel_rfl) (by kernel_rfl) (fun _ _ _ h => h) ?_ (by assumption) ?_
  rotate_left 1
  · (intro o ho w hSw; obtain rfl := Option.some.inj ho; clear ho; (try dsimp only at hSw); go_simp; try (with_reducible rfl))
  (try simp only [Act.put, List.setIfInBounds_toArray, List.set_cons_zero, List.set_cons_succ])
  refine takeW 3 (some 29) ?_ rfl rfl (by kernel_rfl) (by kernel_rfl) (by kernel_rfl) (fun _ _ _ h => h) ?_ (by assumption) ?_
  rotate_left 1
  · (intro o ho w hSw; obtain rfl := Option.some.inj ho; clear ho; (try dsimp only at hSw); go_simp; try (with_reducible rfl))
  (try simp only [Act.put, List.setIfInBounds_toArray, List.set_cons_zero, List.set_cons_succ])
  refine takeW 4 (some 30) ?_ rfl rfl (by kernel_rfl) (by kernel_rfl) (by kernel_rfl) (fun _ _ _ h => h) ?_ (by assumption) ?_
  rotate_left 1
  · (intro o ho w hSw; obtain rfl := Option.some.inj ho; clear ho; (try dsimp only at hSw); go_simp; try (with_reducible rfl))
  (try simp only [Act.put, List.setIfInBounds_toArray, List.set_cons_zero, List.set_cons_succ])
  refine takeW 5 (some 31) ?_ rfl rfl (by kernel_rfl) (by kernel_rfl) (by kernel_rfl) (fun _ _ _ h => h) ?_ (by assumption) ?_
  rotate_left 1
  · (intro o ho w hSw; obtain rfl := Option.some.inj ho; clear ho; (try dsimp only at hSw); go_simp; try (with_reducible rfl))
  (try simp only [Act.put, List.setIfInBounds_toArray, List.set_cons_zero, List.set_cons_succ])
  refine takeW 6 (some 32) ?_ rfl rfl (by kernel_rfl) (by kernel_rfl) (by kernel_rfl) (fun _ _ _ h => h) ?_ (by assumption) ?_
  rotate_left 1
  · (intro o ho w hSw; obtain rfl := Option.some.inj ho; clear ho; (try dsimp only at hSw); go_simp; try (with_reducible rfl))
  (try simp only [Act.put, List.setIfInBounds_toArray, List.set_cons_zero, List.set_cons_succ])
  refine takeW 7 (some 33) ?_ rfl rfl (by kernel_rfl) (by kernel_rfl) (by kernel_rfl) (fun _ _ _ h => h) ?_ (by assumption) ?_
  rotate_left 1
  · (intro o ho w hSw; obtain rfl := Option.some.inj ho; clear ho; (try dsimp only at hSw); go_simp; try (with_reducible rfl))
  (try simp only [Act.put, List.setIfInBounds_toArray, List.set_cons_zero, List.set_cons_succ])
  refine takeW 8 (some 34) ?_ rfl rfl (by kernel_rfl) (by kernel_rfl) (by kernel_rfl) (fun _ _ _ h => h) ?_ (by assumption) ?_
  rotate_left 1
  · (intro o ho w hSw; obtain rfl := Option.some.inj ho; clear ho; (try dsimp only at hSw); go_simp; try (with_reducible rfl))
  (try simp only [Act.put, List.setIfInBounds_toArray, List.set_cons_zero, List.set_cons_succ])
  refine takeW 9 (some 35) ?_ rfl rfl (by kernel_rfl) (by kernel_rfl) (by kernel_rfl) (fun _ _ _ h => h) ?_ (by assumption) ?_
  rotate_left 1
  · (intro o ho w hSw; obtain rfl := Option.some.inj ho; clear ho; (try dsimp only at hSw); go_simp; try (with_reducible rfl))
  (try simp only [Act.put, List.setIfInBounds_toArray, List.set_cons_zero, List.set_cons_succ])
  refine takeW 10 (some 36) ?_ rfl rfl (by kernel_rfl) (by kernel_rfl) (by kernel_rfl) (fun _ _ _ h => h) ?_ (by assumption) ?_
  rotate_left 1
  · (intro o ho w hSw; obtain rfl := Option.some.inj ho; clear ho; (try dsimp only at hSw); go_simp; try (with_reducible rfl))
  (try simp only [Act.put, List.setIfInBounds_toArray, List.set_cons_zero, List.set_cons_succ])
  refine takeW 11 (some 37) ?_ rfl rfl (by kernel_rfl) (by kernel_rfl) (by kernel_rfl) (fun _ _ _ h => h) ?_ (by assumption) ?_
  rotate_left 1
  · (intro o ho w hSw; obtain rfl := Option.some.inj ho; clear ho; (try dsimp only at hSw); go_simp; try (with_reducible rfl))
  (try simp only [Act.put, List.setIfInBounds_toArray, List.set_cons_zero, List.set_cons_succ])
  refine takeW 12 (some 38) ?_ rfl rfl (by kernel_rfl) (by kernel_rfl) (by kernel_rfl) (fun _ _ _ h => h) ?_ (by assumption) ?_
  rotate_left 1
  · (intro o ho w hSw; obtain rfl := Option.some.inj ho; clear ho; (try dsimp only at hSw); go_simp; try (with_reducible rfl))
  (try simp only [Act.put, List.setIfInBounds_toArray, List.set_cons_zero, List.set_cons_succ])
  refine takeW 13 (some 39) ?_ rfl rfl (by kernel_rfl) (by kernel_rfl) (by kernel_rfl) (fun _ _ _ h => h) ?_ (by assumption) ?_
  rotate_left 1
  · (intro o ho w hSw; obtain rfl := Option.some.inj ho; clear ho; (try dsimp only at hSw); go_simp; try (with_reducible rfl))
  (try simp only [Act.put, List.setIfInBounds_toArray, List.set_cons_zero, List.set_cons_succ])
  refine takeW 14 (some 40) ?_ rfl rfl (by kernel_rfl) (by kernel_rfl) (by kernel_rfl) (fun _ _ _ h => h) ?_ (by assumption) ?_
  rotate_left 1
  · (intro o ho w hSw; obtain rfl := Option.some.inj ho; clear ho; (try dsimp only at hSw); go_simp; try (with_reducible rfl))
  (try simp only [Act.put, List.setIfInBounds_toArray, List.set_cons_zero, List.set_cons_succ])
  refine wpAnyH_ready (rs := [15]) (by kernel_rfl) (by simp) ?_
  refine AllReadyH.cons rfl (fun K hK => ?_) AllReadyH.nil
  go_simp
  go_wp2_with (go_at_call 104; refine (HRX.out).mono ?_; rintro e w3 ⟨rfl, hown3, honly3⟩; have z1 := (honly3.cellAt (a := ⟨gp, a * 3 + 1, none⟩) hgp hnf).trans p1'; have z2 := (honly3.cellAt (a := ⟨gp, m * 3 + 2, none⟩) hgp hnf).trans p2')
  refine hK.out _ _ ?_ (fun hHeld => ?_)
  · exact ⟨z1, z2⟩
  clear hK K
  refine wpAnyH_done (by kernel_rfl) ?_ _
  have HO3 := hide hown3
  have HN3 := hide ((Only.of_below (F := fun k => pv.ownBlock = some k) hbw.drew).trans honly3 (fun k h => Or.inl h))
  clear hown3 honly3
  go_wp2
  go_ret
  exact ⟨rfl, by rw [HML.out]; exact HO3.out, HN3.out⟩
set_option maxRecDepth 100000 in
set_option maxHeartbeats 4000000 in
theorem dcRaise_lv (g n : Nat) (f : Nat → Nat → Bool) (rv pv : Value) (GR : Nat → Nat → Bool) (I Lg : Nat → Nat) (level : Int) (a b lb : Int) (w : World) (hbox : PBox w g n f rv GR pv I Lg) (hlv : okL n level = false) :
    Calls Tryz.prog 74 #[.pointer (some ⟨g, 0, none⟩), .int .i64 level, .int .i64 a, .int .i64 b, .int .i64 lb] w fun e w' => e = .returned (.int .i64 6) ∧ Below w.heap.size w w' := by
  have i0 := hbox.is
  have a0 := hbox.at
  have r0 := hbox.not
  have HQ := hide (has_any n f level w)
  rw [hlv] at HQ
  clear hlv hbox
  go_enter Tryz.func74, Tryz.ntmps74
  go_wp2_with fail
  refine (HQ.out).mono ?_
  rintro e w1 ⟨rfl, hb1⟩
  clear i0 a0 r0
  go_wp2
  go_ret
  exact ⟨rfl, hb1⟩
set_option maxRecDepth 100000 in
set_option maxHeartbeats 4000000 in
theorem dcRaise_lb (g n : Nat) (f : Nat → Nat → Bool) (rv pv : Value) (GR : Nat → Nat → Bool) (I Lg : Nat → Nat) (level : Int) (a b lb : Int) (w : World) (hbox : PBox w g n f rv GR pv I Lg) (hlv : okL n level = true) (hlb : okL n lb = false) :
    Calls Tryz.prog 74 #[.pointer (some ⟨g, 0, none⟩), .int .i64 level, .int .i64 a, .int .i64 b, .int .i64 lb] w fun e w' => e = .returned (.int .i64 6) ∧ Below w.heap.size w w' := by
  have HBX := hide hbox
  have hgl := hbox.lt
  have i0 := hbox.is
  have a0 := hbox.at
  have r0 := hbox.not
  have HQ := hide (has_any n f level w)
  have HQ2 := hide (fun w' => has_any n f lb w')
  rw [hlv] at HQ
  rw [hlb] at HQ2
  clear hlv hlb hbox
  go_enter Tryz.func74, Tryz.ntmps74
  go_wp2_with fail
  refine (HQ.out).mono ?_
  rintro e w1 ⟨rfl, hb1⟩
  have i1 := (HBX.out.below hb1 hgl).is
  have a1 := (HBX.out.below hb1 hgl).at
  have r1 := (HBX.out.below hb1 hgl).not
  clear i0 a0 r0
  go_wp2_with fail
  refine (HQ2.out w1).mono ?_
  rintro e w1' ⟨rfl, hb1'⟩
  clear i1 a1 r1
  replace hb1 := hb1.trans (hb1'.mono hb1.size)
  clear hb1'
  go_wp2
  go_ret
  exact ⟨rfl, hb1⟩
set_option maxRecDepth 100000 in
set_option maxHeartbeats 4000000 in
theorem dcRaise_at (c : Cfg) (row : List RC) (g n : Nat) (f : Nat → Nat → Bool) (rv pv : Value) (GR : Nat → Nat → Bool) (I Lg : Nat → Nat) (B : Nat) (lv : Nat) (a b : Int) (lb : Nat) (w : World) (hbox : PBox w g n f rv GR pv I Lg) (hrl : OwnL 96 2 ruleV w B rv c.rules) (hce : OwnL 188 20 (pcV c) w B pv row) (hn : n = c.n) (hf : f = tT c) (hR : CfgRight c) (hrow : RowGood c row) (hlv : lv < c.n) (hlb : lb < c.n) (hpc : pieceB a b (placesR c row lv).length = false) :
    Calls Tryz.prog 74 #[.pointer (some ⟨g, 0, none⟩), .int .i64 lv, .int .i64 a, .int .i64 b, .int .i64 lb] w fun e w' => e = .returned (.int .i64 7) ∧ Below w.heap.size w w' := by
  have HPL := hide (fun (w' : World) (hb : Below w.heap.size w w') => dcPlaces_any c row g n f rv pv GR I Lg B lv w' (hbox.below hb hbox.lt) (hrl.below hb) (hce.below hb) hn hf hR hrow hlv)
  have HBX := hide hbox
  have hgl := hbox.lt
  have i0 := hbox.is
  have a0 := hbox.at
  have r0 := hbox.not
  have HQ := hide (has_any n f lv w)
  rw [okL_lt (show lv < n by omega)] at HQ
  have HQ2 := hide (fun w' => has_any n f lb w')
  rw [okL_lt (show lb < n by omega)] at HQ2
  have HPC := hide (fun (w' : World) => dcPiece_any a b (placesR c row lv).length w')
  rw [hpc] at HPC
  generalize placesR c row lv = P at *
  clear hbox hrl hce hn hf hR hrow hlv hpc
  clear hlb
  go_enter Tryz.func74, Tryz.ntmps74
  go_wp2_with fail
  refine (HQ.out).mono ?_
  rintro e w1 ⟨rfl, hb1⟩
  have i1 := (HBX.out.below hb1 hgl).is
  have a1 := (HBX.out.below hb1 hgl).at
  have r1 := (HBX.out.below hb1 hgl).not
  clear i0 a0 r0
  go_wp2_with fail
  refine (HQ2.out w1).mono ?_
  rintro e w1' ⟨rfl, hb1'⟩
  clear i1 a1 r1
  replace hb1 := hb1.trans (hb1'.mono hb1.size)
  clear hb1'
  go_wp2_with fail
  refine (HPL.out _ hb1).mono ?_
  rintro e w2 ⟨vl, rfl, hvl, hb2⟩
  have hbw := hb1.trans (hb2.mono hb1.size)
  have hw1s := hb1.size
  have HVL := hide hvl
  obtain ⟨ao, cap, hvv⟩ := hvl.shape
  subst hvv
  clear hb1 hb2 hvl
  go_wp2_with fail
  refine (HPC.out _).mono ?_
  rintro e w2' ⟨rfl, rfl⟩
  go_wp2
  go_ret
  exact ⟨rfl, hbw⟩
set_option maxRecDepth 100000 in
set_option maxHeartbeats 8000000 in
theorem dcRaise_ok (c : Cfg) (row : List RC) (g n : Nat) (f : Nat → Nat → Bool) (rv pv : Value) (GR : Nat → Nat → Bool) (I Lg : Nat → Nat) (B : Nat) (lv a b : Nat) (lb : Nat) (w : World) (hbox : PBox w g n f rv GR pv I Lg) (hrl : OwnL 96 2 ruleV w B rv c.rules) (hce : OwnL 188 20 (pcV c) w B pv row) (hn : n = c.n) (hf : f = tT c) (hR : CfgRight c) (hrow : RowGood c row) (hne : ∀ b, pv.ownBlock = some b → g ≠ b) (hlv : lv < c.n) (hlb : lb < c.n) (hab : a < b) (hbl : b ≤ (placesR c row lv).length) :
    Calls Tryz.prog 74 #[.pointer (some ⟨g, 0, none⟩), .int .i64 lv, .int .i64 a, .int .i64 b, .int .i64 lb] w fun e w' => e = .returned (.int .i64 0) ∧ OwnL 188 20 (pcV c) w' B pv (markAll row (cellsTo c row lv (placesR c row lv) a b) ⟨3, lv, lb⟩) ∧ Only (fun k => pv.ownBlock = some k) w w' := by
  have HPL := hide (fun (w' : World) (hb : Below w.heap.size w w') => dcPlaces_any c row g n f rv pv GR I Lg B lv w' (hbox.below hb hbox.lt) (hrl.below hb) (hce.below hb) hn hf hR hrow hlv)
  have HBX := hide hbox
  have hgl := hbox.lt
  have i0 := hbox.is
  have a0 := hbox.at
  have r0 := hbox.not
  have HQ := hide (has_any n f lv w)
  rw [okL_lt (show lv < n by omega)] at HQ
  have HQ2 := hide (fun w' => has_any n f lb w')
  rw [okL_lt (show lb < n by omega)] at HQ2
  have HPC := hide (fun (w' : World) => dcPiece_any a b (placesR c row lv).length w')
  have hpcB : pieceB a b (placesR c row lv).length = true := by unfold pieceB; simp; omega
  rw [hpcB] at HPC
  have HMK := hide (cells_meant c row lv (fun x hx => (hrow.cells x hx).1.byte) hab hbl ⟨3, lv, lb⟩)
  have HRW := hide (fun (w' : World) (hb : Below w.heap.size w w') (first last : Nat) => rwRaise_any c row g 74 n f pv B lv lb first last w' (hce.below hb) (hbox.below hb hbox.lt).row hne hn hf hR.labels (fun x hx => (hrow.cells x hx).1) hR.lat hlv hlb (by decide) (by have := hrow.length; omega))
  have HPB := hide (fun b' (h : pv.ownBlock = some b') => (hce.lt h).2)
  have hPl : (placesR c row lv).length ≤ 1200 := Nat.le_trans (placesR_ok c row lv (fun x hx => (hrow.cells x hx).1.byte)).1 hrow.length
  generalize hP : placesR c row lv = P at *
  clear hbox hrl hce hn hf hR hrow hlv hpcB hne hP
  clear hlb
  go_enter Tryz.func74, Tryz.ntmps74
  go_wp2_with fail
  refine (HQ.out).mono ?_
  rintro e w1 ⟨rfl, hb1⟩
  have i1 := (HBX.out.below hb1 hgl).is
  have a1 := (HBX.out.below hb1 hgl).at
  have r1 := (HBX.out.below hb1 hgl).not
  clear i0 a0 r0
  go_wp2_with fail
  refine (HQ2.out w1).mono ?_
  rintro e w1' ⟨rfl, hb1'⟩
  clear i1 a1 r1
  replace hb1 := hb1.trans (hb1'.mono hb1.size)
  clear hb1'
  go_wp2_with fail
  refine (HPL.out _ hb1).mono ?_
  rintro e w2 ⟨vl, rfl, hvl, hb2⟩
  have hbw := hb1.trans (hb2.mono hb1.size)
  have hw1s := hb1.size
  have HVL := hide hvl
  obtain ⟨ao, cap, hvv⟩ := hvl.shape
  subst hvv
  clear hb1 hb2 hvl
  go_wp2_with fail
  refine (HPC.out _).mono ?_
  rintro e w2' ⟨rfl, rfl⟩
  obtain ⟨gp, cp, hvv, hgp0, hgp⟩ := HVL.out.form (by omega)
  simp only [Value.slice.injEq] at hvv
  obtain ⟨rfl, _, rfl⟩ := hvv
  have hea : P[a]? = some (P[a]'(by omega)) := List.getElem?_eq_getElem (by omega)
  have heb : P[b - 1]? = some (P[b - 1]'(by omega)) := List.getElem?_eq_getElem (by omega)
  have p1 := HVL.out.cell (show ∀ a, (placeV a).length = 3 from fun _ => rfl) rfl hea (j := 1) (by omega)
  have p2 := HVL.out.cell (show ∀ a, (placeV a).length = 3 from fun _ => rfl) rfl heb (j := 2) (by omega)
  have hfa : plAt P a = P[a]'(by omega) := plAt_lt (by omega)
  have hlb1 : plAt P (b - 1) = P[b - 1]'(by omega) := plAt_lt (by omega)
  rw [hfa, hlb1] at HMK
  generalize (P[a]'(by omega)) = pa at *
  generalize (P[b - 1]'(by omega)) = pb at *
  obtain ⟨m, hm1, hm2⟩ : ∃ m : Nat, (b : Int) - 1 = (m : Int) ∧ b - 1 = m := ⟨b - 1, by omega, rfl⟩
  have hmi : (m : Int) < (P.length : Int) := by omega
  have hai : (a : Int) < (P.length : Int) := by omega
  have hwm : IntKind.i64.wrap (m : Int) = (m : Int) := by rw [IntKind.wrap_i64]; omega
  rw [hm2] at p2
  obtain ⟨pa1, pa2, pa3⟩ := pa
  obtain ⟨pb1, pb2, pb3⟩ := pb
  have p1' : w2.cell? ⟨gp, a * 3 + 1, none⟩ = some (.int .i64 pa2) := p1
  have p2' : w2.cell? ⟨gp, m * 3 + 2, none⟩ = some (.int .i64 pb3) := p2
  simp only at HMK
  have HRX := hide (HRW.out w2.drew hbw.drew pa2 pb3)
  rw [← HMK.out] at HRX
  generalize hML : markAll row (cellsTo c row lv P a b) ⟨3, lv, lb⟩ = row' at *
  have hnf : ¬ pv.ownBlock = some gp := fun h => by have := HPB.out gp h; omega
  have HNF := hide hnf
  have HML := hide hML
  have HM2 := hide hm2
  clear hea heb p1 p2 hfa hlb1 hm2 hML
  go_wp2_with fail
  refine wp_region_held_drew (S := (fun w' => w'.cell? ⟨gp, a * 3 + 1, none⟩ = some (.int .i64 pa2) ∧ w'.cell? ⟨gp, m * 3 + 2, none⟩ = some (.int .i64 pb3))) (by kernel_rfl) ?_ (fun hHeld => ?_)
  · exact ⟨p1', p2'⟩
  refine takeW 0 (some 37) ?_ rfl rfl (by kernel_rfl) (by kernel_rfl) (by kernel_rfl) (fun _ _ _ h => h) ?_ (by assumption) ?_
  rotate_left 1
  · (intro o ho w hSw; obtain rfl := Option.some.inj ho; clear ho; (try dsimp only at hSw); go_simp; try (with_reducible rfl))
  (try simp only [Act.put, List.setIfInBounds_toArray, List.set_cons_zero, List.set_cons_succ])
  refine takeW 1 (some 38) ?_ rfl rfl (by kernel_rfl) (by kernel_rfl) (by kernel_rfl) (fun _ _ _ h => h) ?_ (by assumption) ?_
  rotate_left 1
  · (intro o ho w hSw; obtain rfl := Option.some.inj ho; clear ho; (try dsimp only at hSw); go_simp; try (with_reducible rfl))
  (try simp only [Act.put, List.setIfInBounds_toArray, List.set_cons_zero, List.set_cons_succ])
  refine takeW 2 (some 39) ?_ rfl rfl (by kernel_rfl) (by kernel_rfl) (by kernel_rfl) (fun _ _ _ h => h) ?_ (by assumption) ?_
  rotate_left 1
  · (intro o ho w hSw; obtain rfl := Option.some.inj ho; clear ho; (try dsimp only at hSw); go_simp; try (with_reducible rfl))
  (try simp only [Act.put, List.setIfInBounds_toArray, List.set_cons_zero, List.set_cons_succ])
  refine takeW 3 (some 40) ?_ rfl rfl (by kernel_rfl) (by kernel_rfl) (by kernel_rfl) (fun _ _ _ h => h) ?_ (by assumption) ?_
  rotate_left 1
  · (intro o ho w hSw; obtain rfl := Option.some.inj ho; clear ho; (try dsimp only at hSw); go_simp; try (with_reducible rfl))
  (try simp only [Act.put, List.setIfInBounds_toArray, List.set_cons_zero, List.set_cons_succ])
  refine takeW 4 (some 41) ?_ rfl rfl (by kernel_rfl) (by kernel_rfl) (by kernel_rfl) (fun _ _ _ h => h) ?_ (by assumption) ?_
  rotate_left 1
  · (intro o ho w hSw; obtain rfl := Option.some.inj ho; clear ho; (try dsimp only at hSw); go_simp; try (with_reducible rfl))
  (try simp only [Act.put, List.setIfInBounds_toArray, List.set_cons_zero, List.set_cons_succ])
  refine takeW 5 (some 42) ?_ rfl rfl (by kernel_rfl) (by kernel_rfl) (by kernel_rfl) (fun _ _ _ h => h) ?_ (by assumption) ?_
  rotate_left 1
  · (intro o ho w hSw; obtain rfl := Option.some.inj ho; clear ho; (try dsimp only at hSw); go_simp; try (with_reducible rfl))
  (try simp only [Act.put, List.setIfInBounds_toArray, List.set_cons_zero, List.set_cons_succ])
  refine takeW 6 (some 43) ?_ rfl rfl (by kernel_rfl) (by kernel_rfl) (by kernel_rfl) (fun _ _ _ h => h) ?_ (by assumption) ?_
  rotate_left 1
  · (intro o ho w hSw; obtain rfl := Option.some.inj ho; clear ho; (try dsimp only at hSw); go_simp; try (with_reducible rfl))
  (try simp only [Act.put, List.setIfInBounds_toArray, List.set_cons_zero, List.set_cons_succ])
  refine takeW 7 (some 44) ?_ rfl rfl (by kernel_rfl) (by kernel_rfl) (by kernel_rfl) (fun _ _ _ h => h) ?_ (by assumption) ?_
  rotate_left 1
  · (intro o ho w hSw; obtain rfl := Option.some.inj ho; clear ho; (try dsimp only at hSw); go_simp; try (with_reducible rfl))
  (try simp only [Act.put, List.setIfInBounds_toArray, List.set_cons_zero, List.set_cons_succ])
  refine takeW 8 (some 45) ?_ rfl rfl (by kernel_rfl) (by kernel_rfl) (by kernel_rfl) (fun _ _ _ h => h) ?_ (by assumption) ?_
  rotate_left 1
  · (intro o ho w hSw; obtain rfl := Option.some.inj ho; clear ho; (try dsimp only at hSw); go_simp; try (with_reducible rfl))
  (try simp only [Act.put, List.setIfInBounds_toArray, List.set_cons_zero, List.set_cons_succ])
  refine takeW 9 (some 46) ?_ rfl rfl (by kernel_rfl) (by kernel_rfl) (by kernel_rfl) (fun _ _ _ h => h) ?_ (by assumption) ?_
  rotate_left 1
  · (intro o ho w hSw; obtain rfl := Option.some.inj ho; clear ho; (try dsimp only at hSw); go_simp; try (with_reducible rfl))
  (try simp only [Act.put, List.setIfInBounds_toArray, List.set_cons_zero, List.set_cons_succ])
  refine takeW 10 (some 47) ?_ rfl rfl (by kernel_rfl) (by kernel_rfl) (by kernel_rfl) (fun _ _ _ h => h) ?_ (by assumption) ?_
  rotate_left 1
  · (intro o ho w hSw; obtain rfl := Option.some.inj ho; clear ho; (try dsimp only at hSw); go_simp; try (with_reducible rfl))
  (try simp only [Act.put, List.setIfInBounds_toArray, List.set_cons_zero, List.set_cons_succ])
  refine takeW 11 (some 48) ?_ rfl rfl (by kernel_rfl) (by kernel_rfl) (by kernel_rfl) (fun _ _ _ h => h) ?_ (by assumption) ?_
  rotate_left 1
  · (intro o ho w hSw; obtain rfl := Option.some.inj ho; clear ho; (try dsimp only at hSw); go_simp; try (with_reducible rfl))
  (try simp only [Act.put, List.setIfInBounds_toArray, List.set_cons_zero, List.set_cons_succ])
  refine takeW 12 (some 49) ?_ rfl rfl (by kernel_rfl) (by kernel_rfl) (by kernel_rfl) (fun _ _ _ h => h) ?_ (by assumption) ?_
  rotate_left 1
  · (intro o ho w hSw; obtain rfl := Option.some.inj ho; clear ho; (try dsimp only at hSw); go_simp; try (with_reducible rfl))
  (try simp only [Act.put, List.setIfInBounds_toArray, List.set_cons_zero, List.set_cons_succ])
  refine takeW 13 (some 50) ?_ rfl rfl (by kernel_rfl) (by kernel_rfl) (by kernel_rfl) (fun _ _ _ h => h) ?_ (by assumption) ?_
  rotate_left 1
  · (intro o ho w hSw; obtain rfl := Option.some.inj ho; clear ho; (try dsimp only at hSw); go_simp; try (with_reducible rfl))
  (try simp only [Act.put, List.setIfInBounds_toArray, List.set_cons_zero, List.set_cons_succ])
  refine takeW 14 (some 51) ?_ rfl rfl (by kernel_rfl) (by kernel_rfl) (by kernel_rfl) (fun _ _ _ h => h) ?_ (by assumption) ?_
  rotate_left 1
  · (intro o ho w hSw; obtain rfl := Option.some.inj ho; clear ho; (try dsimp only at hSw); go_simp; try (with_reducible rfl))
  (try simp only [Act.put, List.setIfInBounds_toArray, List.set_cons_zero, List.set_cons_succ])
  refine takeW 15 (some 52) ?_ rfl rfl (by kernel_rfl) (by kernel_rfl) (by kernel_rfl) (fun _ _ _ h => h) ?_ (by assumption) ?_
  rotate_left 1
  · (intro o ho w hSw; obtain rfl := Option.some.inj ho; clear ho; (try dsimp only at hSw); go_simp; try (with_reducible rfl))
  (try simp only [Act.put, List.setIfInBounds_toArray, List.set_cons_zero, List.set_cons_succ])
  refine wpAnyH_ready (rs := [16]) (by kernel_rfl) (by simp) ?_
  refine AllReadyH.cons rfl (fun K hK => ?_) AllReadyH.nil
  go_simp
  go_wp2_with (go_at_call 107; refine (HRX.out).mono ?_; rintro e w3 ⟨rfl, hown3, honly3⟩; have z1 := (honly3.cellAt (a := ⟨gp, a * 3 + 1, none⟩) hgp hnf).trans p1'; have z2 := (honly3.cellAt (a := ⟨gp, m * 3 + 2, none⟩) hgp hnf).trans p2')
  refine hK.out _ _ ?_ (fun hHeld => ?_)
  · exact ⟨z1, z2⟩
  clear hK K
  refine wpAnyH_done (by kernel_rfl) ?_ _
  have HO3 := hide hown3
  have HN3 := hide ((Only.of_below (F := fun k => pv.ownBlock = some k) hbw.drew).trans honly3 (fun k h => Or.inl h))
  clear hown3 honly3
  go_wp2
  go_ret
  exact ⟨rfl, by rw [HML.out]; exact HO3.out, HN3.out⟩
end Go.Proofs.YthgcpjdlcooncaaGreat
