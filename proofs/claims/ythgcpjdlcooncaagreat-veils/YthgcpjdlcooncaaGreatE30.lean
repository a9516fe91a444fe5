/- StepAsked, StepOpen, StepDoc, AskLaw, OpenCfgs. -/
import Derived.Test.YthgcpjdlcooncaaGreatE29
import Derived.Deep.RegionHeld
import Derived.Test.YthgcpjdlcooncaaGreatE23
namespace Go.Proofs.YthgcpjdlcooncaaGreat
open Go.RowKit Veil
theorem asked_any (c : Cfg) (v : CfgV) (o : OpR) (w : World) (h1 : 1 ≤ o.kind) (h4 : o.kind ≤ 4) (hok : CfgOk c) (hat : CfgAt w c v) (hnil : CfgNil c v) :
    Calls Tryz.prog 19 #[.agg (cfgCells c v), .agg o.cells] w fun e w' => e = .returned (.bool true) ∧ Below w.heap.size w w' := by
  obtain ⟨kind, a, b, cc, d, e0, s, t⟩ := o
  simp only at h1 h4
  have : kind = 1 ∨ kind = 2 ∨ kind = 3 ∨ kind = 4 := by omega
  rcases this with rfl | rfl | rfl | rfl
  · exact asked_1 c v a b cc d e0 s t w hok hat hnil
  · exact asked_2 c v a b cc d e0 s t w hok hat hnil
  · exact asked_3 c v a b cc d e0 s t w hok hat hnil
  · exact asked_4 c v a b cc d e0 s t w hok hat hnil
def pickI (c n : Int) : Int := (if c < 0 then -(c + 1) else c).tmod n
theorem pickI_lt {c : Int} {n : Nat} (hc : -9223372036854775808 ≤ c) (hn : 0 < n) : ∃ i : Nat, pickI c n = i ∧ i < n := by
  have h0 : 0 ≤ (if c < 0 then -(c + 1) else c) := by split <;> omega
  have h1 : 0 ≤ pickI c n := Int.tmod_nonneg _ h0
  have h2 : pickI c n < n := Int.tmod_lt_of_pos _ (by omega)
  obtain ⟨i, hi⟩ := Int.eq_ofNat_of_zero_le h1
  exact ⟨i, hi, by omega⟩
set_option maxHeartbeats 1000000 in
theorem pick_any (c : Int) (n : Nat) (w : World) (hc : -9223372036854775808 ≤ c ∧ c ≤ 9223372036854775807) (hn : 0 < n) (hn2 : n < 2 ^ 57) :
    Calls Tryz.prog 17 #[.int .i64 c, .int .i64 n] w fun e w' => e = .returned (.int .i64 (pickI c n)) ∧ w = w' := by
  have hn3 : (0 : Int) < (n : Int) := by omega
  have hn4 : ((n : Int) == 0) = false := by simp; omega
  have hn5 : ((n : Int) == -1) = false := by simp
  by_cases h : c < 0
  · have HP := hide (show pickI c n = (-(c + 1)).tmod n by unfold pickI; rw [if_pos h])
    go_enter Tryz.func17, Tryz.ntmps17
    go_wp2
    go_ret
    exact ⟨by rw [HP.out, Int.neg_tmod]; rfl, rfl⟩
  · have HP := hide (show pickI c n = c.tmod n by unfold pickI; rw [if_neg h])
    go_enter Tryz.func17, Tryz.ntmps17
    go_wp2
    go_ret
    exact ⟨by rw [HP.out, Int.tmod_eq_emod_of_nonneg (by omega)]; rfl, rfl⟩
/-- Where the configurations lie. -/
def CfgsAt (w : World) (co : Option Addr) (n : Nat) (cs : Nat → Cfg) (vs : Nat → CfgV) : Prop :=
  n = 0 ∨ ∃ b off, co = some ⟨b, off, none⟩ ∧ b < w.heap.size ∧ ∀ i, i < n → (∀ j, j < 4 → w.cell? ⟨b, off + i * 4 + j, none⟩ = (cfgCells (cs i) (vs i))[j]?) ∧ CfgOk (cs i) ∧ CfgAt w (cs i) (vs i) ∧ CfgNil (cs i) (vs i)
set_option maxRecDepth 100000 in
set_option maxHeartbeats 8000000 in
theorem step_asked (co : Option Addr) (cn cap : Nat) (cs : Nat → Cfg) (vs : Nat → CfgV) (o : OpR) (g : Nat) (w0 w : World) (h1 : 1 ≤ o.kind) (h4 : o.kind ≤ 4) (ha : -9223372036854775808 ≤ o.a ∧ o.a ≤ 9223372036854775807) (hcn : cn < 2 ^ 57)
    (hb : Below w0.heap.size w0 w) (hw : PlainW w g (.slice co cn cap)) (hcs : CfgsAt w0 co cn cs vs) :
    Calls Tryz.prog 13 #[.pointer (some ⟨g, 0, none⟩), .agg o.cells] w fun e w'' => e = .returned (.bool true) ∧ Below w.heap.size w w'' := by
  obtain ⟨p0, p1, p2, p3, p4⟩ := hw.cells
  have hgl := hw.lt
  have HK := hide (And.intro h1 h4)
  have HASK := hide (fun (c : Cfg) (v : CfgV) (w' : World) => asked_any c v o w' h1 h4)
  obtain ⟨kind, a, b, cc, d, e0, s, t⟩ := o
  simp only at h1 h4 ha HK
  unfold OpR.cells at *
  have t5 : (kind == 5) = false := by simp; omega
  have t6 : (kind == 6) = false := by simp; omega
  have t66 : kind ≤ 6 := by omega
  have hbx := below_box w (.cells #[.int .i64 kind, .int .i64 a, .int .i64 b, .int .i64 cc, .int .i64 d, .int .i64 e0, .string s, .string t] 35)
  by_cases hz : cn = 0
  · have hz' : ((cn : Int) == 0) = true := by simp; omega
    clear hcs HASK hw
    go_enter Tryz.func13, Tryz.ntmps13
    go_wp2
    go_ret
    exact ⟨rfl, hbx⟩
  · have hz' : ((cn : Int) == 0) = false := by simp; omega
    obtain ⟨i, hi, hil⟩ := pickI_lt (c := a) (n := cn) ha.1 (by omega)
    have HPICK : Hid (∀ w', Calls Tryz.prog 17 #[.int .i64 a, .int .i64 cn] w' fun e w'' => e = .returned (.int .i64 i) ∧ w' = w'') := fun w' => by rw [← hi]; exact pick_any a cn w' ha (by omega) hcn
    rcases hcs with h | ⟨b1, off, rfl, hbl, hall⟩
    · exact absurd h hz
    obtain ⟨hc, hok, hat, hnil⟩ := hall i hil
    have HASK2 := hide (fun w' (hb' : Below w0.heap.size w0 w') => HASK.out (cs i) (vs i) w' hok (hat.below hb') hnil)
    have d0 : w.cell? ⟨b1, off + i * 4, none⟩ = some (.int .i64 (cs i).labels) := (hb.cell (p := ⟨b1, off + i * 4, none⟩) hbl).trans (hc 0 (by omega))
    have d1 : w.cell? ⟨b1, off + i * 4 + 1, none⟩ = some (.slice (vs i).ea (cs i).edges.length (vs i).ec) := (hb.cell (p := ⟨b1, off + i * 4 + 1, none⟩) hbl).trans (hc 1 (by omega))
    have d2 : w.cell? ⟨b1, off + i * 4 + 2, none⟩ = some (.slice (vs i).ra (cs i).rules.length (vs i).rc) := (hb.cell (p := ⟨b1, off + i * 4 + 2, none⟩) hbl).trans (hc 2 (by omega))
    have d3 : w.cell? ⟨b1, off + i * 4 + 3, none⟩ = some (.slice (vs i).ga (cs i).grants.length (vs i).gc) := (hb.cell (p := ⟨b1, off + i * 4 + 3, none⟩) hbl).trans (hc 3 (by omega))
    have hili : (i : Int) < (cn : Int) := by omega
    have hb1w : b1 < w.heap.size := Nat.lt_of_lt_of_le hbl hb.size
    unfold cfgCells at *
    generalize cs i = C at *
    generalize vs i = V at *
    clear hc hok hat hnil hall HASK hw hi hz
    go_enter Tryz.func13, Tryz.ntmps13
    go_wp2_with fail
    first | (go_region_held (fun w' => w'.cell? ⟨g, 0, none⟩ = some (.slice (some ⟨b1, off, none⟩) cn cap) ∧ w'.cell? ⟨w.heap.size, 1, none⟩ = some (.int .i64 a) ∧ w'.cell? ⟨b1, off + i * 4, none⟩ = some (.int .i64 C.labels) ∧ w'.cell? ⟨b1, off + i * 4 + 1, none⟩ = some (.slice V.ea C.edges.length V.ec) ∧ w'.cell? ⟨b1, off + i * 4 + 2, none⟩ = some (.slice V.ra C.rules.length V.rc) ∧ w'.cell? ⟨b1, off + i * 4 + 3, none⟩ = some (.slice V.ga C.grants.length V.gc)) (go_keep) (first | (go_at_call 17; refine (HPICK.out _).mono ?_; rintro e w1 ⟨rfl, rfl⟩))) | fail "no"
    all_goals
      go_wp2_with fail
      have hbelA : Below w.heap.size w ((((w.alloc (.cells #[.int .i64 kind, .int .i64 a, .int .i64 b, .int .i64 cc, .int .i64 d, .int .i64 e0, .string s, .string t] 35)).alloc (.cells #[.int .i64 C.labels, .slice V.ea C.edges.length V.ec, .slice V.ra C.rules.length V.rc, .slice V.ga C.grants.length V.gc] 46))).drew) := (hbx.alloc hbx.size _).drew
      refine (HASK2.out _ (hb.trans (hbelA.mono hb.size))).mono ?_
      rintro e w9 ⟨rfl, hb9⟩
      have hbel9 := hbelA.trans (hb9.mono hbelA.size)
      clear hb9 hbelA
      go_wp2
      go_ret
      exact ⟨rfl, hbel9⟩
end Go.Proofs.YthgcpjdlcooncaaGreat
namespace Go.Proofs.YthgcpjdlcooncaaGreat
open Go.RowKit Veil
set_option maxRecDepth 100000 in
set_option maxHeartbeats 8000000 in
theorem step_open (co : Option Addr) (cn cap : Nat) (cs : Nat → Cfg) (vs : Nat → CfgV) (o : OpR) (g : Nat) (w0 w : World) (C : World → Prop) (hk6 : o.kind = 6) (ha : -9223372036854775808 ≤ o.a ∧ o.a ≤ 9223372036854775807) (hcn : cn < 2 ^ 57)
    (hb : Below w0.heap.size w0 w) (hgl : g < w.heap.size) (p0 : w.cell? ⟨g, 0, none⟩ = some (.slice co cn cap)) (hcs : CfgsAt w0 co cn cs vs)
    (hN : ∀ w', Below w.heap.size w w' → cn = 0 → C w') (hO : ∀ i w', i < cn → Below w.heap.size w w' → CfgOk (cs i) → CfgAt w' (cs i) (vs i) → CfgNil (cs i) (vs i) → Calls Tryz.prog 18 #[.pointer (some ⟨g, 0, none⟩), .agg (cfgCells (cs i) (vs i))] w' fun e w'' => e = .returned (.bool true) ∧ C w'') :
    Calls Tryz.prog 13 #[.pointer (some ⟨g, 0, none⟩), .agg o.cells] w fun e w'' => e = .returned (.bool true) ∧ C w'' := by
  have HNN := hide hN
  have HOO := hide hO
  clear hN hO
  obtain ⟨kind, a, b, cc, d, e0, s, t⟩ := o
  simp only at hk6 ha
  subst hk6
  unfold OpR.cells at *
  have hbx := below_box w (.cells #[.int .i64 6, .int .i64 a, .int .i64 b, .int .i64 cc, .int .i64 d, .int .i64 e0, .string s, .string t] 35)
  by_cases hz : cn = 0
  · have hz' : ((cn : Int) == 0) = true := by simp; omega
    clear hcs HOO
    go_enter Tryz.func13, Tryz.ntmps13
    go_wp2
    go_ret
    exact ⟨rfl, HNN.out _ hbx hz⟩
  · have hz' : ((cn : Int) == 0) = false := by simp; omega
    obtain ⟨i, hi, hil⟩ := pickI_lt (c := a) (n := cn) ha.1 (by omega)
    have HPICK : Hid (∀ w', Calls Tryz.prog 17 #[.int .i64 a, .int .i64 cn] w' fun e w'' => e = .returned (.int .i64 i) ∧ w' = w'') := fun w' => by rw [← hi]; exact pick_any a cn w' ha (by omega) hcn
    rcases hcs with h | ⟨b1, off, rfl, hbl, hall⟩
    · exact absurd h hz
    obtain ⟨hc, hok, hat, hnil⟩ := hall i hil
    have HASK2 := hide (fun w' (hb' : Below w.heap.size w w') => HOO.out i w' hil hb' hok (hat.below (hb.trans (hb'.mono hb.size))) hnil)
    have d0 : w.cell? ⟨b1, off + i * 4, none⟩ = some (.int .i64 (cs i).labels) := (hb.cell (p := ⟨b1, off + i * 4, none⟩) hbl).trans (hc 0 (by omega))
    have d1 : w.cell? ⟨b1, off + i * 4 + 1, none⟩ = some (.slice (vs i).ea (cs i).edges.length (vs i).ec) := (hb.cell (p := ⟨b1, off + i * 4 + 1, none⟩) hbl).trans (hc 1 (by omega))
    have d2 : w.cell? ⟨b1, off + i * 4 + 2, none⟩ = some (.slice (vs i).ra (cs i).rules.length (vs i).rc) := (hb.cell (p := ⟨b1, off + i * 4 + 2, none⟩) hbl).trans (hc 2 (by omega))
    have d3 : w.cell? ⟨b1, off + i * 4 + 3, none⟩ = some (.slice (vs i).ga (cs i).grants.length (vs i).gc) := (hb.cell (p := ⟨b1, off + i * 4 + 3, none⟩) hbl).trans (hc 3 (by omega))
    have hili : (i : Int) < (cn : Int) := by omega
    have hb1w : b1 < w.heap.size := Nat.lt_of_lt_of_le hbl hb.size
    unfold cfgCells at *
    generalize cs i = C at *
    generalize vs i = V at *
    clear hc hok hat hnil hall HOO hi hz
    go_enter Tryz.func13, Tryz.ntmps13
    go_wp2_with fail
    first | (go_region_held (fun w' => w'.cell? ⟨g, 0, none⟩ = some (.slice (some ⟨b1, off, none⟩) cn cap) ∧ w'.cell? ⟨w.heap.size, 1, none⟩ = some (.int .i64 a) ∧ w'.cell? ⟨b1, off + i * 4, none⟩ = some (.int .i64 C.labels) ∧ w'.cell? ⟨b1, off + i * 4 + 1, none⟩ = some (.slice V.ea C.edges.length V.ec) ∧ w'.cell? ⟨b1, off + i * 4 + 2, none⟩ = some (.slice V.ra C.rules.length V.rc) ∧ w'.cell? ⟨b1, off + i * 4 + 3, none⟩ = some (.slice V.ga C.grants.length V.gc)) (go_keep) (first | (go_at_call 17; refine (HPICK.out _).mono ?_; rintro e w1 ⟨rfl, rfl⟩))) | fail "no"
    all_goals
      go_wp2_with fail
      have hbelA : Below w.heap.size w ((((w.alloc (.cells #[.int .i64 6, .int .i64 a, .int .i64 b, .int .i64 cc, .int .i64 d, .int .i64 e0, .string s, .string t] 35)).alloc (.cells #[.int .i64 C.labels, .slice V.ea C.edges.length V.ec, .slice V.ra C.rules.length V.rc, .slice V.ga C.grants.length V.gc] 46))).drew) := (hbx.alloc hbx.size _).drew
      refine (HASK2.out _ hbelA).mono ?_
      rintro e w9 ⟨rfl, hb9⟩
      have HC9 := hide hb9
      clear hb9 hbelA
      go_wp2
      go_ret
      exact ⟨rfl, HC9.out⟩
end Go.Proofs.YthgcpjdlcooncaaGreat
namespace Go.Proofs.YthgcpjdlcooncaaGreat
open Go.RowKit Veil
set_option maxRecDepth 100000 in
set_option maxHeartbeats 8000000 in
theorem step_none (gw : Nat) (o : OpR) (dcap : Nat) (dao : Option Addr) (w : World) (h7 : 7 ≤ o.kind) (h17 : o.kind ≤ 17) (hds : w.cell? ⟨gw, 1, none⟩ = some (.slice dao 0 dcap)) :
    Calls Tryz.prog 13 #[.pointer (some ⟨gw, 0, none⟩), .agg o.cells] w fun e w' => e = .returned (.bool true) ∧ Below w.heap.size w w' := by
  obtain ⟨kind, a, b, cc, d, e0, s0, t0⟩ := o
  simp only at h7 h17
  have t5 : (kind == 5) = false := by simp; omega
  have t1 : 1 ≤ kind := by omega
  have t6 : decide (kind ≤ 6) = false := by simp; omega
  have t7 : decide (kind < 7) = false := by simp; omega
  have t17 : decide (17 < kind) = false := by simp; omega
  have hgl : gw < w.heap.size := by have := Go.block_lt_of_cell hds; exact this
  unfold OpR.cells
  simp only
  have hbx := below_box w (.cells #[.int .i64 kind, .int .i64 a, .int .i64 b, .int .i64 cc, .int .i64 d, .int .i64 e0, .string s0, .string t0] 35)
  go_enter Tryz.func13, Tryz.ntmps13
  go_wp2
  go_ret
  exact ⟨rfl, hbx⟩
set_option maxRecDepth 100000 in
set_option maxHeartbeats 8000000 in
theorem step_doc (gw db dn dcap i pd rd : Nat) (o : OpR) (C : World → Prop) (w : World) (h7 : 7 ≤ o.kind) (h17 : o.kind ≤ 17) (ha : -9223372036854775808 ≤ o.a ∧ o.a ≤ 9223372036854775807) (hdn : dn < 2 ^ 57) (hi : pickI o.a dn = i) (hil : i < dn)
    (hds : w.cell? ⟨gw, 1, none⟩ = some (.slice (some ⟨db, 0, none⟩) dn dcap)) (hp0 : w.cell? ⟨db, i * 2, none⟩ = some (.pointer (some ⟨pd, 0, none⟩))) (hp1 : w.cell? ⟨db, i * 2 + 1, none⟩ = some (.pointer (some ⟨rd, 0, none⟩)))
    (hO : ∀ w', Below w.heap.size w w' → Calls Tryz.prog 20 #[.pointer (some ⟨gw, 0, none⟩), .agg (pairC pd rd), .agg o.cells] w' fun e w'' => e = .returned (.bool true) ∧ C w'' ∧ ∀ k, k = gw ∨ k = db ∨ w.heap.size ≤ k → k < w'.heap.size → w''.heap[k]? = w'.heap[k]?) :
    Calls Tryz.prog 13 #[.pointer (some ⟨gw, 0, none⟩), .agg o.cells] w fun e w' => e = .returned (.bool true) ∧ C w' := by
  have HO := hide hO
  clear hO
  obtain ⟨kind, a, b, cc, d, e0, s0, t0⟩ := o
  simp only at h7 h17 ha hi
  have HPICK : Hid (∀ w', Calls Tryz.prog 17 #[.int .i64 a, .int .i64 dn] w' fun e w'' => e = .returned (.int .i64 i) ∧ w' = w'') := fun w' => by rw [← hi]; exact pick_any a dn w' ha (by omega) hdn
  have t5 : (kind == 5) = false := by simp; omega
  have t1 : 1 ≤ kind := by omega
  have t6 : decide (kind ≤ 6) = false := by simp; omega
  have t7 : decide (kind < 7) = false := by simp; omega
  have t17 : decide (17 < kind) = false := by simp; omega
  have td : ((dn : Int) == 0) = false := by simp; omega
  have hii : (i : Int) < (dn : Int) := by omega
  have hgl : gw < w.heap.size := by have := Go.block_lt_of_cell hds; exact this
  have hdl : db < w.heap.size := by have := Go.block_lt_of_cell hp0; exact this
  unfold OpR.cells pairC at *
  simp only at *
  have hbx := below_box w (.cells #[.int .i64 kind, .int .i64 a, .int .i64 b, .int .i64 cc, .int .i64 d, .int .i64 e0, .string s0, .string t0] 35)
  have HNA := hide (Go.heap_alloc_new w (.cells #[.int .i64 kind, .int .i64 a, .int .i64 b, .int .i64 cc, .int .i64 d, .int .i64 e0, .string s0, .string t0] 35))
  have HO1 := hide (HO.out _ hbx.drew)
  have g1 := (hbx.cell (p := ⟨gw, 1, none⟩) hgl).trans hds
  have p0 := (hbx.cell (p := ⟨db, i * 2, none⟩) hdl).trans hp0
  have p1 := (hbx.cell (p := ⟨db, i * 2 + 1, none⟩) hdl).trans hp1
  have b0 : (w.alloc (.cells #[.int .i64 kind, .int .i64 a, .int .i64 b, .int .i64 cc, .int .i64 d, .int .i64 e0, .string s0, .string t0] 35)).cell? ⟨w.heap.size, 0, none⟩ = some (.int .i64 kind) := (cell_of_row _ _ _ _ _ _ HNA.out).trans rfl
  have b1 : (w.alloc (.cells #[.int .i64 kind, .int .i64 a, .int .i64 b, .int .i64 cc, .int .i64 d, .int .i64 e0, .string s0, .string t0] 35)).cell? ⟨w.heap.size, 1, none⟩ = some (.int .i64 a) := (cell_of_row _ _ _ _ _ _ HNA.out).trans rfl
  have b2 : (w.alloc (.cells #[.int .i64 kind, .int .i64 a, .int .i64 b, .int .i64 cc, .int .i64 d, .int .i64 e0, .string s0, .string t0] 35)).cell? ⟨w.heap.size, 2, none⟩ = some (.int .i64 b) := (cell_of_row _ _ _ _ _ _ HNA.out).trans rfl
  have b3 : (w.alloc (.cells #[.int .i64 kind, .int .i64 a, .int .i64 b, .int .i64 cc, .int .i64 d, .int .i64 e0, .string s0, .string t0] 35)).cell? ⟨w.heap.size, 3, none⟩ = some (.int .i64 cc) := (cell_of_row _ _ _ _ _ _ HNA.out).trans rfl
  have b4 : (w.alloc (.cells #[.int .i64 kind, .int .i64 a, .int .i64 b, .int .i64 cc, .int .i64 d, .int .i64 e0, .string s0, .string t0] 35)).cell? ⟨w.heap.size, 4, none⟩ = some (.int .i64 d) := (cell_of_row _ _ _ _ _ _ HNA.out).trans rfl
  have b5 : (w.alloc (.cells #[.int .i64 kind, .int .i64 a, .int .i64 b, .int .i64 cc, .int .i64 d, .int .i64 e0, .string s0, .string t0] 35)).cell? ⟨w.heap.size, 5, none⟩ = some (.int .i64 e0) := (cell_of_row _ _ _ _ _ _ HNA.out).trans rfl
  have b6 : (w.alloc (.cells #[.int .i64 kind, .int .i64 a, .int .i64 b, .int .i64 cc, .int .i64 d, .int .i64 e0, .string s0, .string t0] 35)).cell? ⟨w.heap.size, 6, none⟩ = some (.string s0) := (cell_of_row _ _ _ _ _ _ HNA.out).trans rfl
  have b7 : (w.alloc (.cells #[.int .i64 kind, .int .i64 a, .int .i64 b, .int .i64 cc, .int .i64 d, .int .i64 e0, .string s0, .string t0] 35)).cell? ⟨w.heap.size, 7, none⟩ = some (.string t0) := (cell_of_row _ _ _ _ _ _ HNA.out).trans rfl
  clear hi ha hds hp0 hp1
  go_enter Tryz.func13, Tryz.ntmps13
  go_wp2_with fail
  first | (go_region_held (fun w' => w'.cell? ⟨gw, 1, none⟩ = some (.slice (some ⟨db, 0, none⟩) dn dcap) ∧ w'.cell? ⟨db, i * 2, none⟩ = some (.pointer (some ⟨pd, 0, none⟩)) ∧ w'.cell? ⟨db, i * 2 + 1, none⟩ = some (.pointer (some ⟨rd, 0, none⟩)) ∧ w'.cell? ⟨w.heap.size, 0, none⟩ = some (.int .i64 kind) ∧ w'.cell? ⟨w.heap.size, 1, none⟩ = some (.int .i64 a) ∧ w'.cell? ⟨w.heap.size, 2, none⟩ = some (.int .i64 b) ∧ w'.cell? ⟨w.heap.size, 3, none⟩ = some (.int .i64 cc) ∧ w'.cell? ⟨w.heap.size, 4, none⟩ = some (.int .i64 d) ∧ w'.cell? ⟨w.heap.size, 5, none⟩ = some (.int .i64 e0) ∧ w'.cell? ⟨w.heap.size, 6, none⟩ = some (.string s0) ∧ w'.cell? ⟨w.heap.size, 7, none⟩ = some (.string t0)) (go_keep) (first | (go_at_call 17; refine (HPICK.out _).mono ?_; rintro e w9 ⟨rfl, rfl⟩) | (go_at_call 20; refine (HO1.out).mono ?_; rintro e w5 ⟨rfl, hC, hkeep⟩; have z1 := (World.cell?_of_block (a := ⟨gw, 1, none⟩) (hkeep gw (Or.inl rfl) (by simp; omega))).trans g1; have z2 := (World.cell?_of_block (a := ⟨db, i * 2, none⟩) (hkeep db (Or.inr (Or.inl rfl)) (by simp; omega))).trans p0; have z3 := (World.cell?_of_block (a := ⟨db, i * 2 + 1, none⟩) (hkeep db (Or.inr (Or.inl rfl)) (by simp; omega))).trans p1; have y0 := (World.cell?_of_block (a := ⟨w.heap.size, 0, none⟩) (hkeep w.heap.size (Or.inr (Or.inr (Nat.le_refl _))) (by simp))).trans b0; have y1 := (World.cell?_of_block (a := ⟨w.heap.size, 1, none⟩) (hkeep w.heap.size (Or.inr (Or.inr (Nat.le_refl _))) (by simp))).trans b1; have y2 := (World.cell?_of_block (a := ⟨w.heap.size, 2, none⟩) (hkeep w.heap.size (Or.inr (Or.inr (Nat.le_refl _))) (by simp))).trans b2; have y3 := (World.cell?_of_block (a := ⟨w.heap.size, 3, none⟩) (hkeep w.heap.size (Or.inr (Or.inr (Nat.le_refl _))) (by simp))).trans b3; have y4 := (World.cell?_of_block (a := ⟨w.heap.size, 4, none⟩) (hkeep w.heap.size (Or.inr (Or.inr (Nat.le_refl _))) (by simp))).trans b4; have y5 := (World.cell?_of_block (a := ⟨w.heap.size, 5, none⟩) (hkeep w.heap.size (Or.inr (Or.inr (Nat.le_refl _))) (by simp))).trans b5; have y6 := (World.cell?_of_block (a := ⟨w.heap.size, 6, none⟩) (hkeep w.heap.size (Or.inr (Or.inr (Nat.le_refl _))) (by simp))).trans b6; have y7 := (World.cell?_of_block (a := ⟨w.heap.size, 7, none⟩) (hkeep w.heap.size (Or.inr (Or.inr (Nat.le_refl _))) (by simp))).trans b7))) | fail "no"
  have HC := hide hC
  clear hC hkeep
  go_wp2
  go_ret
  exact ⟨rfl, HC.out⟩
end Go.Proofs.YthgcpjdlcooncaaGreat
namespace Go.Proofs.YthgcpjdlcooncaaGreat
open Go.RowKit Veil
theorem CfgsAt.below {w w' : World} {co : Option Addr} {n : Nat} {cs : Nat → Cfg} {vs : Nat → CfgV} (h : CfgsAt w co n cs vs) (hb : Below w.heap.size w w') : CfgsAt w' co n cs vs := by
  rcases h with h | ⟨b, off, h1, h2, h3⟩
  · exact Or.inl h
  · exact Or.inr ⟨b, off, h1, Nat.lt_of_lt_of_le h2 hb.size, fun i hi => ⟨fun j hj => (hb.cell (p := ⟨b, off + i * 4 + j, none⟩) h2).trans ((h3 i hi).1 j hj), (h3 i hi).2.1, (h3 i hi).2.2.1.below hb, (h3 i hi).2.2.2⟩⟩
theorem steps_asked {co : Option Addr} {cn cap : Nat} {cs : Nat → Cfg} {vs : Nat → CfgV} {n : Nat} {ops : Nat → OpR} {w : World} {L : List Int} (hcs : CfgsAt w co cn cs vs) (hcn : cn < 2 ^ 57) (hL : ∀ k, L.contains k = true → 1 ≤ k ∧ k ≤ 4)
    (ha : ∀ i, i < n → -9223372036854775808 ≤ (ops i).a ∧ (ops i).a ≤ 9223372036854775807) : StepsTrue w (.slice co cn cap) L n ops :=
  fun i hi hk w' g hb _ hp => step_asked co cn cap cs vs (ops i) g w w' (hL _ hk).1 (hL _ hk).2 (ha i hi) hcn hb hp hcs
set_option maxHeartbeats 1000000 in
theorem law_checks (co : Option Addr) (cn cc : Nat) (ao : Option Addr) (n cap : Nat) (ops : Nat → OpR) (cs : Nat → Cfg) (vs : Nat → CfgV) (w : World) (hops : OpsAt w ao n ops) (hn : n ≤ 140737488355328)
    (hcs : CfgsAt w co cn cs vs) (hcn : cn < 2 ^ 57) (ha : ∀ i, i < n → -9223372036854775808 ≤ (ops i).a ∧ (ops i).a ≤ 9223372036854775807) :
    Calls Tryz.prog 3 #[.slice co cn cc, .slice ao n cap] w fun e w' => e = .returned (.bool true) ∧ Below w.heap.size w w' := by
  have HO := hide hops
  have HC := hide hcs
  have HA := hide ha
  have HN := hide hcn
  clear hops hcs ha hcn
  go_enter Tryz.func3, Tryz.ntmps3
  go_wp2_with fail
  have hbel : ∀ o o' : Obj, Below w.heap.size w ((w.alloc o).alloc o') := fun o o' => ((Below.refl _ _).alloc (Nat.le_refl _) _).alloc (by simp) _
  refine (plays_plain co cn cc ao n cap ops w.heap.size (w.heap.size + 1) [1] _ (OpsAt.below HO.out (hbel _ _)) hn (heap_alloc2_old _ _ _) (heap_alloc2_new _ _ _) (by decide) ?_).mono ?_
  · exact steps_asked (HC.out.below (hbel _ _)) HN.out (fun k hk => by simp at hk; omega) HA.out
  · rintro e w1 ⟨rfl, hb1⟩
    have HB := hide ((hbel (.cells #[.int .i64 1] 3) (.cells #[.int .i64 1] 3)).trans (hb1.mono (by simp; omega)))
    clear hb1 hbel
    go_wp2
    go_ret
    exact ⟨rfl, HB.out⟩
set_option maxHeartbeats 1000000 in
theorem law_orders (co : Option Addr) (cn cc : Nat) (ao : Option Addr) (n cap : Nat) (ops : Nat → OpR) (cs : Nat → Cfg) (vs : Nat → CfgV) (w : World) (hops : OpsAt w ao n ops) (hn : n ≤ 140737488355328)
    (hcs : CfgsAt w co cn cs vs) (hcn : cn < 2 ^ 57) (ha : ∀ i, i < n → -9223372036854775808 ≤ (ops i).a ∧ (ops i).a ≤ 9223372036854775807) :
    Calls Tryz.prog 4 #[.slice co cn cc, .slice ao n cap] w fun e w' => e = .returned (.bool true) ∧ Below w.heap.size w w' := by
  have HO := hide hops
  have HC := hide hcs
  have HA := hide ha
  have HN := hide hcn
  clear hops hcs ha hcn
  go_enter Tryz.func4, Tryz.ntmps4
  go_wp2_with fail
  have hbel : ∀ o : Obj, Below w.heap.size w (w.alloc o) := fun o => (Below.refl _ _).alloc (Nat.le_refl _) _
  refine (plays_plain co cn cc ao n cap ops w.heap.size w.heap.size [2, 3, 4] _ (OpsAt.below HO.out (hbel _)) hn (Go.heap_alloc_new _ _) (Go.heap_alloc_new _ _) (by decide) ?_).mono ?_
  · exact steps_asked (HC.out.below (hbel _)) HN.out (fun k hk => by simp at hk; omega) HA.out
  · rintro e w1 ⟨rfl, hb1⟩
    have HB := hide ((hbel (.cells #[.int .i64 2, .int .i64 3, .int .i64 4] 3)).trans (hb1.mono (by simp)))
    clear hb1 hbel
    go_wp2
    go_ret
    exact ⟨rfl, HB.out⟩
end Go.Proofs.YthgcpjdlcooncaaGreat
namespace Go.Proofs.YthgcpjdlcooncaaGreat
open Go.RowKit Go.Deep Veil
section
variable {H : Type} {enc : TypeId × Value → H} {w : World} {spare : Nat → Bool} {held : Bool}
set_option maxRecDepth 100000 in
theorem open_cfgs {fuel : Nat} {ao : Option Addr} {n cap : Nat} {x : DataW H × List MemPlace} (h : DataW.trod enc Tryz.prog w 0 spare held fuel 22 [.slice ao n cap] = some x) (hz : (x.1.weights Tryz.prog 22).all (· ≤ reachBytes) = true) :
    ∃ (cs : Nat → Cfg) (vs : Nat → CfgV), CfgsAt w ao n cs vs ∧ n < 2 ^ 57 := by
  rcases open_slice Tryz.underlying22 h with ⟨h0, _⟩ | ⟨a, len, cp, m, k, D, Pl, hv, _, hl, hm, hmm, rfl, hx⟩
  · simp only [List.cons.injEq, Value.slice.injEq, and_true] at h0
    obtain ⟨rfl, rfl, rfl⟩ := h0
    exact ⟨fun _ => ⟨0, [], [], []⟩, fun _ => ⟨none, 0, none, 0, none, 0⟩, Or.inl rfl, by decide⟩
  · simp only [List.cons.injEq, Value.slice.injEq, and_true] at hv
    obtain ⟨rfl, rfl, rfl⟩ := hv
    rw [Tryz.cellsConfig] at hx
    have hlm : n ≤ m := by rw [hmm]; split <;> omega
    have hw : ((DataW.slice ((List.range n).map D) ((List.range (m - n)).map fun j => D (n + j)) : DataW H).weights Tryz.prog 22) = (n + (m - n)) * 80 :: (DataW.weightsAll Tryz.prog 46 ((List.range n).map D) ++ DataW.weightsAll Tryz.prog 46 ((List.range (m - n)).map fun j => D (n + j))) := by
      simp [DataW.weights, Tryz.underlying22, Tryz.bytesConfig]
    rw [hw] at hz
    have hn : n < 2 ^ 57 := by
      have := all_le_mem hz (List.mem_cons_self ..)
      simp only [reachBytes] at this; omega
    have hel : ∀ i, i < n → ∃ p : Cfg × CfgV, (∀ j, j < 4 → w.cell? ((a.add (i * 4)).add j) = (cfgCells p.1 p.2)[j]?) ∧ CfgOk p.1 ∧ CfgAt w p.1 p.2 ∧ CfgNil p.1 p.2 := by
      intro i hi
      obtain ⟨cs', h1, h2⟩ := hx i (by omega)
      obtain ⟨_, hlen, hc⟩ := World.cells?_some h1
      obtain ⟨p, rfl, q1, q2, q3, _⟩ := open_config h2 (by
        rw [List.all_eq_true]
        intro y hy
        have : y ∈ DataW.weightsAll Tryz.prog 46 ((List.range n).map D) := weights_mem_all (d := D i) (List.mem_map.2 ⟨i, by simpa using hi, rfl⟩) y hy
        have := all_le_mem hz (List.mem_cons_of_mem _ (List.mem_append_left _ this))
        simpa using this)
      exact ⟨p, fun j hj => by rw [hc j hj]; simp, q1, q2, q3⟩
    haveI : Inhabited (Cfg × CfgV) := ⟨(⟨0, [], [], []⟩, ⟨none, 0, none, 0, none, 0⟩)⟩
    obtain ⟨f, hf⟩ := choose_lt hel
    refine ⟨fun i => (f i).1, fun i => (f i).2, ?_, hn⟩
    by_cases h0 : n = 0
    · exact Or.inl h0
    · right
      have hc := (hf 0 (by omega)).1 0 (by omega)
      rw [Nat.zero_mul, add_add] at hc
      have hc' : w.cell? (a.add 0) = some (.int .i64 (f 0).1.labels) := hc
      have ha := spot_none hc'
      refine ⟨a.block, a.off, congrArg some ha, ?_, fun i hi => ⟨fun j hj => ?_, (hf i hi).2⟩⟩
      · have hb := Go.block_lt_of_cell hc'
        rw [ha] at hb
        simpa [add_plain] using hb
      · have := (hf i hi).1 j hj
        rw [add_add, ha, add_plain] at this
        rw [← this]; congr 2; omega
end
end Go.Proofs.YthgcpjdlcooncaaGreat
