/- veillaw.step: a question about a configuration. -/
import Derived.Test.YtgigkiocdiffjaaGreatAsked
import Derived.Deep.RegionHeld
namespace Go.Proofs.YtgigkiocdiffjaaGreat
open Go.RowKit Veil
theorem asked_any (c : Cfg) (v : CfgV) (o : OpR) (w : World) (h1 : 1 ≤ o.kind) (h4 : o.kind ≤ 4) (hok : CfgOk c) (hat : CfgAt w c v) (hnil : CfgNil c v) :
    Calls Tryz.prog 42 #[.agg (cfgCells c v), .agg o.cells] w fun e w' => e = .returned (.bool true) ∧ Below w.heap.size w w' := by
  obtain ⟨kind, a, b, cc, d, e0, s, t⟩ := o
  simp only at h1 h4
  have : kind = 1 ∨ kind = 2 ∨ kind = 3 ∨ kind = 4 := by omega
  rcases this with rfl | rfl | rfl | rfl
  · exact asked_1 c v a b cc d e0 s t w hok hat hnil
  · exact asked_2 c v a b cc d e0 s t w hok hat hnil
  · exact asked_3 c v a b cc d e0 s t w hok hat hnil
  · exact asked_4 c v a b cc d e0 s t w hok hat hnil
def pickI (c n : Int) : Int := (if c < 0 then -(c + 1) else c).tmod n
theorem pickI_lt {c : Int} {n : Nat} (hc : -9223372036854775808 ≤ c) (hn : 0 < n) : ∃ i : Nat, pickI c n = i ∧ i < n := by
  have h0 : 0 ≤ (if c < 0 then -(c + 1) else c) := by split <;> omega
  have h1 : 0 ≤ pickI c n := Int.tmod_nonneg _ h0
  have h2 : pickI c n < n := Int.tmod_lt_of_pos _ (by omega)
  obtain ⟨i, hi⟩ := Int.eq_ofNat_of_zero_le h1
  exact ⟨i, hi, by omega⟩
set_option maxHeartbeats 1000000 in
theorem pick_any (c : Int) (n : Nat) (w : World) (hc : -9223372036854775808 ≤ c ∧ c ≤ 9223372036854775807) (hn : 0 < n) (hn2 : n < 2 ^ 57) :
    Calls Tryz.prog 40 #[.int .i64 c, .int .i64 n] w fun e w' => e = .returned (.int .i64 (pickI c n)) ∧ w = w' := by
  have hn3 : (0 : Int) < (n : Int) := by omega
  have hn4 : ((n : Int) == 0) = false := by simp; omega
  have hn5 : ((n : Int) == -1) = false := by simp
  by_cases h : c < 0
  · have HP := hide (show pickI c n = (-(c + 1)).tmod n by unfold pickI; rw [if_pos h])
    go_enter Tryz.func40, Tryz.ntmps40
    go_wp2
    go_ret
    exact ⟨by rw [HP.out, Int.neg_tmod]; rfl, rfl⟩
  · have HP := hide (show pickI c n = c.tmod n by unfold pickI; rw [if_neg h])
    go_enter Tryz.func40, Tryz.ntmps40
    go_wp2
    go_ret
    exact ⟨by rw [HP.out, Int.tmod_eq_emod_of_nonneg (by omega)]; rfl, rfl⟩
/-- Where the configurations lie. -/
def CfgsAt (w : World) (co : Option Addr) (n : Nat) (cs : Nat → Cfg) (vs : Nat → CfgV) : Prop :=
  n = 0 ∨ ∃ b off, co = some ⟨b, off, none⟩ ∧ b < w.heap.size ∧ ∀ i, i < n → (∀ j, j < 4 → w.cell? ⟨b, off + i * 4 + j, none⟩ = (cfgCells (cs i) (vs i))[j]?) ∧ CfgOk (cs i) ∧ CfgAt w (cs i) (vs i) ∧ CfgNil (cs i) (vs i)
set_option maxRecDepth 100000 in
set_option maxHeartbeats 8000000 in
theorem step_asked (co : Option Addr) (cn cap : Nat) (cs : Nat → Cfg) (vs : Nat → CfgV) (o : OpR) (g : Nat) (w0 w : World) (h1 : 1 ≤ o.kind) (h4 : o.kind ≤ 4) (ha : -9223372036854775808 ≤ o.a ∧ o.a ≤ 9223372036854775807) (hcn : cn < 2 ^ 57)
    (hb : Below w0.heap.size w0 w) (p0 : w.cell? ⟨g, 0, none⟩ = some (.slice co cn cap)) (hgl : g < w.heap.size) (hcs : CfgsAt w0 co cn cs vs) :
    Calls Tryz.prog 18 #[.pointer (some ⟨g, 0, none⟩), .agg o.cells] w fun e w'' => e = .returned (.bool true) ∧ Below w.heap.size w w'' := by
  have HK := hide (And.intro h1 h4)
  have HASK := hide (fun (c : Cfg) (v : CfgV) (w' : World) => asked_any c v o w' h1 h4)
  obtain ⟨kind, a, b, cc, d, e0, s, t⟩ := o
  simp only at h1 h4 ha HK
  unfold OpR.cells at *
  have t5 : (kind == 5) = false := by simp; omega
  have t6 : (kind == 6) = false := by simp; omega
  have t66 : kind ≤ 6 := by omega
  have hbx := below_box w (.cells #[.int .i64 kind, .int .i64 a, .int .i64 b, .int .i64 cc, .int .i64 d, .int .i64 e0, .string s, .string t] 57)
  by_cases hz : cn = 0
  · have hz' : ((cn : Int) == 0) = true := by simp; omega
    clear hcs HASK
    go_enter Tryz.func18, Tryz.ntmps18
    go_wp2
    go_ret
    exact ⟨rfl, hbx⟩
  · have hz' : ((cn : Int) == 0) = false := by simp; omega
    obtain ⟨i, hi, hil⟩ := pickI_lt (c := a) (n := cn) ha.1 (by omega)
    have HPICK : Hid (∀ w', Calls Tryz.prog 40 #[.int .i64 a, .int .i64 cn] w' fun e w'' => e = .returned (.int .i64 i) ∧ w' = w'') := fun w' => by rw [← hi]; exact pick_any a cn w' ha (by omega) hcn
    rcases hcs with h | ⟨b1, off, rfl, hbl, hall⟩
    · exact absurd h hz
    obtain ⟨hc, hok, hat, hnil⟩ := hall i hil
    have HASK2 := hide (fun w' (hb' : Below w0.heap.size w0 w') => HASK.out (cs i) (vs i) w' hok (hat.below hb') hnil)
    have d0 : w.cell? ⟨b1, off + i * 4, none⟩ = some (.int .i64 (cs i).labels) := (hb.cell (p := ⟨b1, off + i * 4, none⟩) hbl).trans (hc 0 (by omega))
    have d1 : w.cell? ⟨b1, off + i * 4 + 1, none⟩ = some (.slice (vs i).ea (cs i).edges.length (vs i).ec) := (hb.cell (p := ⟨b1, off + i * 4 + 1, none⟩) hbl).trans (hc 1 (by omega))
    have d2 : w.cell? ⟨b1, off + i * 4 + 2, none⟩ = some (.slice (vs i).ra (cs i).rules.length (vs i).rc) := (hb.cell (p := ⟨b1, off + i * 4 + 2, none⟩) hbl).trans (hc 2 (by omega))
    have d3 : w.cell? ⟨b1, off + i * 4 + 3, none⟩ = some (.slice (vs i).ga (cs i).grants.length (vs i).gc) := (hb.cell (p := ⟨b1, off + i * 4 + 3, none⟩) hbl).trans (hc 3 (by omega))
    have hili : (i : Int) < (cn : Int) := by omega
    have hb1w : b1 < w.heap.size := Nat.lt_of_lt_of_le hbl hb.size
    unfold cfgCells at *
    generalize cs i = C at *
    generalize vs i = V at *
    clear hc hok hat hnil hall HASK hi hz
    go_enter Tryz.func18, Tryz.ntmps18
    go_wp2_with fail
    first | (go_region_held (fun w' => w'.cell? ⟨g, 0, none⟩ = some (.slice (some ⟨b1, off, none⟩) cn cap) ∧ w'.cell? ⟨w.heap.size, 1, none⟩ = some (.int .i64 a) ∧ w'.cell? ⟨b1, off + i * 4, none⟩ = some (.int .i64 C.labels) ∧ w'.cell? ⟨b1, off + i * 4 + 1, none⟩ = some (.slice V.ea C.edges.length V.ec) ∧ w'.cell? ⟨b1, off + i * 4 + 2, none⟩ = some (.slice V.ra C.rules.length V.rc) ∧ w'.cell? ⟨b1, off + i * 4 + 3, none⟩ = some (.slice V.ga C.grants.length V.gc)) (go_keep) (first | (go_at_call 40; refine (HPICK.out _).mono ?_; rintro e w1 ⟨rfl, rfl⟩))) | fail "no"
    all_goals
      go_wp2_with fail
      have hbelA : Below w.heap.size w ((((w.alloc (.cells #[.int .i64 kind, .int .i64 a, .int .i64 b, .int .i64 cc, .int .i64 d, .int .i64 e0, .string s, .string t] 57)).alloc (.cells #[.int .i64 C.labels, .slice V.ea C.edges.length V.ec, .slice V.ra C.rules.length V.rc, .slice V.ga C.grants.length V.gc] 31))).drew) := (hbx.alloc hbx.size _).drew
      refine (HASK2.out _ (hb.trans (hbelA.mono hb.size))).mono ?_
      rintro e w9 ⟨rfl, hb9⟩
      have hbel9 := hbelA.trans (hb9.mono hbelA.size)
      clear hb9 hbelA
      go_wp2
      go_ret
      exact ⟨rfl, hbel9⟩
theorem CfgsAt.below {w w' : World} {co : Option Addr} {n : Nat} {cs : Nat → Cfg} {vs : Nat → CfgV} (h : CfgsAt w co n cs vs) (hb : Below w.heap.size w w') : CfgsAt w' co n cs vs := by
  rcases h with h | ⟨b, off, h1, h2, h3⟩
  · exact Or.inl h
  · exact Or.inr ⟨b, off, h1, Nat.lt_of_lt_of_le h2 hb.size, fun i hi => ⟨fun j hj => (hb.cell (p := ⟨b, off + i * 4 + j, none⟩) h2).trans ((h3 i hi).1 j hj), (h3 i hi).2.1, (h3 i hi).2.2.1.below hb, (h3 i hi).2.2.2⟩⟩
end Go.Proofs.YtgigkiocdiffjaaGreat
