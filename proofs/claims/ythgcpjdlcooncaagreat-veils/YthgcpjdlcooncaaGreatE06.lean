/- Spoil, Rmatch, Among, Plays, Plays2, Doc0. -/
import Derived.Test.YthgcpjdlcooncaaGreatE05
import Derived.Test.YthgcpjdlcooncaaGreatE02
import Derived.Test.YthgcpjdlcooncaaGreatE01
namespace Go.Proofs.YthgcpjdlcooncaaGreat
open Go.RowKit Veil
theorem wholeE_any (l : List (Int × Int)) (g : Nat) (ao oa : Option Addr) (c oc : Nat) (w : World) (hl : l.length ≤ 8796093022208) (hg : RowAt xE yE w g 94 (l ++ pad 8 (77, 77))) (hs : SeqAt xE yE w ao l) (ho : oa = ao.map fun _ => ⟨g, 0, none⟩) (hc : oc = if ao.isSome then l.length + 8 else 0) :
    Calls Tryz.prog 62 #[.slice oa l.length oc, .slice ao l.length c] w fun e w' => e = .returned (.bool true) ∧ Below w.heap.size w w' := by
  subst ho hc
  cases ao with
  | none => exact (wholeE_nil _ _ _ w).mono fun e w' ⟨h1, h2⟩ => ⟨h1, by subst h2; exact Below.refl _ _⟩
  | some a => exact wholeE_some l g a c w hl hg hs
theorem wholeR_any (l : List (ByteArray × Int)) (g : Nat) (ao oa : Option Addr) (c oc : Nat) (w : World) (hl : l.length ≤ 8796093022208) (hg : RowAt xR yR w g 96 (l ++ pad 8 beyondR)) (hs : SeqAt xR yR w ao l) (ho : oa = ao.map fun _ => ⟨g, 0, none⟩) (hc : oc = if ao.isSome then l.length + 8 else 0) :
    Calls Tryz.prog 63 #[.slice oa l.length oc, .slice ao l.length c] w fun e w' => e = .returned (.bool true) ∧ Below w.heap.size w w' := by
  subst ho hc
  cases ao with
  | none => exact (wholeR_nil _ _ _ w).mono fun e w' ⟨h1, h2⟩ => ⟨h1, by subst h2; exact Below.refl _ _⟩
  | some a => exact wholeR_some l g a c w hl hg hs
theorem wholeG_any (l : List (Int × Int)) (g : Nat) (ao oa : Option Addr) (c oc : Nat) (w : World) (hl : l.length ≤ 8796093022208) (hg : RowAt xE yE w g 98 (l ++ pad 8 (77, 77))) (hs : SeqAt xE yE w ao l) (ho : oa = ao.map fun _ => ⟨g, 0, none⟩) (hc : oc = if ao.isSome then l.length + 8 else 0) :
    Calls Tryz.prog 64 #[.slice oa l.length oc, .slice ao l.length c] w fun e w' => e = .returned (.bool true) ∧ Below w.heap.size w w' := by
  subst ho hc
  cases ao with
  | none => exact (wholeG_nil _ _ _ w).mono fun e w' ⟨h1, h2⟩ => ⟨h1, by subst h2; exact Below.refl _ _⟩
  | some a => exact wholeG_some l g a c w hl hg hs

set_option maxRecDepth 100000 in
set_option maxHeartbeats 1000000 in
theorem whole_any (c : Cfg) (v : CfgV) (g1 g2 g3 : Nat) (w : World) (hok : CfgOk c) (hat : CfgAt w c v) (hl : LentAt w c g1 g2 g3) :
    Calls Tryz.prog 31 #[.agg (cfgCells c (lentV c v g1 g2 g3)), .agg (cfgCells c v)] w fun e w' => e = .returned (.bool true) ∧ Below w.heap.size w w' := by
  have e1 : (lentV c v g1 g2 g3).ea = v.ea.map fun _ => ⟨g1, 0, none⟩ := rfl
  have e2 : (lentV c v g1 g2 g3).ra = v.ra.map fun _ => ⟨g2, 0, none⟩ := rfl
  have e3 : (lentV c v g1 g2 g3).ga = v.ga.map fun _ => ⟨g3, 0, none⟩ := rfl
  have c1 : (lentV c v g1 g2 g3).ec = if v.ea.isSome then c.edges.length + 8 else 0 := rfl
  have c2 : (lentV c v g1 g2 g3).rc = if v.ra.isSome then c.rules.length + 8 else 0 := rfl
  have c3 : (lentV c v g1 g2 g3).gc = if v.ga.isSome then c.grants.length + 8 else 0 := rfl
  generalize lentV c v g1 g2 g3 = V at *
  obtain ⟨oea, oec, ora, orc, oga, ogc⟩ := V
  obtain ⟨L, E, R, G⟩ := c
  obtain ⟨ea, ec, ra, rc, ga, gc⟩ := v
  have E1 := hide e1
  have E2 := hide e2
  have E3 := hide e3
  have C1 := hide c1
  have C2 := hide c2
  have C3 := hide c3
  have HK := hide hok
  have HA := hide hat
  have HL := hide hl
  have l1 := hl.edges.lt
  have l2 := hl.rules.lt
  have l3 := hl.grants.lt
  clear hok hat hl e1 e2 e3 c1 c2 c3
  unfold cfgCells
  have hbo : ∀ o o' : Obj, Below w.heap.size w ((w.alloc o).alloc o') := fun o o' => ((Below.refl _ _).alloc (Nat.le_refl _) _).alloc (by simp) _
  have HB := hide hbo
  clear hbo
  go_enter Tryz.func31, Tryz.ntmps31
  go_wp2_with fail
  refine (wholeE_any E g1 ea oea ec oec _ HK.out.edges (HL.out.edges.below (HB.out _ _) l1) (HA.out.edges.below (HB.out _ _)) E1.out C1.out).mono ?_
  rintro e w1 ⟨rfl, hb1⟩
  have hbw1 := (HB.out _ _).trans (hb1.mono (by simp; omega))
  have a2 : w1.cell? ⟨w.heap.size, 2, none⟩ = some (.slice ora R.length orc) := by rw [hb1.cell (p := ⟨w.heap.size, 2, none⟩) (by simp; omega)]; simp
  have a3 : w1.cell? ⟨w.heap.size, 3, none⟩ = some (.slice oga G.length ogc) := by rw [hb1.cell (p := ⟨w.heap.size, 3, none⟩) (by simp; omega)]; simp
  have b2 : w1.cell? ⟨w.heap.size + 1, 2, none⟩ = some (.slice ra R.length rc) := by rw [hb1.cell (p := ⟨w.heap.size + 1, 2, none⟩) (by simp)]; simp
  have b3 : w1.cell? ⟨w.heap.size + 1, 3, none⟩ = some (.slice ga G.length gc) := by rw [hb1.cell (p := ⟨w.heap.size + 1, 3, none⟩) (by simp)]; simp
  have z1 : w.heap.size + 1 < w1.heap.size := by have := hb1.size; simp at this; omega
  have HB1 := hide hbw1
  clear hb1 hbw1
  go_wp2_with fail
  refine (wholeR_any R g2 ra ora rc orc _ HK.out.rules (HL.out.rules.below HB1.out l2) (HA.out.rules.below HB1.out) E2.out C2.out).mono ?_
  rintro e w2 ⟨rfl, hb2⟩
  have hbw2 := HB1.out.trans (hb2.mono (by omega))
  have a3' : w2.cell? ⟨w.heap.size, 3, none⟩ = some (.slice oga G.length ogc) := by rw [hb2.cell (p := ⟨w.heap.size, 3, none⟩) (by dsimp only; omega)]; exact a3
  have b3' : w2.cell? ⟨w.heap.size + 1, 3, none⟩ = some (.slice ga G.length gc) := by rw [hb2.cell (p := ⟨w.heap.size + 1, 3, none⟩) (by dsimp only; omega)]; exact b3
  have z2 : w.heap.size + 1 < w2.heap.size := by have := hb2.size; omega
  have HB2 := hide hbw2
  clear hb2 hbw2 a2 a3 b2 b3 z1
  go_wp2_with fail
  refine (wholeG_any G g3 ga oga gc ogc _ HK.out.grants (HL.out.grants.below HB2.out l3) (HA.out.grants.below HB2.out) E3.out C3.out).mono ?_
  rintro e w3 ⟨rfl, hb3⟩
  have hbw3 := hide (HB2.out.trans (hb3.mono (by omega)))
  clear hb3 a3' b3' z2
  go_wp2
  go_ret
  exact ⟨rfl, hbw3.out⟩

/-- While what was lent is written over. -/
structure SpoilMid (w : World) (B : Nat) (c : Cfg) (v : CfgV) (g1 g2 g3 : Nat) : Prop where
  cfg : w.heap[B]? = some (.cells (cfgCells c (lentV c v g1 g2 g3)) 46 (0, 0))
  edges : ∃ l, l.length = c.edges.length + 8 ∧ RowAt xE yE w g1 94 l
  rules : ∃ l, l.length = c.rules.length + 8 ∧ RowAt xR yR w g2 96 l
  grants : ∃ l, l.length = c.grants.length + 8 ∧ RowAt xE yE w g3 98 l

theorem SpoilMid.stepE {w : World} {B : Nat} {c : Cfg} {v : CfgV} {g1 g2 g3 k : Nat} (h : SpoilMid w B c v g1 g2 g3) (a : Int × Int) (hk : k < c.edges.length + 8) (h12 : g1 < g2) (h23 : g2 < g3) (hB : g3 < B) :
    SpoilMid ((w.setCell ⟨g1, k * 2, none⟩ (xE a)).setCell ⟨g1, k * 2 + 1, none⟩ (yE a)) B c v g1 g2 g3 := by
  obtain ⟨q0, ⟨l1, q1, r1⟩, ⟨l2, q2, r2⟩, ⟨l3, q3, r3⟩⟩ := h
  refine ⟨other2 q0 (by omega), ⟨l1.set k a, by simp [q1], r1.store a (by omega)⟩, ⟨l2, q2, other2 r2 (by omega)⟩, ⟨l3, q3, other2 r3 (by omega)⟩⟩

theorem SpoilMid.stepR {w : World} {B : Nat} {c : Cfg} {v : CfgV} {g1 g2 g3 k : Nat} (h : SpoilMid w B c v g1 g2 g3) (a : ByteArray × Int) (hk : k < c.rules.length + 8) (h12 : g1 < g2) (h23 : g2 < g3) (hB : g3 < B) :
    SpoilMid ((w.setCell ⟨g2, k * 2, none⟩ (xR a)).setCell ⟨g2, k * 2 + 1, none⟩ (yR a)) B c v g1 g2 g3 := by
  obtain ⟨q0, ⟨l1, q1, r1⟩, ⟨l2, q2, r2⟩, ⟨l3, q3, r3⟩⟩ := h
  refine ⟨other2 q0 (by omega), ⟨l1, q1, other2 r1 (by omega)⟩, ⟨l2.set k a, by simp [q2], r2.store a (by omega)⟩, ⟨l3, q3, other2 r3 (by omega)⟩⟩

theorem SpoilMid.stepG {w : World} {B : Nat} {c : Cfg} {v : CfgV} {g1 g2 g3 k : Nat} (h : SpoilMid w B c v g1 g2 g3) (a : Int × Int) (hk : k < c.grants.length + 8) (h12 : g1 < g2) (h23 : g2 < g3) (hB : g3 < B) :
    SpoilMid ((w.setCell ⟨g3, k * 2, none⟩ (xE a)).setCell ⟨g3, k * 2 + 1, none⟩ (yE a)) B c v g1 g2 g3 := by
  obtain ⟨q0, ⟨l1, q1, r1⟩, ⟨l2, q2, r2⟩, ⟨l3, q3, r3⟩⟩ := h
  refine ⟨other2 q0 (by omega), ⟨l1, q1, other2 r1 (by omega)⟩, ⟨l2, q2, other2 r2 (by omega)⟩, ⟨l3.set k a, by simp [q3], r3.store a (by omega)⟩⟩

set_option maxRecDepth 100000 in
set_option maxHeartbeats 4000000 in
theorem spoil_any (c : Cfg) (v : CfgV) (g1 g2 g3 B : Nat) (w : World) (hok : CfgOk c) (hn : CfgNil c v) (hl : LentAt w c g1 g2 g3) (hB : B ≤ g1) (h12 : g1 < g2) (h23 : g2 < g3) :
    Calls Tryz.prog 32 #[.agg (cfgCells c (lentV c v g1 g2 g3))] w fun e w' => e = .returned (.tuple #[]) ∧ Below B w w' := by
  have l1 := hl.edges.lt
  have l2 := hl.rules.lt
  have l3 := hl.grants.lt
  have k1 := hok.edges
  have k2 := hok.rules
  have k3 := hok.grants
  have hm0 : ∀ o, o = Obj.cells (cfgCells c (lentV c v g1 g2 g3)) 46 → SpoilMid (w.alloc o) w.heap.size c v g1 g2 g3 := fun o ho => by
    subst ho
    exact ⟨Go.heap_alloc_new _ _, ⟨_, by simp [pad_length], row_alloc' hl.edges⟩, ⟨_, by simp [pad_length], row_alloc' hl.rules⟩, ⟨_, by simp [pad_length], row_alloc' hl.grants⟩⟩
  have HM := hide hm0
  have HN := hide hn
  clear hm0 hn hl hok
  have e1 : 0 < c.edges.length → (lentV c v g1 g2 g3).ea = some ⟨g1, 0, none⟩ := fun h => by
    cases hv : v.ea with
    | none => have := (HN.out.edges hv).1; omega
    | some a => simp [lentV, hv]
  have e2 : 0 < c.rules.length → (lentV c v g1 g2 g3).ra = some ⟨g2, 0, none⟩ := fun h => by
    cases hv : v.ra with
    | none => have := (HN.out.rules hv).1; omega
    | some a => simp [lentV, hv]
  have e3 : 0 < c.grants.length → (lentV c v g1 g2 g3).ga = some ⟨g3, 0, none⟩ := fun h => by
    cases hv : v.ga with
    | none => have := (HN.out.grants hv).1; omega
    | some a => simp [lentV, hv]
  have E1 := hide e1
  have E2 := hide e2
  have E3 := hide e3
  clear e1 e2 e3
  generalize hV : lentV c v g1 g2 g3 = V at *
  have HV := hide hV
  clear hV
  obtain ⟨L, E, R, G⟩ := c
  obtain ⟨ea, ec, ra, rc, ga, gc⟩ := V
  simp only at k1 k2 k3
  unfold cfgCells
  go_enter Tryz.func32, Tryz.ntmps32
  go_wp2
  go_loopw [2] (fun i wr => ∃ k : Nat, k ≤ E.length ∧ i = .int .i64 k ∧ SpoilMid wr w.heap.size ⟨L, E, R, G⟩ v g1 g2 g3 ∧ Below B w wr) (fun i _ => E.length - (intOf i).toNat)
  case atStart => exact ⟨0, Nat.zero_le _, rfl, HM.out _ rfl, (Below.refl _ _).alloc (by omega) _⟩
  case round =>
    obtain ⟨k, hk, rfl, hm, hbel⟩ := hrel
    have HK := hide hm
    by_cases hlt : k < E.length
    · obtain ⟨l, hlen, hrow⟩ := hm.edges
      have hlen' : k < l.length := by rw [hlen]; dsimp only; omega
      obtain ⟨p1, p2⟩ := hrow.cell (List.getElem?_eq_getElem hlen')
      have f1 := hrow.frozen (k * 2)
      have f2 := hrow.frozen (k * 2 + 1)
      have c1 : wr.cell? ⟨w.heap.size, 1, none⟩ = some (.slice (some ⟨g1, 0, none⟩) E.length ec) := by
        have := hm.cfg
        rw [HV.out] at this
        rw [cell_of_row _ _ _ _ _ _ this]
        have e := E1.out (by omega)
        simp [cfgCells, e]
      generalize l[k] = q at *
      clear hm hrow hlen hlen'
      go_wp2
      go_roundw
      case rel => exact ⟨k + 1, by omega, by go_num, HK.out.stepE (0, 0) (by dsimp only; omega) h12 h23 l3, (hbel.setCell (by dsimp only; omega) _).setCell (by dsimp only; omega) _⟩
      case measure => simp [intOf]; omega
    · have c1 : wr.cell? ⟨w.heap.size, 1, none⟩ = some (.slice ea E.length ec) := by
        have := hm.cfg
        rw [HV.out] at this
        rw [cell_of_row _ _ _ _ _ _ this]; rfl
      clear hm
      go_wp2
      go_loopw [3] (fun i wr => ∃ k : Nat, k ≤ R.length ∧ i = .int .i64 k ∧ SpoilMid wr w.heap.size ⟨L, E, R, G⟩ v g1 g2 g3 ∧ Below B w wr) (fun i _ => R.length - (intOf i).toNat)
      case atStart => exact ⟨0, Nat.zero_le _, rfl, HK.out, hbel⟩
      case round =>
        obtain ⟨k, hk, rfl, hm, hbel⟩ := hrel
        have HK := hide hm
        by_cases hlt : k < R.length
        · obtain ⟨l, hlen, hrow⟩ := hm.rules
          have hlen' : k < l.length := by rw [hlen]; dsimp only; omega
          obtain ⟨p1, p2⟩ := hrow.cell (List.getElem?_eq_getElem hlen')
          have f1 := hrow.frozen (k * 2)
          have f2 := hrow.frozen (k * 2 + 1)
          have c1 : wr.cell? ⟨w.heap.size, 2, none⟩ = some (.slice (some ⟨g2, 0, none⟩) R.length rc) := by
            have := hm.cfg
            rw [HV.out] at this
            rw [cell_of_row _ _ _ _ _ _ this]
            have e := E2.out (by omega)
            simp [cfgCells, e]
          generalize l[k] = q at *
          clear hm hrow hlen hlen'
          go_wp2
          go_roundw
          case rel => exact ⟨k + 1, by omega, by go_num, HK.out.stepR (⟨#[42]⟩, 0) (by dsimp only; omega) h12 h23 l3, (hbel.setCell (by dsimp only; omega) _).setCell (by dsimp only; omega) _⟩
          case measure => simp [intOf]; omega
        · have c1 : wr.cell? ⟨w.heap.size, 2, none⟩ = some (.slice ra R.length rc) := by
            have := hm.cfg
            rw [HV.out] at this
            rw [cell_of_row _ _ _ _ _ _ this]; rfl
          clear hm
          go_wp2
          go_loopw [4] (fun i wr => ∃ k : Nat, k ≤ G.length ∧ i = .int .i64 k ∧ SpoilMid wr w.heap.size ⟨L, E, R, G⟩ v g1 g2 g3 ∧ Below B w wr) (fun i _ => G.length - (intOf i).toNat)
          case atStart => exact ⟨0, Nat.zero_le _, rfl, HK.out, hbel⟩
          case round =>
            obtain ⟨k, hk, rfl, hm, hbel⟩ := hrel
            have HK := hide hm
            by_cases hlt : k < G.length
            · obtain ⟨l, hlen, hrow⟩ := hm.grants
              have hlen' : k < l.length := by rw [hlen]; dsimp only; omega
              obtain ⟨p1, p2⟩ := hrow.cell (List.getElem?_eq_getElem hlen')
              have f1 := hrow.frozen (k * 2)
              have f2 := hrow.frozen (k * 2 + 1)
              have c1 : wr.cell? ⟨w.heap.size, 3, none⟩ = some (.slice (some ⟨g3, 0, none⟩) G.length gc) := by
                have := hm.cfg
                rw [HV.out] at this
                rw [cell_of_row _ _ _ _ _ _ this]
                have e := E3.out (by omega)
                simp [cfgCells, e]
              generalize l[k] = q at *
              clear hm hrow hlen hlen'
              go_wp2
              go_roundw
              case rel => exact ⟨k + 1, by omega, by go_num, HK.out.stepG (0, 0) (by dsimp only; omega) h12 h23 l3, (hbel.setCell (by dsimp only; omega) _).setCell (by dsimp only; omega) _⟩
              case measure => simp [intOf]; omega
            · have c1 : wr.cell? ⟨w.heap.size, 3, none⟩ = some (.slice ga G.length gc) := by
                have := hm.cfg
                rw [HV.out] at this
                rw [cell_of_row _ _ _ _ _ _ this]; rfl
              clear hm
              go_wp2
              go_end0
              exact ⟨rfl, hbel⟩
end Go.Proofs.YthgcpjdlcooncaaGreat
namespace Go.Proofs.YthgcpjdlcooncaaGreat
open Go.RowKit Veil
theorem some_beq (s t : ByteArray) (i k : Nat) (hi : i < s.size) (hk : k < t.size) : (some s[i] == (bytes t)[k]?) = (s[i] == t[k]) := by
  rw [List.getElem?_eq_getElem (by rw [bytes_length]; exact hk), bytes_get t k hk]; rfl
theorem row_alloc {w : World} {g : Nat} {o o' : Obj} (h : w.heap[g]? = some o) : (w.alloc o').heap[g]? = some o := by
  rw [heap_alloc_old _ _ (lt_of_row h)]; exact h

set_option maxRecDepth 100000 in
set_option maxHeartbeats 4000000 in
theorem rmatch_any (s t : ByteArray) (w : World) (hs : s.size ≤ maxLen) (ht : t.size ≤ 140737488355328) :
    Calls Tryz.prog 27 #[.string s, .string t] w fun e w' => e = .returned (.bool (cutB (bytes s) (bytes t))) ∧ Below w.heap.size w w' := by
  unfold maxLen at hs
  have hmk : ∀ w, (Instr.makeSlice 92 (.int .i64 ((t.size : Int) + 1)) (.int .i64 ((t.size : Int) + 1))).run Tryz.prog w = .ok (.slice (some ⟨w.heap.size, 0, none⟩) (t.size + 1) (t.size + 1)) (w.alloc (.cells (bools (fvec (t.size + 1) fun _ => false)) 4)) := fun w => run_make_bools (t.size + 1) (by omega) w
  have hz0 : (bools (fvec (t.size + 1) fun _ => false))[0]? = some (.bool false) := by rw [bools_get, fvec_get _ _ _ (by omega)]; rfl
  go_enter Tryz.func27, Tryz.ntmps27
  go_wp2
  have HT : Hid _ := bytes_length t
  go_loopw [5, 6] (fun r i wr => ∃ k R : Nat, k ≤ s.size ∧ i = .int .i64 k ∧ r = .slice (some ⟨R, 0, none⟩) (t.size + 1) (t.size + 1) ∧ w.heap.size ≤ R ∧
      wr.heap[R]? = some (.cells (bools (fvec (t.size + 1) (reachF ((bytes s).take k) (bytes t)))) 4 (0, 0)) ∧ Below w.heap.size w wr) (fun _ i _ => s.size - (intOf i).toNat)
  case atStart =>
    refine ⟨0, w.heap.size, Nat.zero_le _, rfl, rfl, Nat.le_refl _, ?_, (Below.refl _ _).alloc (Nat.le_refl _) _⟩
    rw [Go.heap_alloc_new, bools_set, fvec_set, fvec_congr _ _ (reachF ((bytes s).take 0) (bytes t))]
    intro j hj
    simp only [reachF, List.take_zero, cutB]
    match j with
    | 0 => simp
    | j + 1 =>
      have : bytes t ≠ [] := fun e => by have h := HT.out; rw [e] at h; simp at h; omega
      simp [this]
  case round =>
    obtain ⟨wo, rfl⟩ : ∃ x, x = wr := ⟨_, rfl⟩
    obtain ⟨k, R, hk, rfl, rfl, hR, hrow, hbel⟩ := hrel
    have HR : Hid _ := hrow
    clear hrow
    by_cases hlt : k < s.size
    · have HX : Hid _ := Go.heap_alloc_new wo (.cells (bools (fvec (t.size + 1) fun _ => false)) 4)
      have hRX : R < wo.heap.size := lt_of_row HR.out
      go_wp2
      go_loopw [8] (fun kk w2 => ∃ j : Nat, j ≤ t.size + 1 ∧ kk = .int .i64 j ∧ w2.heap[wo.heap.size]? = some (.cells (bools (fvec (t.size + 1) (nextF s[k] ((bytes s).take k) (bytes t) j))) 4 (0, 0)) ∧
          w2.heap[R]? = some (.cells (bools (fvec (t.size + 1) (reachF ((bytes s).take k) (bytes t)))) 4 (0, 0)) ∧ Below w.heap.size w w2 ∧ (s[k] = 42 → j ≤ t.size → ∀ x, x < j → reachF ((bytes s).take k) (bytes t) x = false)) (fun kk _ => t.size + 1 - (intOf kk).toNat)
      case atStart => exact ⟨0, Nat.zero_le _, rfl, f_same HX.out (fun i _ => nextF_zero _ _ _ _), row_alloc HR.out, hbel.alloc hbel.size _, fun _ _ x hx => absurd hx (Nat.not_lt_zero _)⟩
      case round =>
        obtain ⟨wi, rfl⟩ : ∃ x, x = wr := ⟨_, rfl⟩
        obtain ⟨j, hj, rfl, hnx, hre, hb2, hno⟩ := hrel
        have HN : Hid _ := hnx
        have HE : Hid _ := hre
        have HO : Hid _ := hno
        clear hno
        by_cases hjt : j ≤ t.size
        · have hc := f_cell hre (show j < t.size + 1 by omega)
          clear hnx hre
          cases hr : reachF ((bytes s).take k) (bytes t) j
          · have HF : Hid _ := hr
            go_wp2
            go_roundw
            case rel =>
              refine ⟨j + 1, by omega, by go_num, f_same HN.out (fun i _ => ?_), HE.out, hb2, fun h42 _ x hx => ?_⟩
              · by_cases h42 : s[k] = 42
                · rw [h42]; exact nextF_star_no _ _ _ HF.out _
                · exact nextF_past _ _ _ _ h42 (by rw [HF.out]; simp) _
              · by_cases e : x = j
                · rw [e]; exact HF.out
                · exact HO.out h42 (by omega) x (by omega)
            case measure => simp [intOf]; omega
          · have HF : Hid _ := hr
            by_cases h42 : s[k] = 42
            · have hb42 : ((s[k].toNat : Int) == 42) = true := by rw [eq42]; simpa using h42
              have HC : Hid _ := h42
              clear h42
              go_wp2
              go_loopw [9] (fun nn w3 => ∃ m : Nat, j ≤ m ∧ m ≤ t.size + 1 ∧ nn = .int .i64 m ∧ w3.heap[wo.heap.size]? = some (.cells (bools (fvec (t.size + 1) (fun x => decide (j ≤ x) && decide (x < m)))) 4 (0, 0)) ∧
                  w3.heap[R]? = some (.cells (bools (fvec (t.size + 1) (reachF ((bytes s).take k) (bytes t)))) 4 (0, 0)) ∧ Below w.heap.size w w3) (fun nn _ => t.size + 1 - (intOf nn).toNat)
              case atStart =>
                refine ⟨j, Nat.le_refl _, by omega, rfl, f_same HN.out (fun i _ => ?_), HE.out, hb2⟩
                rw [HC.out, nextF_star_none _ _ _ (HO.out HC.out hjt)]
                simp
              case round =>
                obtain ⟨m, hm1, hm2, rfl, hx3, hr3, hb3⟩ := hrel
                have H3 : Hid _ := hx3
                have G3 : Hid _ := hr3
                by_cases hmt : m ≤ t.size
                · have hc3 := f_cell hx3 (show m < t.size + 1 by omega)
                  have hf3 : wr.frozen? ⟨wo.heap.size, m, none⟩ = false := frozen_of_row _ _ _ _ _ hx3
                  clear hx3 hr3
                  go_wp2
                  go_roundw
                  case rel =>
                    refine ⟨m + 1, by omega, by omega, by go_num, f_store H3.out (fun i _ => ?_), row_other G3.out (by omega), hb3.setCell (by exact hbel.size) _⟩
                    by_cases e : i = m
                    · subst e; simp; omega
                    · rw [if_neg e]
                      have : decide (i < m + 1) = decide (i < m) := by rw [decide_eq_decide]; omega
                      rw [this]
                  case measure => simp [intOf]; omega
                · have : m = t.size + 1 := by omega
                  subst this
                  clear hx3 hr3
                  go_wp2
                  go_roundw
                  case rel =>
                    refine ⟨t.size + 1, Nat.le_refl _, by go_num, f_same H3.out (fun i hi => ?_), G3.out, hb3, fun _ h => absurd h (by omega)⟩
                    rw [HC.out, nextF_star_yes _ _ j (t.size + 1) (by omega) (HO.out HC.out hjt) HF.out]
                    simp; omega
                  case measure => simp [intOf]; omega
            · have hb42 : ((s[k].toNat : Int) == 42) = false := by rw [eq42]; simpa using h42
              have HC : Hid (s[k] ≠ 42) := h42
              clear h42
              by_cases hjl : j < t.size
              · have hjl' : (j : Int) < (t.size : Int) := by omega
                have HB : Hid _ := some_beq s t k j hlt hjl
                have hc1 := f_cell HN.out (show j + 1 < t.size + 1 by omega)
                have hf1 : wi.frozen? ⟨wo.heap.size, j + 1, none⟩ = false := frozen_of_row _ _ _ _ _ HN.out
                by_cases hq : s[k] = 63 ∨ s[k] = t[j]
                · have HQ : Hid ((s[k] == 63 || some s[k] == (bytes t)[j]?) = true) := by
                    show _ = _
                    rw [HB.out]; simpa using hq
                  have HS : ∀ n, nextF s[k] ((bytes s).take k) (bytes t) (j + 1) n = if n = j + 1 then true else nextF s[k] ((bytes s).take k) (bytes t) j n := nextF_one _ _ _ _ HC.out true (by rw [HQ.out, HF.out]; rfl)
                  have HS' : Hid _ := HS
                  have hsp : ((s[k].toNat : Int) == 63) = true ∨ (((s[k].toNat : Int) == 63) = false ∧ ((s[k].toNat : Int) == (t[j].toNat : Int)) = true) := by
                    rw [eq63, eqB]
                    by_cases e : s[k] = 63
                    · left; simpa using e
                    · right; exact ⟨by simpa using e, by simpa using hq.resolve_left e⟩
                  clear HS hq
                  rcases hsp with hx | ⟨hx, hy⟩
                  all_goals
                    go_wp2_with fail
                    go_quiet (fail)
                    go_wp2_with fail
                    go_roundw
                    case rel => exact ⟨j + 1, by omega, by go_num, f_store HN.out (fun i _ => HS'.out i), row_other (o := .cells _ _ (0, 0)) HE.out (by omega), (Below.drawn hb2 _).setCell (by exact hbel.size) _, fun h => absurd h HC.out⟩
                    case measure => simp [intOf]; omega
                · have HQ : Hid ((s[k] == 63 || some s[k] == (bytes t)[j]?) = false) := by
                    show _ = _
                    rw [HB.out]; simpa using hq
                  have h63 : ((s[k].toNat : Int) == 63) = false := by rw [eq63]; simpa using fun e => hq (Or.inl e)
                  have hbb : ((s[k].toNat : Int) == (t[j].toNat : Int)) = false := by rw [eqB]; simpa using fun e => hq (Or.inr e)
                  clear hq
                  go_wp2_with fail
                  go_quiet (fail)
                  go_wp2_with fail
                  go_roundw
                  case rel => exact ⟨j + 1, by omega, by go_num, f_same HN.out (fun i _ => nextF_past _ _ _ _ HC.out (by rw [HQ.out]; rfl) i), HE.out, Below.drawn hb2 _, fun h => absurd h HC.out⟩
                  case measure => simp [intOf]; omega
              · have hd : decide ((j : Int) < (t.size : Int)) = false := decide_eq_false (by omega)
                go_wp2_with fail
                go_quiet (fail)
                go_wp2_with fail
                go_roundw
                case rel => exact ⟨j + 1, by omega, by go_num, f_same HN.out (fun i hi => by rw [nextF_one _ _ _ _ HC.out _ rfl i, if_neg (by omega)]), HE.out, Below.drawn hb2 _, fun h => absurd h HC.out⟩
                case measure => simp [intOf]; omega
        · have : j = t.size + 1 := by omega
          subst this
          clear hnx hre
          go_wp2
          go_roundw
          case rel =>
            refine ⟨k + 1, wo.heap.size, by omega, by go_num, rfl, hbel.size, f_same HN.out (fun i hi => ?_), hb2⟩
            rw [take_snoc s k hlt, ← HT.out, nextF_all _ _ _ _ (by rw [HT.out]; omega)]
          case measure => simp [intOf]; omega
    · have hc := f_cell HR.out (show t.size < t.size + 1 by omega)
      rw [reachF, List.take_of_length_le (by rw [bytes_length]; omega), List.take_of_length_le (by rw [bytes_length]; exact Nat.le_refl _)] at hc
      go_wp2
      go_ret
      exact ⟨rfl, hbel⟩
end Go.Proofs.YthgcpjdlcooncaaGreat
namespace Go.Proofs.YthgcpjdlcooncaaGreat
open Go.RowKit Veil
/-- A slice of ints whose array lies at the head of a block. -/
def IntsAt (w : World) (g : Nat) (l : List Int) : Prop := w.heap[g]? = some (.cells (l.map (Value.int .i64)).toArray 3 (0, 0))
theorem IntsAt.cell {w : World} {g : Nat} {l : List Int} (h : IntsAt w g l) (k : Nat) (hk : k < l.length) : w.cell? ⟨g, k, none⟩ = some (.int .i64 (l.getD k 0)) := by
  unfold IntsAt at h
  simp [World.cell?, h, hk]
theorem take_contains (l : List Int) (k : Nat) (x : Int) (hk : k < l.length) : (l.take (k + 1)).contains x = ((l.take k).contains x || x == l.getD k 0) := by
  rw [Bool.eq_iff_iff, List.take_succ_eq_append_getElem hk]
  have e : l.getD k 0 = l[k] := by simp [hk]
  rw [e]
  simp only [List.contains_iff_mem, List.mem_append, List.mem_singleton, Bool.or_eq_true, beq_iff_eq]
set_option maxHeartbeats 400000 in
theorem among_any (g : Nat) (l : List Int) (x : Int) (w : World) (h : IntsAt w g l) (hl : l.length ≤ 1000) :
    Calls Tryz.prog 12 #[.slice (some ⟨g, 0, none⟩) l.length l.length, .int .i64 x] w fun e w' => e = .returned (.bool (l.contains x)) ∧ w = w' := by
  go_enter Tryz.func12, Tryz.ntmps12
  go_wp2
  go_loop [5] (fun i => ∃ k : Nat, k ≤ l.length ∧ i = .int .i64 k ∧ (l.take k).contains x = false) (fun i => l.length - (intOf i).toNat)
  case atStart => exact ⟨0, Nat.zero_le _, rfl, by simp⟩
  case round =>
    obtain ⟨k, hk, rfl, hv⟩ := hrel
    have HV : Hid _ := hv
    clear hv
    by_cases hlt : k < l.length
    · have hc := h.cell k hlt
      have HT : Hid _ := take_contains l k x hlt
      have HM : Hid (l.getD k 0 ∈ l) := by show _ ∈ _; simp [hlt]
      have H : Hid _ := h
      generalize l.getD k 0 = y at *
      clear h
      by_cases hy : y = x
      · have hb : (y == x) = true := by simpa using hy
        have HY : Hid _ := hy
        clear hy
        go_wp2
        go_ret
        exact ⟨ret_bool (by have := HM.out; rw [HY.out] at this; simpa using this), rfl⟩
      · have hb : (y == x) = false := by simpa using hy
        have HY : Hid (¬ y = x) := hy
        clear hy
        go_wp2
        go_round
        case rel => exact ⟨k + 1, by omega, by go_num, by rw [HT.out, HV.out]; simpa using fun e => HY.out e.symm⟩
        case measure => simp [intOf]; omega
    · have : k = l.length := by omega
      subst this
      go_wp2
      go_ret
      exact ⟨ret_bool (by have := HV.out; rw [List.take_length] at this; simpa using this), rfl⟩
end Go.Proofs.YthgcpjdlcooncaaGreat
namespace Go.Proofs.YthgcpjdlcooncaaGreat
open Go.RowKit Veil
set_option maxHeartbeats 400000 in
theorem rMatch_no (s t : ByteArray) (w : World) (hs : validB s = false) (hsl : s.size ≤ maxLen) :
    Calls Tryz.prog 16 #[.string s, .string t] w fun e w' => e = .returned (.tuple #[.bool false, .int .i64 8]) ∧ w = w' := by
  go_enter Tryz.func16, Tryz.ntmps16
  go_wp2_with fail
  refine (rpattern_any s _ hsl).mono ?_
  rintro e w' ⟨rfl, rfl⟩
  rw [hs]
  go_wp2
  go_ret2
  exact ⟨rfl, rfl⟩
set_option maxHeartbeats 400000 in
theorem rMatch_yes (s t : ByteArray) (w : World) (hs : validB s = true) (ht : t.size ≤ 140737488355328) :
    Calls Tryz.prog 16 #[.string s, .string t] w fun e w' => e = .returned (.tuple #[.bool (cutB (bytes s) (bytes t)), .int .i64 0]) ∧ Below w.heap.size w w' := by
  have hsl : s.size ≤ maxLen := by have := validB_size hs; unfold maxLen; omega
  go_enter Tryz.func16, Tryz.ntmps16
  go_wp2_with fail
  refine (rpattern_any s _ hsl).mono ?_
  rintro e w' ⟨rfl, rfl⟩
  rw [hs]
  go_wp2_with fail
  refine (rmatch_any s t _ hsl ht).mono ?_
  rintro e w1 ⟨rfl, hb1⟩
  go_wp2
  go_ret2
  exact ⟨rfl, hb1⟩

/-- A world of the law in which nothing was made: the configurations, and four lists that are nil. -/
def PlainW (w : World) (g : Nat) (cs : Value) : Prop := w.heap[g]? = some (.cells #[cs, .slice none 0 0, .slice none 0 0, .slice none 0 0, .slice none 0 0] 33 (0, 0))
theorem PlainW.cells {w : World} {g : Nat} {cs : Value} (h : PlainW w g cs) : w.cell? ⟨g, 0, none⟩ = some cs ∧ w.cell? ⟨g, 1, none⟩ = some (.slice none 0 0) ∧ w.cell? ⟨g, 2, none⟩ = some (.slice none 0 0) ∧ w.cell? ⟨g, 3, none⟩ = some (.slice none 0 0) ∧ w.cell? ⟨g, 4, none⟩ = some (.slice none 0 0) := by
  unfold PlainW at h
  simp [World.cell?, h]
theorem PlainW.below {w w' : World} {g B : Nat} {cs : Value} (h : PlainW w g cs) (hb : Below B w w') (hg : g < B) : PlainW w' g cs := Below.row hb h hg
theorem PlainW.lt {w : World} {g : Nat} {cs : Value} (h : PlainW w g cs) : g < w.heap.size := lt_of_row h
set_option maxHeartbeats 1000000 in
theorem looks_plain (g : Nat) (cs : Value) (w : World) (h : PlainW w g cs) :
    Calls Tryz.prog 14 #[.pointer (some ⟨g, 0, none⟩)] w fun e w' => e = .returned (.bool true) ∧ w = w' := by
  obtain ⟨h0, h1, h2, h3, h4⟩ := h.cells
  have H : Hid _ := h
  clear h
  go_enter Tryz.func14, Tryz.ntmps14
  go_wp2
  refine wp_loop_rounds 1 ?_
  rw [rounds_succ]
  go_wp2
  refine wp_loop_rounds 1 ?_
  rw [rounds_succ]
  go_wp2
  refine wp_loop_rounds 1 ?_
  rw [rounds_succ]
  go_wp2
  go_ret
  exact ⟨rfl, rfl⟩
end Go.Proofs.YthgcpjdlcooncaaGreat
namespace Go.Proofs.YthgcpjdlcooncaaGreat
open Go.RowKit Veil
/-- A step of a script. -/
structure OpR where
  kind : Int
  a : Int
  b : Int
  c : Int
  d : Int
  e : Int
  s : ByteArray
  t : ByteArray
def OpR.cells (o : OpR) : Array Value := #[.int .i64 o.kind, .int .i64 o.a, .int .i64 o.b, .int .i64 o.c, .int .i64 o.d, .int .i64 o.e, .string o.s, .string o.t]
/-- Where the steps lie. -/
def OpsAt (w : World) (ao : Option Addr) (n : Nat) (ops : Nat → OpR) : Prop :=
  n = 0 ∨ ∃ b off, ao = some ⟨b, off, none⟩ ∧ b < w.heap.size ∧ ∀ i, i < n → ∀ j, j < 8 → w.cell? ⟨b, off + i * 8 + j, none⟩ = (ops i).cells[j]?
theorem OpsAt.cells {w w' : World} {b off n : Nat} {ops : Nat → OpR} (h : ∀ i, i < n → ∀ j, j < 8 → w.cell? ⟨b, off + i * 8 + j, none⟩ = (ops i).cells[j]?) (hb : Below w.heap.size w w') (hlt : b < w.heap.size) (k : Nat) (hk : k < n) :
    w'.cell? ⟨b, off + k * 8, none⟩ = some (.int .i64 (ops k).kind) ∧ w'.cell? ⟨b, off + k * 8 + 1, none⟩ = some (.int .i64 (ops k).a) ∧ w'.cell? ⟨b, off + k * 8 + 2, none⟩ = some (.int .i64 (ops k).b) ∧
    w'.cell? ⟨b, off + k * 8 + 3, none⟩ = some (.int .i64 (ops k).c) ∧ w'.cell? ⟨b, off + k * 8 + 4, none⟩ = some (.int .i64 (ops k).d) ∧ w'.cell? ⟨b, off + k * 8 + 5, none⟩ = some (.int .i64 (ops k).e) ∧
    w'.cell? ⟨b, off + k * 8 + 6, none⟩ = some (.string (ops k).s) ∧ w'.cell? ⟨b, off + k * 8 + 7, none⟩ = some (.string (ops k).t) := by
  have hh : ∀ j, j < 8 → w'.cell? ⟨b, off + k * 8 + j, none⟩ = (ops k).cells[j]? := fun j hj => (hb.cell (p := ⟨b, off + k * 8 + j, none⟩) hlt).trans (h k hk j hj)
  exact ⟨hh 0 (by omega), hh 1 (by omega), hh 2 (by omega), hh 3 (by omega), hh 4 (by omega), hh 5 (by omega), hh 6 (by omega), hh 7 (by omega)⟩

theorem OpsAt.below {w w' : World} {ao : Option Addr} {n : Nat} {ops : Nat → OpR} (h : OpsAt w ao n ops) (hb : Below w.heap.size w w') : OpsAt w' ao n ops := by
  rcases h with h | ⟨b, off, h1, h2, h3⟩
  · exact Or.inl h
  · exact Or.inr ⟨b, off, h1, Nat.lt_of_lt_of_le h2 hb.size, fun i hi j hj => (hb.cell (p := ⟨b, off + i * 8 + j, none⟩) h2).trans (h3 i hi j hj)⟩
def StepsTrue (w : World) (cs : Value) (L : List Int) (n : Nat) (ops : Nat → OpR) : Prop :=
  ∀ i, i < n → L.contains (ops i).kind = true → ∀ w' g, Below w.heap.size w w' → w.heap.size ≤ g → PlainW w' g cs →
    Calls Tryz.prog 13 #[.pointer (some ⟨g, 0, none⟩), .agg (ops i).cells] w' fun e w'' => e = .returned (.bool true) ∧ Below w'.heap.size w' w''
theorem IntsAt.below {w w' : World} {g : Nat} {l : List Int} {B : Nat} (h : IntsAt w g l) (hb : Below B w w') (hg : g < B) : IntsAt w' g l := Below.row hb h hg
theorem IntsAt.lt {w : World} {g : Nat} {l : List Int} (h : IntsAt w g l) : g < w.heap.size := lt_of_row h

set_option maxRecDepth 100000 in
set_option maxHeartbeats 2000000 in
theorem plays_plain (co : Option Addr) (cn cc : Nat) (ao : Option Addr) (n cap : Nat) (ops : Nat → OpR) (gp gh : Nat) (L : List Int) (w : World) (hops : OpsAt w ao n ops) (hn : n ≤ 140737488355328)
    (hp : IntsAt w gp L) (hh : IntsAt w gh L) (hL : L.length ≤ 1000) (hstep : StepsTrue w (.slice co cn cc) L n ops) :
    Calls Tryz.prog 11 #[.slice co cn cc, .slice ao n cap, .slice (some ⟨gp, 0, none⟩) L.length L.length, .slice (some ⟨gh, 0, none⟩) L.length L.length] w fun e w' => e = .returned (.bool true) ∧ Below w.heap.size w w' := by
  rcases hops with rfl | ⟨b, off, rfl, hblt, hcells⟩
  · clear hstep
    have HP := hide hp
    have HH := hide hh
    clear hp hh
    go_enter Tryz.func11, Tryz.ntmps11
    go_wp2
    refine wp_loop_rounds 1 ?_
    rw [rounds_succ]
    go_wp2
    go_ret
    exact ⟨rfl, (Below.refl _ _).alloc (Nat.le_refl _) _⟩
  have HP := hide hp
  have HH := hide hh
  have HS := hide hstep
  have HC := hide hcells
  clear hp hh hstep hcells
  go_enter Tryz.func11, Tryz.ntmps11
  go_wp2
  go_loopw [10] (fun i wr => ∃ k : Nat, k ≤ n ∧ i = .int .i64 k ∧ PlainW wr w.heap.size (.slice co cn cc) ∧ Below w.heap.size w wr) (fun i _ => n - (intOf i).toNat)
  case atStart => exact ⟨0, Nat.zero_le _, rfl, Go.heap_alloc_new _ _, (Below.refl _ _).alloc (Nat.le_refl _) _⟩
  case round =>
    obtain ⟨k, hk, rfl, hpw, hbel⟩ := hrel
    have HW := hide hpw
    clear hpw
    by_cases hlt : k < n
    · obtain ⟨c0, c1, c2, c3, c4, c5, c6, c7⟩ := OpsAt.cells HC.out hbel hblt k hlt
      have h57 : (k : Int) < 144115188075855872 := by omega
      have h58 : decide ((k : Int) < 144115188075855872) = true := decide_eq_true h57
      have HB1 : ∀ o, Below w.heap.size w (wr.alloc o) := fun o => hbel.alloc hbel.size o
      have HB2 := hide HB1
      clear HB1
      cases hin : L.contains (ops k).kind
      · go_wp2_with fail
        refine (among_any gp L (ops k).kind _ (HP.out.below (HB2.out _) HP.out.lt) hL).mono ?_
        rintro e w' ⟨rfl, rfl⟩
        rw [hin]
        go_wp2
        go_roundw
        case rel => exact ⟨k + 1, by omega, by go_num, HW.out.below ((Below.refl _ _).alloc (Nat.le_refl _) _) HW.out.lt, HB2.out _⟩
        case measure => simp [intOf]; omega
      · go_wp2_with fail
        refine (among_any gp L (ops k).kind _ (HP.out.below (HB2.out _) HP.out.lt) hL).mono ?_
        rintro e w' ⟨rfl, rfl⟩
        rw [hin]
        go_wp2_with fail
        refine (HS.out k hlt hin _ w.heap.size (HB2.out _) (Nat.le_refl _) (HW.out.below ((Below.refl _ _).alloc (Nat.le_refl _) _) HW.out.lt)).mono ?_
        rintro e w2 ⟨rfl, hb2⟩
        have hb3 := (HB2.out _).trans (hb2.mono (by simp; exact Nat.le_succ_of_le hbel.size))
        have hk2 : w2.cell? ⟨wr.heap.size, 0, none⟩ = some (.int .i64 (ops k).kind) := by
          rw [hb2.cell (p := ⟨wr.heap.size, 0, none⟩) (by simp)]; simp
        have hsz : wr.heap.size < w2.heap.size := by have := hb2.size; simp at this; omega
        have HB3 := hide hb3
        have HB4 := hide hb2
        clear hb2 hb3 c0 c1 c2 c3 c4 c5 c6 c7
        go_wp2_with fail
        refine (among_any gh L (ops k).kind _ (HH.out.below HB3.out HH.out.lt) hL).mono ?_
        rintro e w' ⟨rfl, rfl⟩
        rw [hin]
        go_wp2_with fail
        refine (looks_plain w.heap.size _ _ (HW.out.below (((Below.refl _ _).alloc (Nat.le_refl _) _).trans (HB4.out.mono (by simp))) HW.out.lt)).mono ?_
        rintro e w' ⟨rfl, rfl⟩
        go_wp2
        go_roundw
        case rel => exact ⟨k + 1, by omega, by go_num, HW.out.below (((Below.refl _ _).alloc (Nat.le_refl _) _).trans (HB4.out.mono (by simp))) HW.out.lt, HB3.out⟩
        case measure => simp [intOf]; omega
    · go_wp2
      go_ret
      exact ⟨rfl, hbel⟩
end Go.Proofs.YthgcpjdlcooncaaGreat
namespace Veil
/-- Something that happened to a cell. -/
structure Mk where
  kind : Nat
  level : Nat
  label : Nat
/-- A cell: its byte, its origin, what happened to it. -/
structure RC where
  b : Nat
  origin : Nat
  marks : List Mk
structure RA where
  kind : Int
  who : Int
  target : Int
  cells : Int
def goneB (c : Cfg) (d : Nat) (m : Mk) : Bool := (m.kind == 2) && c.le m.level d
def thereB (c : Cfg) (x : RC) (d : Nat) : Bool := !(x.marks.any (goneB c d)) && c.le x.origin d
def seenS (c : Cfg) (o d : Nat) (s : Nat × Bool) (m : Mk) : Nat × Bool := bif c.le m.level d then (bif m.kind == 3 then ((c.join s.1 m.label).toNat, false) else (bif m.kind == 4 then (o, true) else s)) else s
def seenF (c : Cfg) (x : RC) (d : Nat) : Nat × Bool := x.marks.foldl (seenS c x.origin d) (x.origin, false)
structure MkOk (c : Cfg) (m : Mk) : Prop where
  level : m.level < c.n
  label : m.label < c.n
structure RCOk (c : Cfg) (x : RC) : Prop where
  byte : x.b < 256
  origin : x.origin < c.n
  marks : ∀ m, m ∈ x.marks → MkOk c m
theorem any_snoc {α : Type} (p : α → Bool) (l : List α) (i : Nat) (a : α) (h : l[i]? = some a) : (l.take (i + 1)).any p = ((l.take i).any p || p a) := by
  rw [List.take_add_one, h]; simp
theorem any_mem {α : Type} (p : α → Bool) (l : List α) (i : Nat) (a : α) (h : l[i]? = some a) (hp : p a = true) : l.any p = true :=
  List.any_eq_true.2 ⟨a, List.mem_of_getElem? h, hp⟩
theorem foldl_snoc {α β : Type} (f : β → α → β) (z : β) (l : List α) (i : Nat) (a : α) (h : l[i]? = some a) : (l.take (i + 1)).foldl f z = f ((l.take i).foldl f z) a := by
  rw [List.take_add_one, h]; simp
end Veil
namespace Veil
theorem join_nat {c : Cfg} (h : ¬ c.noLat) {a b : Nat} (ha : a < c.n) (hb : b < c.n) : ∃ j : Nat, j < c.n ∧ c.join a b = j := by
  have hpos : 0 ≤ c.join a b := Int.not_lt.1 fun h' => h ⟨a, b, ha, hb, Or.inl h'⟩
  rcases firstN_cases (c.isJoin a b) c.n with ⟨j, hj, _, _, h3⟩ | ⟨_, h2⟩
  · exact ⟨j, hj, h3⟩
  · have : c.join a b = -1 := h2
    omega
/-- What was seen behind the first k marks. -/
def seenTo (c : Cfg) (o d : Nat) (l : List Mk) (k : Nat) : Nat × Bool := (l.take k).foldl (seenS c o d) (o, false)
theorem seenTo_succ (c : Cfg) (o d : Nat) (l : List Mk) (k : Nat) (m : Mk) (h : l[k]? = some m) : seenTo c o d l (k + 1) = seenS c o d (seenTo c o d l k) m := foldl_snoc _ _ _ _ _ h
theorem seenTo_all (c : Cfg) (o d : Nat) (l : List Mk) : seenTo c o d l l.length = l.foldl (seenS c o d) (o, false) := by rw [seenTo, List.take_length]
end Veil
namespace Veil
theorem okL_nat' {c : Cfg} {a : Int} (hl : (c.n : Int) = c.labels) (h : okL c.labels a = true) : ∃ x : Nat, a = x ∧ x < c.n := by
  simp only [okL, Bool.and_eq_true, decide_eq_true_eq] at h
  exact ⟨a.toNat, by omega, by omega⟩
end Veil
