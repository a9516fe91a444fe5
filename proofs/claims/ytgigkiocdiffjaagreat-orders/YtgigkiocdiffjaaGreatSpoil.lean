/- whole, spoil. -/
import Derived.Test.YtgigkiocdiffjaaGreatWhole
namespace Go.Proofs.YtgigkiocdiffjaaGreat
open Go.RowKit Veil
theorem wholeE_any (l : List (Int × Int)) (g : Nat) (ao oa : Option Addr) (c oc : Nat) (w : World) (hl : l.length ≤ 8796093022208) (hg : RowAt xE yE w g 169 (l ++ pad 8 (77, 77))) (hs : SeqAt xE yE w ao l) (ho : oa = ao.map fun _ => ⟨g, 0, none⟩) (hc : oc = if ao.isSome then l.length + 8 else 0) :
    Calls Tryz.prog 125 #[.slice oa l.length oc, .slice ao l.length c] w fun e w' => e = .returned (.bool true) ∧ Below w.heap.size w w' := by
  subst ho hc
  cases ao with
  | none => exact (wholeE_nil _ _ _ w).mono fun e w' ⟨h1, h2⟩ => ⟨h1, by subst h2; exact Below.refl _ _⟩
  | some a => exact wholeE_some l g a c w hl hg hs
theorem wholeR_any (l : List (ByteArray × Int)) (g : Nat) (ao oa : Option Addr) (c oc : Nat) (w : World) (hl : l.length ≤ 8796093022208) (hg : RowAt xR yR w g 163 (l ++ pad 8 beyondR)) (hs : SeqAt xR yR w ao l) (ho : oa = ao.map fun _ => ⟨g, 0, none⟩) (hc : oc = if ao.isSome then l.length + 8 else 0) :
    Calls Tryz.prog 126 #[.slice oa l.length oc, .slice ao l.length c] w fun e w' => e = .returned (.bool true) ∧ Below w.heap.size w w' := by
  subst ho hc
  cases ao with
  | none => exact (wholeR_nil _ _ _ w).mono fun e w' ⟨h1, h2⟩ => ⟨h1, by subst h2; exact Below.refl _ _⟩
  | some a => exact wholeR_some l g a c w hl hg hs
theorem wholeG_any (l : List (Int × Int)) (g : Nat) (ao oa : Option Addr) (c oc : Nat) (w : World) (hl : l.length ≤ 8796093022208) (hg : RowAt xE yE w g 166 (l ++ pad 8 (77, 77))) (hs : SeqAt xE yE w ao l) (ho : oa = ao.map fun _ => ⟨g, 0, none⟩) (hc : oc = if ao.isSome then l.length + 8 else 0) :
    Calls Tryz.prog 127 #[.slice oa l.length oc, .slice ao l.length c] w fun e w' => e = .returned (.bool true) ∧ Below w.heap.size w w' := by
  subst ho hc
  cases ao with
  | none => exact (wholeG_nil _ _ _ w).mono fun e w' ⟨h1, h2⟩ => ⟨h1, by subst h2; exact Below.refl _ _⟩
  | some a => exact wholeG_some l g a c w hl hg hs

set_option maxRecDepth 100000 in
set_option maxHeartbeats 1000000 in
theorem whole_any (c : Cfg) (v : CfgV) (g1 g2 g3 : Nat) (w : World) (hok : CfgOk c) (hat : CfgAt w c v) (hl : LentAt w c g1 g2 g3) :
    Calls Tryz.prog 81 #[.agg (cfgCells c (lentV c v g1 g2 g3)), .agg (cfgCells c v)] w fun e w' => e = .returned (.bool true) ∧ Below w.heap.size w w' := by
  have e1 : (lentV c v g1 g2 g3).ea = v.ea.map fun _ => ⟨g1, 0, none⟩ := rfl
  have e2 : (lentV c v g1 g2 g3).ra = v.ra.map fun _ => ⟨g2, 0, none⟩ := rfl
  have e3 : (lentV c v g1 g2 g3).ga = v.ga.map fun _ => ⟨g3, 0, none⟩ := rfl
  have c1 : (lentV c v g1 g2 g3).ec = if v.ea.isSome then c.edges.length + 8 else 0 := rfl
  have c2 : (lentV c v g1 g2 g3).rc = if v.ra.isSome then c.rules.length + 8 else 0 := rfl
  have c3 : (lentV c v g1 g2 g3).gc = if v.ga.isSome then c.grants.length + 8 else 0 := rfl
  generalize lentV c v g1 g2 g3 = V at *
  obtain ⟨oea, oec, ora, orc, oga, ogc⟩ := V
  obtain ⟨L, E, R, G⟩ := c
  obtain ⟨ea, ec, ra, rc, ga, gc⟩ := v
  have E1 := hide e1
  have E2 := hide e2
  have E3 := hide e3
  have C1 := hide c1
  have C2 := hide c2
  have C3 := hide c3
  have HK := hide hok
  have HA := hide hat
  have HL := hide hl
  have l1 := hl.edges.lt
  have l2 := hl.rules.lt
  have l3 := hl.grants.lt
  clear hok hat hl e1 e2 e3 c1 c2 c3
  unfold cfgCells
  have hbo : ∀ o o' : Obj, Below w.heap.size w ((w.alloc o).alloc o') := fun o o' => ((Below.refl _ _).alloc (Nat.le_refl _) _).alloc (by simp) _
  have HB := hide hbo
  clear hbo
  go_enter Tryz.func81, Tryz.ntmps81
  go_wp2_with fail
  refine (wholeE_any E g1 ea oea ec oec _ HK.out.edges (HL.out.edges.below (HB.out _ _) l1) (HA.out.edges.below (HB.out _ _)) E1.out C1.out).mono ?_
  rintro e w1 ⟨rfl, hb1⟩
  have hbw1 := (HB.out _ _).trans (hb1.mono (by simp; omega))
  have a2 : w1.cell? ⟨w.heap.size, 2, none⟩ = some (.slice ora R.length orc) := by rw [hb1.cell (p := ⟨w.heap.size, 2, none⟩) (by simp; omega)]; simp
  have a3 : w1.cell? ⟨w.heap.size, 3, none⟩ = some (.slice oga G.length ogc) := by rw [hb1.cell (p := ⟨w.heap.size, 3, none⟩) (by simp; omega)]; simp
  have b2 : w1.cell? ⟨w.heap.size + 1, 2, none⟩ = some (.slice ra R.length rc) := by rw [hb1.cell (p := ⟨w.heap.size + 1, 2, none⟩) (by simp)]; simp
  have b3 : w1.cell? ⟨w.heap.size + 1, 3, none⟩ = some (.slice ga G.length gc) := by rw [hb1.cell (p := ⟨w.heap.size + 1, 3, none⟩) (by simp)]; simp
  have z1 : w.heap.size + 1 < w1.heap.size := by have := hb1.size; simp at this; omega
  have HB1 := hide hbw1
  clear hb1 hbw1
  go_wp2_with fail
  refine (wholeR_any R g2 ra ora rc orc _ HK.out.rules (HL.out.rules.below HB1.out l2) (HA.out.rules.below HB1.out) E2.out C2.out).mono ?_
  rintro e w2 ⟨rfl, hb2⟩
  have hbw2 := HB1.out.trans (hb2.mono (by omega))
  have a3' : w2.cell? ⟨w.heap.size, 3, none⟩ = some (.slice oga G.length ogc) := by rw [hb2.cell (p := ⟨w.heap.size, 3, none⟩) (by dsimp only; omega)]; exact a3
  have b3' : w2.cell? ⟨w.heap.size + 1, 3, none⟩ = some (.slice ga G.length gc) := by rw [hb2.cell (p := ⟨w.heap.size + 1, 3, none⟩) (by dsimp only; omega)]; exact b3
  have z2 : w.heap.size + 1 < w2.heap.size := by have := hb2.size; omega
  have HB2 := hide hbw2
  clear hb2 hbw2 a2 a3 b2 b3 z1
  go_wp2_with fail
  refine (wholeG_any G g3 ga oga gc ogc _ HK.out.grants (HL.out.grants.below HB2.out l3) (HA.out.grants.below HB2.out) E3.out C3.out).mono ?_
  rintro e w3 ⟨rfl, hb3⟩
  have hbw3 := hide (HB2.out.trans (hb3.mono (by omega)))
  clear hb3 a3' b3' z2
  go_wp2
  go_ret
  exact ⟨rfl, hbw3.out⟩

/-- While what was lent is written over. -/
structure SpoilMid (w : World) (B : Nat) (c : Cfg) (v : CfgV) (g1 g2 g3 : Nat) : Prop where
  cfg : w.heap[B]? = some (.cells (cfgCells c (lentV c v g1 g2 g3)) 31 (0, 0))
  edges : ∃ l, l.length = c.edges.length + 8 ∧ RowAt xE yE w g1 169 l
  rules : ∃ l, l.length = c.rules.length + 8 ∧ RowAt xR yR w g2 163 l
  grants : ∃ l, l.length = c.grants.length + 8 ∧ RowAt xE yE w g3 166 l

theorem SpoilMid.stepE {w : World} {B : Nat} {c : Cfg} {v : CfgV} {g1 g2 g3 k : Nat} (h : SpoilMid w B c v g1 g2 g3) (a : Int × Int) (hk : k < c.edges.length + 8) (h12 : g1 < g2) (h23 : g2 < g3) (hB : g3 < B) :
    SpoilMid ((w.setCell ⟨g1, k * 2, none⟩ (xE a)).setCell ⟨g1, k * 2 + 1, none⟩ (yE a)) B c v g1 g2 g3 := by
  obtain ⟨q0, ⟨l1, q1, r1⟩, ⟨l2, q2, r2⟩, ⟨l3, q3, r3⟩⟩ := h
  refine ⟨other2 q0 (by omega), ⟨l1.set k a, by simp [q1], r1.store a (by omega)⟩, ⟨l2, q2, other2 r2 (by omega)⟩, ⟨l3, q3, other2 r3 (by omega)⟩⟩

theorem SpoilMid.stepR {w : World} {B : Nat} {c : Cfg} {v : CfgV} {g1 g2 g3 k : Nat} (h : SpoilMid w B c v g1 g2 g3) (a : ByteArray × Int) (hk : k < c.rules.length + 8) (h12 : g1 < g2) (h23 : g2 < g3) (hB : g3 < B) :
    SpoilMid ((w.setCell ⟨g2, k * 2, none⟩ (xR a)).setCell ⟨g2, k * 2 + 1, none⟩ (yR a)) B c v g1 g2 g3 := by
  obtain ⟨q0, ⟨l1, q1, r1⟩, ⟨l2, q2, r2⟩, ⟨l3, q3, r3⟩⟩ := h
  refine ⟨other2 q0 (by omega), ⟨l1, q1, other2 r1 (by omega)⟩, ⟨l2.set k a, by simp [q2], r2.store a (by omega)⟩, ⟨l3, q3, other2 r3 (by omega)⟩⟩

theorem SpoilMid.stepG {w : World} {B : Nat} {c : Cfg} {v : CfgV} {g1 g2 g3 k : Nat} (h : SpoilMid w B c v g1 g2 g3) (a : Int × Int) (hk : k < c.grants.length + 8) (h12 : g1 < g2) (h23 : g2 < g3) (hB : g3 < B) :
    SpoilMid ((w.setCell ⟨g3, k * 2, none⟩ (xE a)).setCell ⟨g3, k * 2 + 1, none⟩ (yE a)) B c v g1 g2 g3 := by
  obtain ⟨q0, ⟨l1, q1, r1⟩, ⟨l2, q2, r2⟩, ⟨l3, q3, r3⟩⟩ := h
  refine ⟨other2 q0 (by omega), ⟨l1, q1, other2 r1 (by omega)⟩, ⟨l2, q2, other2 r2 (by omega)⟩, ⟨l3.set k a, by simp [q3], r3.store a (by omega)⟩⟩

set_option maxRecDepth 100000 in
set_option maxHeartbeats 4000000 in
theorem spoil_any (c : Cfg) (v : CfgV) (g1 g2 g3 B : Nat) (w : World) (hok : CfgOk c) (hn : CfgNil c v) (hl : LentAt w c g1 g2 g3) (hB : B ≤ g1) (h12 : g1 < g2) (h23 : g2 < g3) :
    Calls Tryz.prog 82 #[.agg (cfgCells c (lentV c v g1 g2 g3))] w fun e w' => e = .returned (.tuple #[]) ∧ Below B w w' := by
  have l1 := hl.edges.lt
  have l2 := hl.rules.lt
  have l3 := hl.grants.lt
  have k1 := hok.edges
  have k2 := hok.rules
  have k3 := hok.grants
  have hm0 : ∀ o, o = Obj.cells (cfgCells c (lentV c v g1 g2 g3)) 31 → SpoilMid (w.alloc o) w.heap.size c v g1 g2 g3 := fun o ho => by
    subst ho
    exact ⟨Go.heap_alloc_new _ _, ⟨_, by simp [pad_length], row_alloc' hl.edges⟩, ⟨_, by simp [pad_length], row_alloc' hl.rules⟩, ⟨_, by simp [pad_length], row_alloc' hl.grants⟩⟩
  have HM := hide hm0
  have HN := hide hn
  clear hm0 hn hl hok
  have e1 : 0 < c.edges.length → (lentV c v g1 g2 g3).ea = some ⟨g1, 0, none⟩ := fun h => by
    cases hv : v.ea with
    | none => have := (HN.out.edges hv).1; omega
    | some a => simp [lentV, hv]
  have e2 : 0 < c.rules.length → (lentV c v g1 g2 g3).ra = some ⟨g2, 0, none⟩ := fun h => by
    cases hv : v.ra with
    | none => have := (HN.out.rules hv).1; omega
    | some a => simp [lentV, hv]
  have e3 : 0 < c.grants.length → (lentV c v g1 g2 g3).ga = some ⟨g3, 0, none⟩ := fun h => by
    cases hv : v.ga with
    | none => have := (HN.out.grants hv).1; omega
    | some a => simp [lentV, hv]
  have E1 := hide e1
  have E2 := hide e2
  have E3 := hide e3
  clear e1 e2 e3
  generalize hV : lentV c v g1 g2 g3 = V at *
  have HV := hide hV
  clear hV
  obtain ⟨L, E, R, G⟩ := c
  obtain ⟨ea, ec, ra, rc, ga, gc⟩ := V
  simp only at k1 k2 k3
  unfold cfgCells
  go_enter Tryz.func82, Tryz.ntmps82
  go_wp2
  go_loopw [2] (fun i wr => ∃ k : Nat, k ≤ E.length ∧ i = .int .i64 k ∧ SpoilMid wr w.heap.size ⟨L, E, R, G⟩ v g1 g2 g3 ∧ Below B w wr) (fun i _ => E.length - (intOf i).toNat)
  case atStart => exact ⟨0, Nat.zero_le _, rfl, HM.out _ rfl, (Below.refl _ _).alloc (by omega) _⟩
  case round =>
    obtain ⟨k, hk, rfl, hm, hbel⟩ := hrel
    have HK := hide hm
    by_cases hlt : k < E.length
    · obtain ⟨l, hlen, hrow⟩ := hm.edges
      have hlen' : k < l.length := by rw [hlen]; dsimp only; omega
      obtain ⟨p1, p2⟩ := hrow.cell (List.getElem?_eq_getElem hlen')
      have f1 := hrow.frozen (k * 2)
      have f2 := hrow.frozen (k * 2 + 1)
      have c1 : wr.cell? ⟨w.heap.size, 1, none⟩ = some (.slice (some ⟨g1, 0, none⟩) E.length ec) := by
        have := hm.cfg
        rw [HV.out] at this
        rw [cell_of_row _ _ _ _ _ _ this]
        have e := E1.out (by omega)
        simp [cfgCells, e]
      generalize l[k] = q at *
      clear hm hrow hlen hlen'
      go_wp2
      go_roundw
      case rel => exact ⟨k + 1, by omega, by go_num, HK.out.stepE (0, 0) (by dsimp only; omega) h12 h23 l3, (hbel.setCell (by dsimp only; omega) _).setCell (by dsimp only; omega) _⟩
      case measure => simp [intOf]; omega
    · have c1 : wr.cell? ⟨w.heap.size, 1, none⟩ = some (.slice ea E.length ec) := by
        have := hm.cfg
        rw [HV.out] at this
        rw [cell_of_row _ _ _ _ _ _ this]; rfl
      clear hm
      go_wp2
      go_loopw [3] (fun i wr => ∃ k : Nat, k ≤ R.length ∧ i = .int .i64 k ∧ SpoilMid wr w.heap.size ⟨L, E, R, G⟩ v g1 g2 g3 ∧ Below B w wr) (fun i _ => R.length - (intOf i).toNat)
      case atStart => exact ⟨0, Nat.zero_le _, rfl, HK.out, hbel⟩
      case round =>
        obtain ⟨k, hk, rfl, hm, hbel⟩ := hrel
        have HK := hide hm
        by_cases hlt : k < R.length
        · obtain ⟨l, hlen, hrow⟩ := hm.rules
          have hlen' : k < l.length := by rw [hlen]; dsimp only; omega
          obtain ⟨p1, p2⟩ := hrow.cell (List.getElem?_eq_getElem hlen')
          have f1 := hrow.frozen (k * 2)
          have f2 := hrow.frozen (k * 2 + 1)
          have c1 : wr.cell? ⟨w.heap.size, 2, none⟩ = some (.slice (some ⟨g2, 0, none⟩) R.length rc) := by
            have := hm.cfg
            rw [HV.out] at this
            rw [cell_of_row _ _ _ _ _ _ this]
            have e := E2.out (by omega)
            simp [cfgCells, e]
          generalize l[k] = q at *
          clear hm hrow hlen hlen'
          go_wp2
          go_roundw
          case rel => exact ⟨k + 1, by omega, by go_num, HK.out.stepR (⟨#[42]⟩, 0) (by dsimp only; omega) h12 h23 l3, (hbel.setCell (by dsimp only; omega) _).setCell (by dsimp only; omega) _⟩
          case measure => simp [intOf]; omega
        · have c1 : wr.cell? ⟨w.heap.size, 2, none⟩ = some (.slice ra R.length rc) := by
            have := hm.cfg
            rw [HV.out] at this
            rw [cell_of_row _ _ _ _ _ _ this]; rfl
          clear hm
          go_wp2
          go_loopw [4] (fun i wr => ∃ k : Nat, k ≤ G.length ∧ i = .int .i64 k ∧ SpoilMid wr w.heap.size ⟨L, E, R, G⟩ v g1 g2 g3 ∧ Below B w wr) (fun i _ => G.length - (intOf i).toNat)
          case atStart => exact ⟨0, Nat.zero_le _, rfl, HK.out, hbel⟩
          case round =>
            obtain ⟨k, hk, rfl, hm, hbel⟩ := hrel
            have HK := hide hm
            by_cases hlt : k < G.length
            · obtain ⟨l, hlen, hrow⟩ := hm.grants
              have hlen' : k < l.length := by rw [hlen]; dsimp only; omega
              obtain ⟨p1, p2⟩ := hrow.cell (List.getElem?_eq_getElem hlen')
              have f1 := hrow.frozen (k * 2)
              have f2 := hrow.frozen (k * 2 + 1)
              have c1 : wr.cell? ⟨w.heap.size, 3, none⟩ = some (.slice (some ⟨g3, 0, none⟩) G.length gc) := by
                have := hm.cfg
                rw [HV.out] at this
                rw [cell_of_row _ _ _ _ _ _ this]
                have e := E3.out (by omega)
                simp [cfgCells, e]
              generalize l[k] = q at *
              clear hm hrow hlen hlen'
              go_wp2
              go_roundw
              case rel => exact ⟨k + 1, by omega, by go_num, HK.out.stepG (0, 0) (by dsimp only; omega) h12 h23 l3, (hbel.setCell (by dsimp only; omega) _).setCell (by dsimp only; omega) _⟩
              case measure => simp [intOf]; omega
            · have c1 : wr.cell? ⟨w.heap.size, 3, none⟩ = some (.slice ga G.length gc) := by
                have := hm.cfg
                rw [HV.out] at this
                rw [cell_of_row _ _ _ _ _ _ this]; rfl
              clear hm
              go_wp2
              go_end0
              exact ⟨rfl, hbel⟩
end Go.Proofs.YtgigkiocdiffjaaGreat
