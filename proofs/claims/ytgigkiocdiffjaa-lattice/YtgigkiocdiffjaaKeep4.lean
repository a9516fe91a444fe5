/- veilkeep.Lattice. -/
import Derived.Test.YtgigkiocdiffjaaKeep3
namespace Go.Proofs.Ytgigkiocdiffjaa
open Go.RowKit Veil
set_option maxRecDepth 100000 in
set_option maxHeartbeats 16000000 in
theorem lattice_any (c : Cfg) (v : CfgV) (a b k : Int) (w : World) (hok : CfgOk c) (hat : CfgAt w c v) (hcap : c.rules.length ≤ v.rc) (hkk : -9223372036854775808 ≤ k ∧ k ≤ 9223372036854775807) :
    Calls Try.prog 4 #[.agg (cfgCells c v), .int .i64 a, .int .i64 b, .int .i64 k] w fun e w' => e = .returned (.bool true) ∧ Below w.heap.size w w' := by
  have HR := hide (fun w' (hb : Below w.heap.size w w') => kright_any c v w' hok (hat.below hb))
  have HF := hide (fun w' (hb : Below w.heap.size w w') (e : Int) (he : CheckIs c e) (hne : e ≠ 0) => refused_any c v e w' hok (hat.below hb) hcap he hne)
  have HLB := hide (fun (x : Int) (w' : World) => klabel_any c v x w')
  have HL := hide (fun w' (hb : Below w.heap.size w w') => vLeq_any c v a b w' hok (hat.below hb) hcap)
  have HJ := hide (fun w' (hb : Below w.heap.size w w') => vJoin_any c v a b w' hok (hat.below hb) hcap)
  have HM := hide (fun w' (hb : Below w.heap.size w w') => vMeet_any c v a b w' hok (hat.below hb) hcap)
  have HQ := hide (fun (hr : CheckIs c 0) => asks_of hok hat hcap hr)
  have HO := hide (fun w' (hb : Below w.heap.size w w') (hr : CheckIs c 0) (x y z : Nat) (hx : x < c.n) (hy : y < c.n) (hz : z < c.n) => ordered_any c v x y z w' hok (hat.below hb) hcap hr hx hy hz)
  have HP := hide (fun (n : Nat) (w' : World) (h : 0 < n) (h2 : n < 2 ^ 57) => kpick_any k n w' hkk h h2)
  have HPL := hide (fun (n : Nat) (h : 0 < n) => pickK_lt (c := k) (n := n) hkk.1 h)
  have HX0 := hide (box_new w c v)
  have hbel0 := below_box w (.cells (cfgCells c v) 31)
  have hedge := hat.edges
  obtain ⟨eb, eo, hea, hblt, hcells⟩ : ∃ eb eo, (c.edges = [] ∨ v.ea = some ⟨eb, eo, none⟩) ∧ (c.edges = [] ∨ eb < w.heap.size) ∧ ∀ i p, c.edges[i]? = some p → w.cell? ⟨eb, eo + i * 2, none⟩ = some (xE p) ∧ w.cell? ⟨eb, eo + i * 2 + 1, none⟩ = some (yE p) := by
    rcases hedge with h | ⟨b, off, h, h1, h2⟩
    · exact ⟨0, 0, Or.inl h, Or.inl h, fun i p hp => by rw [show c.edges = [] from h] at hp; simp at hp⟩
    · exact ⟨b, off, Or.inr h, Or.inr h1, h2⟩
  have HC := hide hcells
  have HA := hide hea
  have HBL := hide hblt
  obtain ⟨q0, q1, q2, q3⟩ := HX0.out.cells
  have HE0 := hide hok.edges
  clear hok hat hcap hkk hcells hblt hea hedge
  unfold cfgCells at *
  go_enter Try.func4, Try.ntmps4
  go_wp2_with fail
  refine (HR.out _ hbel0).mono ?_
  rintro e w1 ⟨code, rfl, hc, hb1⟩
  have HCK := hide hc
  have HX1 := hide (HX0.out.below hb1 HX0.out.lt)
  have hbel1 := hbel0.trans (hb1.mono hbel0.size)
  clear hb1 q0 q1 q2 q3 hc
  obtain ⟨q0, q1, q2, q3⟩ := HX1.out.cells
  clear HX0 hbel0 HR
  cases hcode : (code == 0)
  · have hne : code ≠ 0 := by simpa using hcode
    have HF2 := hide (HF.out _ hbel1 code HCK.out hne)
    clear hcode hne
    go_wp2_with fail
    refine (HF2.out).mono ?_
    rintro e w2 ⟨rfl, hb2⟩
    have hbel2 := hbel1.trans (hb2.mono hbel1.size)
    clear hb2 q0 q1 q2 q3
    go_wp2
    go_ret
    exact ⟨rfl, hbel2⟩
  obtain rfl : code = 0 := by simpa using hcode
  clear hcode HF
  have hR := right_of HCK.out
  obtain ⟨hL1, hL6, hE30, hE, hn, hn6, hn1⟩ := labels_of hR.labels
  have HE := hide hE
  have HLE := hide (le_edge hR)
  have HAS := hide (HQ.out HCK.out)
  have HRR := hide hR
  clear hE hR HQ
  go_wp2
  go_loopw [10] (fun i wr => ∃ k : Nat, k ≤ c.edges.length ∧ i = .int .i64 k ∧ BoxAt wr w.heap.size c v ∧ Below w.heap.size w wr) (fun i _ => c.edges.length - (intOf i).toNat)
  case atStart => exact ⟨0, Nat.zero_le _, rfl, HX1.out, hbel1⟩
  case round =>
    clear HX1 hbel1 q0 q1 q2 q3
    obtain ⟨wo, rfl⟩ : ∃ x, x = wr := ⟨_, rfl⟩
    obtain ⟨i, hi, rfl, hbox, hbel⟩ := hrel
    obtain ⟨q0, q1, q2, q3⟩ := hbox.cells
    have HB := hide hbox
    clear hbox
    by_cases hlt : i < c.edges.length
    · have hEne : c.edges ≠ [] := fun e => by rw [e] at hlt; simp at hlt
      have hea : v.ea = some ⟨eb, eo, none⟩ := HA.out.resolve_left hEne
      have hbl : eb < w.heap.size := HBL.out.resolve_left hEne
      rw [hea] at q1
      have hej : c.edges[i]? = some c.edges[i] := List.getElem?_eq_getElem hlt
      obtain ⟨c1, c2⟩ := HC.out i _ hej
      have hin := HE.out _ (List.getElem_mem hlt)
      have hle := HLE.out _ (List.getElem_mem hlt)
      generalize c.edges[i] = e at *
      obtain ⟨e1, e2⟩ := e
      simp only at hin hle
      obtain ⟨h1, h2, h3, h4⟩ := hin
      obtain ⟨x, rfl⟩ := Int.eq_ofNat_of_zero_le h1
      obtain ⟨y, rfl⟩ := Int.eq_ofNat_of_zero_le h3
      have d1 : wo.cell? ⟨eb, eo + i * 2, none⟩ = some (.int .i64 x) := (hbel.cell (p := ⟨eb, eo + i * 2, none⟩) hbl).trans c1
      have d2 : wo.cell? ⟨eb, eo + i * 2 + 1, none⟩ = some (.int .i64 y) := (hbel.cell (p := ⟨eb, eo + i * 2 + 1, none⟩) hbl).trans c2
      have HAT : Hid (∀ w', Below w.heap.size w w' → Calls Try.prog 10 #[.agg (cfgCells c v), .int .i64 x, .int .i64 y] w' fun e w'' => e = .returned (.tuple #[.bool true, .bool true]) ∧ Below w'.heap.size w' w'') := fun w' hb' => by
        have := HAS.out.le x y w' (by omega) (by omega) hb'
        rwa [hle] at this
      have hew : eb < wo.heap.size := Nat.lt_of_lt_of_le hbl hbel.size
      have hgw := HB.out.lt
      have hili : (i : Int) < (c.edges.length : Int) := by omega
      unfold cfgCells at HAT
      rw [hea] at HAT
      clear hej c1 c2 h1 h2 h3 h4 hEne hle hea
      go_wp2_with fail
      first | (go_region_held (fun w' => w'.cell? ⟨w.heap.size, 0, none⟩ = some (.int .i64 c.labels) ∧ w'.cell? ⟨w.heap.size, 1, none⟩ = some (.slice (some ⟨eb, eo, none⟩) c.edges.length v.ec) ∧ w'.cell? ⟨w.heap.size, 2, none⟩ = some (.slice v.ra c.rules.length v.rc) ∧ w'.cell? ⟨w.heap.size, 3, none⟩ = some (.slice v.ga c.grants.length v.gc) ∧ w'.cell? ⟨eb, eo + i * 2, none⟩ = some (.int .i64 x) ∧ w'.cell? ⟨eb, eo + i * 2 + 1, none⟩ = some (.int .i64 y)) (go_keep) (first | (go_at_call 10; refine (HAT.out _ hbel.drew).mono ?_; rintro e w2 ⟨rfl, hb2⟩; have s0 := (hb2.cell (p := ⟨w.heap.size, 0, none⟩) hgw).trans q0; have s1 := (hb2.cell (p := ⟨w.heap.size, 1, none⟩) hgw).trans q1; have s2 := (hb2.cell (p := ⟨w.heap.size, 2, none⟩) hgw).trans q2; have s3 := (hb2.cell (p := ⟨w.heap.size, 3, none⟩) hgw).trans q3; have s4 := (hb2.cell (p := ⟨eb, eo + i * 2, none⟩) hew).trans d1; have s5 := (hb2.cell (p := ⟨eb, eo + i * 2 + 1, none⟩) hew).trans d2))) | fail "no"
      have HB2 := hide (show BoxAt w2 w.heap.size c v from Below.row hb2 HB.out HB.out.lt)
      have hbel2 := hbel.drew.trans (hb2.mono hbel.drew.size)
      go_wp2
      go_roundw
      case rel => exact ⟨i + 1, by omega, by go_num, HB2.out, hbel2⟩
      case measure => simp [intOf]; omega
    · cases g1 : okL c.labels a
      · have G1 := hide g1
        clear g1
        go_wp2_with fail
        refine (HLB.out a _).mono ?_
        rintro e w2 ⟨rfl, hb2⟩
        rw [G1.out]
        have HX2 := hide (HB.out.below hb2 HB.out.lt)
        have hbel2 := hbel.trans (hb2.mono hbel.size)
        clear hb2 q0 q1 q2 q3
        obtain ⟨q0, q1, q2, q3⟩ := HX2.out.cells
        go_wp2_with fail
        refine (HL.out _ hbel2).mono ?_
        rintro e w3 ⟨r3, code3, rfl, hc, hb3⟩
        obtain ⟨rfl, rfl⟩ := hc.level HCK.out (by rw [G1.out]; rfl)
        have HX3 := hide (HX2.out.below hb3 HX2.out.lt)
        have hbel3 := hbel2.trans (hb3.mono hbel2.size)
        clear hb3 q0 q1 q2 q3 hc
        obtain ⟨q0, q1, q2, q3⟩ := HX3.out.cells
        go_wp2_with fail
        refine (HJ.out _ hbel3).mono ?_
        rintro e w4 ⟨r4, code4, rfl, hc, hb4⟩
        obtain ⟨rfl, rfl⟩ := hc.level HCK.out (by rw [G1.out]; rfl)
        have HX4 := hide (HX3.out.below hb4 HX3.out.lt)
        have hbel4 := hbel3.trans (hb4.mono hbel3.size)
        clear hb4 q0 q1 q2 q3 hc
        obtain ⟨q0, q1, q2, q3⟩ := HX4.out.cells
        go_wp2_with fail
        refine (HM.out _ hbel4).mono ?_
        rintro e w5 ⟨r5, code5, rfl, hc, hb5⟩
        obtain ⟨rfl, rfl⟩ := hc.level HCK.out (by rw [G1.out]; rfl)
        have HX5 := hide (HX4.out.below hb5 HX4.out.lt)
        have hbel5 := hbel4.trans (hb5.mono hbel4.size)
        clear hb5 q0 q1 q2 q3 hc
        obtain ⟨q0, q1, q2, q3⟩ := HX5.out.cells
        go_wp2
        go_ret
        exact ⟨rfl, hbel5⟩
      have G1 := hide g1
      clear g1
      go_wp2_with fail
      refine (HLB.out a _).mono ?_
      rintro e w2 ⟨rfl, hb2⟩
      rw [G1.out]
      have HX2 := hide (HB.out.below hb2 HB.out.lt)
      have hbel2 := hbel.trans (hb2.mono hbel.size)
      clear hb2 q0 q1 q2 q3
      obtain ⟨q0, q1, q2, q3⟩ := HX2.out.cells
      go_wp2_with fail
      refine (HLB.out b _).mono ?_
      rintro e w3 ⟨rfl, hb3⟩
      have HX3 := hide (HX2.out.below hb3 HX2.out.lt)
      have hbel3 := hbel2.trans (hb3.mono hbel2.size)
      clear hb3 q0 q1 q2 q3
      obtain ⟨q0, q1, q2, q3⟩ := HX3.out.cells
      cases g2 : okL c.labels b
      · have G2 := hide g2
        clear g2
        go_wp2_with fail
        refine (HL.out _ hbel3).mono ?_
        rintro e w4 ⟨r4, code4, rfl, hc, hb4⟩
        obtain ⟨rfl, rfl⟩ := hc.level HCK.out (by rw [G1.out, G2.out]; rfl)
        have HX4 := hide (HX3.out.below hb4 HX3.out.lt)
        have hbel4 := hbel3.trans (hb4.mono hbel3.size)
        clear hb4 q0 q1 q2 q3 hc
        obtain ⟨q0, q1, q2, q3⟩ := HX4.out.cells
        go_wp2_with fail
        refine (HJ.out _ hbel4).mono ?_
        rintro e w5 ⟨r5, code5, rfl, hc, hb5⟩
        obtain ⟨rfl, rfl⟩ := hc.level HCK.out (by rw [G1.out, G2.out]; rfl)
        have HX5 := hide (HX4.out.below hb5 HX4.out.lt)
        have hbel5 := hbel4.trans (hb5.mono hbel4.size)
        clear hb5 q0 q1 q2 q3 hc
        obtain ⟨q0, q1, q2, q3⟩ := HX5.out.cells
        go_wp2_with fail
        refine (HM.out _ hbel5).mono ?_
        rintro e w6 ⟨r6, code6, rfl, hc, hb6⟩
        obtain ⟨rfl, rfl⟩ := hc.level HCK.out (by rw [G1.out, G2.out]; rfl)
        have HX6 := hide (HX5.out.below hb6 HX5.out.lt)
        have hbel6 := hbel5.trans (hb6.mono hbel5.size)
        clear hb6 q0 q1 q2 q3 hc
        obtain ⟨q0, q1, q2, q3⟩ := HX6.out.cells
        go_wp2
        go_ret
        exact ⟨rfl, hbel6⟩
      have G2 := hide g2
      clear g2
      obtain ⟨x, rfl, hx⟩ := okL_nat hn G1.out
      obtain ⟨y, rfl, hy⟩ := okL_nat hn G2.out
      obtain ⟨z, hz, hzl⟩ := HPL.out c.n (by omega)
      have HPK : Hid (∀ w', Calls Try.prog 16 #[.int .i64 k, .int .i64 c.labels] w' fun e w'' => e = .returned (.int .i64 z) ∧ w' = w'') := fun w' => by
        have := HP.out c.n w' (by omega) (by omega)
        rw [hz, hn] at this
        exact this
      have hgw := HX3.out.lt
      have HOR := hide (HO.out w3.drew hbel3.drew HCK.out x y z hx hy hzl)
      unfold cfgCells at HOR
      go_wp2_with fail
      first | (go_region_held (fun w' => w'.cell? ⟨w.heap.size, 0, none⟩ = some (.int .i64 c.labels) ∧ w'.cell? ⟨w.heap.size, 1, none⟩ = some (.slice v.ea c.edges.length v.ec) ∧ w'.cell? ⟨w.heap.size, 2, none⟩ = some (.slice v.ra c.rules.length v.rc) ∧ w'.cell? ⟨w.heap.size, 3, none⟩ = some (.slice v.ga c.grants.length v.gc)) (go_keep) (first | (go_at_call 16; refine (HPK.out _).mono ?_; rintro e w9 ⟨rfl, rfl⟩) | (go_at_call 15; refine (HOR.out).mono ?_; rintro e w4 ⟨rfl, hb4⟩; have s0 := (hb4.cell (p := ⟨w.heap.size, 0, none⟩) hgw).trans q0; have s1 := (hb4.cell (p := ⟨w.heap.size, 1, none⟩) hgw).trans q1; have s2 := (hb4.cell (p := ⟨w.heap.size, 2, none⟩) hgw).trans q2; have s3 := (hb4.cell (p := ⟨w.heap.size, 3, none⟩) hgw).trans q3))) | fail "no"
      have hbel4 := hbel3.drew.trans (hb4.mono hbel3.drew.size)
      go_wp2
      go_ret
      exact ⟨rfl, hbel4⟩
end Go.Proofs.Ytgigkiocdiffjaa
