/- veilkeep: step, bound, refusedOrder. -/
import Derived.Test.YtgigkiocdiffjaaKeep1
import Derived.Test.YtgigkiocdiffjaaOpenErr
import Derived.Deep.RegionHeld
namespace Go.Proofs.Ytgigkiocdiffjaa
open Go.RowKit Veil
/-- What the questions about a configuration that is right ask of it. -/
structure Asks (c : Cfg) (v : CfgV) (w : World) : Prop where
  le : ∀ (x y : Nat) (w' : World), x < c.n → y < c.n → Below w.heap.size w w' → Calls Try.prog 10 #[.agg (cfgCells c v), .int .i64 x, .int .i64 y] w' fun e w'' => e = .returned (.tuple #[.bool (c.le x y), .bool true]) ∧ Below w'.heap.size w' w''
theorem asks_of {c : Cfg} {v : CfgV} {w : World} (hok : CfgOk c) (hat : CfgAt w c v) (hcap : c.rules.length ≤ v.rc) (hr : CheckIs c 0) : Asks c v w :=
  ⟨fun x y w' hx hy hb => atMost_any c v x y w' hok (hat.below hb) hcap hr hx hy⟩
theorem stepB_snoc (c : Cfg) (a b : Int) (E : List (Int × Int)) (i : Nat) (e : Int × Int) (h : E[i]? = some e) : stepB c a b (E.take (i + 1)) = (stepB c a b (E.take i) || ((e.1 == a) && c.le e.2 b)) := by
  rw [List.take_add_one, h]; simp [stepB]
theorem stepB_mem (c : Cfg) (a b : Int) (E : List (Int × Int)) (i : Nat) (e : Int × Int) (h : E[i]? = some e) (h1 : ((e.1 == a) && c.le e.2 b) = true) : stepB c a b E = true :=
  List.any_eq_true.2 ⟨e, List.mem_of_getElem? h, h1⟩
set_option maxRecDepth 100000 in
set_option maxHeartbeats 4000000 in
theorem kstep_any (c : Cfg) (v : CfgV) (a b : Nat) (w : World) (hl : labelsB c = true) (hat : CfgAt w c v) (hq : Asks c v w) (ha : a < c.n) (hb : b < c.n) :
    Calls Try.prog 33 #[.agg (cfgCells c v), .int .i64 a, .int .i64 b] w fun e w' => e = .returned (.bool (stepB c a b c.edges)) ∧ Below w.heap.size w w' := by
  obtain ⟨_, _, hE30, hE, hn, hn6, hn1⟩ := labels_of hl
  have hedge := hat.edges
  have HQ := hide hq
  clear hat hl hq
  obtain ⟨eb, eo, hea, hblt, hcells⟩ : ∃ eb eo, (c.edges = [] ∨ v.ea = some ⟨eb, eo, none⟩) ∧ (c.edges = [] ∨ eb < w.heap.size) ∧ ∀ i p, c.edges[i]? = some p → w.cell? ⟨eb, eo + i * 2, none⟩ = some (xE p) ∧ w.cell? ⟨eb, eo + i * 2 + 1, none⟩ = some (yE p) := by
    rcases hedge with h | ⟨b, off, h, h1, h2⟩
    · exact ⟨0, 0, Or.inl h, Or.inl h, fun i p hp => by rw [show c.edges = [] from h] at hp; simp at hp⟩
    · exact ⟨b, off, Or.inr h, Or.inr h1, h2⟩
  clear hedge
  have HE := hide hE
  have HC := hide hcells
  have HA := hide hea
  have HBL := hide hblt
  have HB0 := hide (below_box w (.cells (cfgCells c v) 31))
  have HX0 := hide (box_new w c v)
  clear hcells hblt hea hE
  unfold cfgCells at *
  go_enter Try.func33, Try.ntmps33
  go_wp2
  go_loopw [7] (fun i wr => ∃ k : Nat, k ≤ c.edges.length ∧ i = .int .i64 k ∧ stepB c a b (c.edges.take k) = false ∧ BoxAt wr w.heap.size c v ∧ Below w.heap.size w wr) (fun i _ => c.edges.length - (intOf i).toNat)
  case atStart => exact ⟨0, Nat.zero_le _, rfl, rfl, HX0.out, HB0.out⟩
  case round =>
    clear HB0 HX0
    obtain ⟨wo, rfl⟩ : ∃ x, x = wr := ⟨_, rfl⟩
    obtain ⟨k, hk, rfl, hno, hbox, hbel⟩ := hrel
    obtain ⟨q0, q1, q2, q3⟩ := hbox.cells
    have HNO := hide hno
    have HB := hide hbox
    clear hno hbox
    by_cases hlt : k < c.edges.length
    · have hEne : c.edges ≠ [] := fun e => by rw [e] at hlt; simp at hlt
      have hea : v.ea = some ⟨eb, eo, none⟩ := HA.out.resolve_left hEne
      have hvea := hide hea
      have hbl : eb < w.heap.size := HBL.out.resolve_left hEne
      rw [hea] at q1
      have hej : c.edges[k]? = some c.edges[k] := List.getElem?_eq_getElem hlt
      obtain ⟨c1, c2⟩ := HC.out k _ hej
      have hin := HE.out _ (List.getElem_mem hlt)
      have HS := hide (stepB_snoc c a b c.edges k _ hej)
      have HM := hide (stepB_mem c a b c.edges k _ hej)
      generalize c.edges[k] = e at *
      obtain ⟨e1, e2⟩ := e
      simp only at hin
      obtain ⟨h1, h2, h3, h4⟩ := hin
      obtain ⟨x, rfl⟩ := Int.eq_ofNat_of_zero_le h1
      obtain ⟨y, rfl⟩ := Int.eq_ofNat_of_zero_le h3
      have d1 : wo.cell? ⟨eb, eo + k * 2, none⟩ = some (.int .i64 x) := (hbel.cell (p := ⟨eb, eo + k * 2, none⟩) hbl).trans c1
      have d2 : wo.cell? ⟨eb, eo + k * 2 + 1, none⟩ = some (.int .i64 y) := (hbel.cell (p := ⟨eb, eo + k * 2 + 1, none⟩) hbl).trans c2
      have hy : y < c.n := by omega
      clear hej c1 c2 hea h1 h2 h3 h4 hEne
      by_cases hxa : x = a
      · subst hxa
        rw [HNO.out] at HS
        have hew : eb < wo.heap.size := Nat.lt_of_lt_of_le hbl hbel.size
        have hgw := HB.out.lt
        have hili : (k : Int) < (c.edges.length : Int) := by omega
        have HAT := hide (HQ.out.le y b _ hy hb hbel.drew)
        unfold cfgCells at HAT
        rw [hvea.out] at HAT
        go_wp2_with fail
        first | (go_region_held (fun w' => w'.cell? ⟨w.heap.size, 0, none⟩ = some (.int .i64 c.labels) ∧ w'.cell? ⟨w.heap.size, 1, none⟩ = some (.slice (some ⟨eb, eo, none⟩) c.edges.length v.ec) ∧ w'.cell? ⟨w.heap.size, 2, none⟩ = some (.slice v.ra c.rules.length v.rc) ∧ w'.cell? ⟨w.heap.size, 3, none⟩ = some (.slice v.ga c.grants.length v.gc) ∧ w'.cell? ⟨eb, eo + k * 2 + 1, none⟩ = some (.int .i64 y)) (go_keep) (first | (go_at_call 10; refine (HAT.out).mono ?_; rintro e w2 ⟨rfl, hb2⟩; have s0 := (hb2.cell (p := ⟨w.heap.size, 0, none⟩) hgw).trans q0; have s1 := (hb2.cell (p := ⟨w.heap.size, 1, none⟩) hgw).trans q1; have s2 := (hb2.cell (p := ⟨w.heap.size, 2, none⟩) hgw).trans q2; have s3 := (hb2.cell (p := ⟨w.heap.size, 3, none⟩) hgw).trans q3; have s5 := (hb2.cell (p := ⟨eb, eo + k * 2 + 1, none⟩) hew).trans d2))) | fail "no"
        have HB2 := hide (show BoxAt w2 w.heap.size c v from Below.row hb2 HB.out HB.out.lt)
        have hbel2 := hbel.drew.trans (hb2.mono hbel.drew.size)
        clear hb2 q0 q1 q2 q3 d1 d2
        cases hle : c.le y b
        · have HL := hide hle
          clear hle
          go_wp2
          go_roundw
          case rel => exact ⟨k + 1, by omega, by go_num, by rw [HS.out]; simp [HL.out], HB2.out, hbel2⟩
          case measure => simp [intOf]; omega
        · have HL := hide hle
          clear hle
          go_wp2
          go_ret
          exact ⟨ret_bool (HM.out (by simp [HL.out])).symm, hbel2⟩
      · have hxa' : ((x : Int) == (a : Int)) = false := by simp; omega
        have HX := hide hxa'
        go_wp2
        go_roundw
        case rel => exact ⟨k + 1, by omega, by go_num, by rw [HS.out, HNO.out]; simp [HX.out], HB.out, hbel⟩
        case measure => simp [intOf]; omega
    · have : k = c.edges.length := by omega
      subst this
      go_wp2
      go_ret
      exact ⟨ret_bool (by rw [← HNO.out, List.take_length]), hbel⟩
set_option maxRecDepth 100000 in
set_option maxHeartbeats 8000000 in
theorem boundUp_any (c : Cfg) (v : CfgV) (a b j k : Nat) (w : World) (hq : Asks c v w) (ha : a < c.n) (hb : b < c.n) (hj : j < c.n) (hk : k < c.n) (h1 : c.le a j = true) (h2 : c.le b j = true) (h3 : c.le a k = true → c.le b k = true → c.le j k = true) :
    Calls Try.prog 34 #[.agg (cfgCells c v), .int .i64 a, .int .i64 b, .int .i64 j, .int .i64 k, .bool false] w fun e w' => e = .returned (.bool true) ∧ Below w.heap.size w w' := by
  have HQ := hide hq
  have H1 := hide h1
  have H2 := hide h2
  have H3 := hide h3
  have HX0 := hide (box_new w c v)
  have HB0 := hide (below_box w (.cells (cfgCells c v) 31))
  clear hq h1 h2 h3
  unfold cfgCells at *
  go_enter Try.func34, Try.ntmps34
  go_wp2_with fail
  refine (HQ.out.le a j _ ha hj HB0.out).mono ?_
  rintro e w1 ⟨rfl, hb1⟩
  rw [H1.out]
  have HB1 := hide (HX0.out.below hb1 HX0.out.lt)
  have hbel1 := HB0.out.trans (hb1.mono HB0.out.size)
  obtain ⟨q0, q1, q2, q3⟩ := HB1.out.cells
  clear hb1 HB0
  go_wp2_with fail
  refine (HQ.out.le b j _ hb hj hbel1).mono ?_
  rintro e w2 ⟨rfl, hb2⟩
  rw [H2.out]
  have HB2 := hide (HB1.out.below hb2 HB1.out.lt)
  have hbel2 := hbel1.trans (hb2.mono hbel1.size)
  clear q0 q1 q2 q3
  obtain ⟨q0, q1, q2, q3⟩ := HB2.out.cells
  clear hb2 HB1 hbel1
  go_wp2_with fail
  refine (HQ.out.le a k _ ha hk hbel2).mono ?_
  rintro e w3 ⟨rfl, hb3⟩
  have HB3 := hide (HB2.out.below hb3 HB2.out.lt)
  have hbel3 := hbel2.trans (hb3.mono hbel2.size)
  clear q0 q1 q2 q3
  obtain ⟨q0, q1, q2, q3⟩ := HB3.out.cells
  clear hb3 HB2 hbel2
  go_wp2_with fail
  refine (HQ.out.le b k _ hb hk hbel3).mono ?_
  rintro e w4 ⟨rfl, hb4⟩
  have HB4 := hide (HB3.out.below hb4 HB3.out.lt)
  have hbel4 := hbel3.trans (hb4.mono hbel3.size)
  clear q0 q1 q2 q3
  obtain ⟨q0, q1, q2, q3⟩ := HB4.out.cells
  clear hb4 HB3 hbel3
  go_wp2_with fail
  refine (HQ.out.le j k _ hj hk hbel4).mono ?_
  rintro e w5 ⟨rfl, hb5⟩
  have hbel5 := hbel4.trans (hb5.mono hbel4.size)
  clear q0 q1 q2 q3 hb5 HB4 hbel4
  have HT := hide H3.out
  generalize c.le a k = r at *
  generalize c.le b k = s at *
  generalize c.le j k = t at *
  cases r
  · go_wp2
    go_ret
    exact ⟨rfl, hbel5⟩
  · cases s
    · go_wp2
      go_ret
      exact ⟨rfl, hbel5⟩
    · obtain rfl := HT.out rfl rfl
      go_wp2
      go_ret
      exact ⟨rfl, hbel5⟩
set_option maxRecDepth 100000 in
set_option maxHeartbeats 8000000 in
theorem boundDown_any (c : Cfg) (v : CfgV) (a b j k : Nat) (w : World) (hq : Asks c v w) (ha : a < c.n) (hb : b < c.n) (hj : j < c.n) (hk : k < c.n) (h1 : c.le j a = true) (h2 : c.le j b = true) (h3 : c.le k a = true → c.le k b = true → c.le k j = true) :
    Calls Try.prog 34 #[.agg (cfgCells c v), .int .i64 a, .int .i64 b, .int .i64 j, .int .i64 k, .bool true] w fun e w' => e = .returned (.bool true) ∧ Below w.heap.size w w' := by
  have HQ := hide hq
  have H1 := hide h1
  have H2 := hide h2
  have H3 := hide h3
  have HX0 := hide (box_new w c v)
  have HB0 := hide (below_box w (.cells (cfgCells c v) 31))
  clear hq h1 h2 h3
  unfold cfgCells at *
  go_enter Try.func34, Try.ntmps34
  go_wp2_with fail
  refine (HQ.out.le j a _ hj ha HB0.out).mono ?_
  rintro e w1 ⟨rfl, hb1⟩
  rw [H1.out]
  have HB1 := hide (HX0.out.below hb1 HX0.out.lt)
  have hbel1 := HB0.out.trans (hb1.mono HB0.out.size)
  obtain ⟨q0, q1, q2, q3⟩ := HB1.out.cells
  clear hb1 HB0
  go_wp2_with fail
  refine (HQ.out.le j b _ hj hb hbel1).mono ?_
  rintro e w2 ⟨rfl, hb2⟩
  rw [H2.out]
  have HB2 := hide (HB1.out.below hb2 HB1.out.lt)
  have hbel2 := hbel1.trans (hb2.mono hbel1.size)
  clear q0 q1 q2 q3
  obtain ⟨q0, q1, q2, q3⟩ := HB2.out.cells
  clear hb2 HB1 hbel1
  go_wp2_with fail
  refine (HQ.out.le k a _ hk ha hbel2).mono ?_
  rintro e w3 ⟨rfl, hb3⟩
  have HB3 := hide (HB2.out.below hb3 HB2.out.lt)
  have hbel3 := hbel2.trans (hb3.mono hbel2.size)
  clear q0 q1 q2 q3
  obtain ⟨q0, q1, q2, q3⟩ := HB3.out.cells
  clear hb3 HB2 hbel2
  go_wp2_with fail
  refine (HQ.out.le k b _ hk hb hbel3).mono ?_
  rintro e w4 ⟨rfl, hb4⟩
  have HB4 := hide (HB3.out.below hb4 HB3.out.lt)
  have hbel4 := hbel3.trans (hb4.mono hbel3.size)
  clear q0 q1 q2 q3
  obtain ⟨q0, q1, q2, q3⟩ := HB4.out.cells
  clear hb4 HB3 hbel3
  go_wp2_with fail
  refine (HQ.out.le k j _ hk hj hbel4).mono ?_
  rintro e w5 ⟨rfl, hb5⟩
  have hbel5 := hbel4.trans (hb5.mono hbel4.size)
  clear q0 q1 q2 q3 hb5 HB4 hbel4
  have HT := hide H3.out
  generalize c.le k a = r at *
  generalize c.le k b = s at *
  generalize c.le k j = t at *
  cases r
  · go_wp2
    go_ret
    exact ⟨rfl, hbel5⟩
  · cases s
    · go_wp2
      go_ret
      exact ⟨rfl, hbel5⟩
    · obtain rfl := HT.out rfl rfl
      go_wp2
      go_ret
      exact ⟨rfl, hbel5⟩
set_option maxRecDepth 100000 in
set_option maxHeartbeats 8000000 in
theorem refused_any (c : Cfg) (v : CfgV) (k : Int) (w : World) (hok : CfgOk c) (hat : CfgAt w c v) (hcap : c.rules.length ≤ v.rc) (hk : CheckIs c k) (hne : k ≠ 0) :
    Calls Try.prog 9 #[.agg (cfgCells c v)] w fun e w' => e = .returned (.bool true) ∧ Below w.heap.size w w' := by
  have HC := hide (fun w' (hb : Below w.heap.size w w') => vCheck_any c v w' hok (hat.below hb) hcap)
  have HL := hide (fun w' (hb : Below w.heap.size w w') => vLeq_any c v 0 0 w' hok (hat.below hb) hcap)
  have HJ := hide (fun w' (hb : Below w.heap.size w w') => vJoin_any c v 0 0 w' hok (hat.below hb) hcap)
  have HM := hide (fun w' (hb : Below w.heap.size w w') => vMeet_any c v 0 0 w' hok (hat.below hb) hcap)
  have HO := hide (fun w' (hb : Below w.heap.size w w') => vOpen_bad c v k w' hok (hat.below hb) hcap hk hne)
  have HK := hide hk
  have HN := hide hne
  have HX0 := hide (box_new w c v)
  have HB0 := hide (below_box w (.cells (cfgCells c v) 31))
  have hcode : (k == 0) = false := by simpa using hne
  clear hok hat hcap hk hne
  unfold cfgCells at *
  go_enter Try.func9, Try.ntmps9
  go_wp2_with fail
  refine (HC.out _ HB0.out).mono ?_
  rintro e w1 ⟨code, rfl, hc, hb1⟩
  obtain rfl := hc.same HK.out
  have HB1 := hide (HX0.out.below hb1 HX0.out.lt)
  have hbel1 := HB0.out.trans (hb1.mono HB0.out.size)
  obtain ⟨q0, q1, q2, q3⟩ := HB1.out.cells
  clear hb1 HB0 hc
  go_wp2_with fail
  refine (HL.out _ hbel1).mono ?_
  rintro e w2 ⟨r, code2, rfl, hc, hb2⟩
  obtain ⟨rfl, rfl⟩ := hc.bad HK.out HN.out
  have HB2 := hide (HB1.out.below hb2 HB1.out.lt)
  have hbel2 := hbel1.trans (hb2.mono hbel1.size)
  clear q0 q1 q2 q3
  obtain ⟨q0, q1, q2, q3⟩ := HB2.out.cells
  clear hb2 HB1 hbel1 hc
  go_wp2_with fail
  refine (HJ.out _ hbel2).mono ?_
  rintro e w3 ⟨r, code3, rfl, hc, hb3⟩
  obtain ⟨rfl, rfl⟩ := hc.bad HK.out HN.out
  have HB3 := hide (HB2.out.below hb3 HB2.out.lt)
  have hbel3 := hbel2.trans (hb3.mono hbel2.size)
  clear q0 q1 q2 q3
  obtain ⟨q0, q1, q2, q3⟩ := HB3.out.cells
  clear hb3 HB2 hbel2 hc
  go_wp2_with fail
  refine (HM.out _ hbel3).mono ?_
  rintro e w4 ⟨r, code4, rfl, hc, hb4⟩
  obtain ⟨rfl, rfl⟩ := hc.bad HK.out HN.out
  have HB4 := hide (HB3.out.below hb4 HB3.out.lt)
  have hbel4 := hbel3.trans (hb4.mono hbel3.size)
  clear q0 q1 q2 q3
  obtain ⟨q0, q1, q2, q3⟩ := HB4.out.cells
  clear hb4 HB3 hbel3 hc
  go_wp2_with fail
  refine (HO.out _ hbel4).mono ?_
  rintro e w5 ⟨rfl, hb5⟩
  have hbel5 := hbel4.trans (hb5.mono hbel4.size)
  clear q0 q1 q2 q3 hb5 HB4 hbel4 HC HL HJ HM HO
  go_wp2
  go_ret
  exact ⟨ret_bool (by simpa using HN.out), hbel5⟩
end Go.Proofs.Ytgigkiocdiffjaa
