/- veilref.Check. -/
import Derived.Test.YtgigkiocdiffjaaGreatRrules
namespace Go.Proofs.YtgigkiocdiffjaaGreat
open Go.RowKit Veil
theorem firstN_ge (p : Nat → Bool) (n : Nat) : -1 ≤ firstN p n ∧ firstN p n < n + 1 := by
  rcases firstN_cases p n with ⟨j, hj, _, _, h⟩ | ⟨_, h⟩ <;> rw [h] <;> omega
set_option maxRecDepth 100000 in
set_option maxHeartbeats 16000000 in
theorem rCheck_any (c : Cfg) (v : CfgV) (w : World) (hok : CfgOk c) (hat : CfgAt w c v) :
    Calls Tryz.prog 52 #[.agg (cfgCells c v)] w fun e w' => ∃ code, e = .returned (.int .i64 code) ∧ CheckIs c code ∧ Below w.heap.size w w' := by
  have HR0 := hide (fun w' (hb : Below w.heap.size w w') => rlabels_any c v w' hok (hat.below hb))
  have HR1 := hide (fun w' (hb : Below w.heap.size w w') => rrules_any c v w' hok (hat.below hb))
  cases hl : labelsB c
  · have HL := hide hl
    have HB1 := hide (below_box w (.cells (cfgCells c v) 31))
    clear hl hat hok
    unfold cfgCells at *
    go_enter Tryz.func52, Tryz.ntmps52
    go_wp2_with fail
    refine (HR0.out _ HB1.out).mono ?_
    rintro e w1 ⟨rfl, hb1⟩
    rw [HL.out]
    have hbel1 := HB1.out.trans (hb1.mono (by simp))
    clear hb1
    go_wp2
    go_ret
    exact ⟨1, rfl, ⟨fun _ => rfl, fun h => absurd h (by rw [HL.out]; simp), fun h => absurd h (by rw [HL.out]; simp), fun h => absurd h (by rw [HL.out]; simp), fun h => absurd h (by rw [HL.out]; simp), fun h => absurd h (by rw [HL.out]; simp)⟩, hbel1⟩
  obtain ⟨_, _, _, _, hn, hn6, hn1⟩ := labels_of hl
  have hle1 : (c.n : Int) ≤ c.labels := by omega
  have hle2 : c.labels ≤ (c.n : Int) := by omega
  have HR2 := hide (fun w' (hb : Below w.heap.size w w') => rgrants_any c v w' hl hok (hat.below hb))
  have HQ := hide (fun (x y : Nat) (w' : World) (hx : x < c.n) (hy : y < c.n) (hb : Below w.heap.size w w') => rleq_any c v x y w' hl (hat.below hb) hx hy)
  have HJ := hide (fun (x y : Nat) (w' : World) (hx : x < c.n) (hy : y < c.n) (hb : Below w.heap.size w w') => rjoin_any c v x y w' hl (hat.below hb) hx hy)
  have HM := hide (fun (x y : Nat) (w' : World) (hx : x < c.n) (hy : y < c.n) (hb : Below w.heap.size w w') => rmeet_any c v x y w' hl (hat.below hb) hx hy)
  have HL := hide hl
  have HB1 := hide (below_box w (.cells (cfgCells c v) 31))
  have HX1 := hide (box_new w c v)
  clear hl hat hok hn
  unfold cfgCells at *
  go_enter Tryz.func52, Tryz.ntmps52
  go_wp2_with fail
  refine (HR0.out _ HB1.out).mono ?_
  rintro e w1 ⟨rfl, hb1⟩
  rw [HL.out]
  have hbel1 := HB1.out.trans (hb1.mono (by simp))
  have HX2 := hide (HX1.out.below hb1 (by simp))
  clear hb1
  go_wp2
  go_loopw [4] (fun i wr => ∃ a : Nat, a ≤ c.n ∧ i = .int .i64 a ∧ (∀ x y : Nat, x < a → y < c.n → x ≠ y → (c.le x y && c.le y x) = false) ∧ BoxAt wr w.heap.size c v ∧ Below w.heap.size w wr) (fun i _ => c.n - (intOf i).toNat)
  case atStart => exact ⟨0, Nat.zero_le _, rfl, fun x y hx => absurd hx (Nat.not_lt_zero _), HX2.out, hbel1⟩
  case round =>
    obtain ⟨wo, rfl⟩ : ∃ x, x = wr := ⟨_, rfl⟩
    obtain ⟨a, ha, rfl, hno, hbox, hbel⟩ := hrel
    have HNO := hide hno
    have HB := hide hbox
    obtain ⟨q0, q1, q2, q3⟩ := hbox.cells
    clear hno hbox
    by_cases hlt : a < c.n
    · have hlt' : (a : Int) < c.labels := by omega
      go_wp2
      go_loopw [5] (fun i wr => ∃ b : Nat, b ≤ c.n ∧ i = .int .i64 b ∧ (∀ y : Nat, y < b → a ≠ y → (c.le a y && c.le y a) = false) ∧ BoxAt wr w.heap.size c v ∧ Below w.heap.size w wr) (fun i _ => c.n - (intOf i).toNat)
      case atStart => exact ⟨0, Nat.zero_le _, rfl, fun y hy => absurd hy (Nat.not_lt_zero _), HB.out, hbel⟩
      case round =>
        obtain ⟨wi, rfl⟩ : ∃ x, x = wr := ⟨_, rfl⟩
        obtain ⟨b, hb, rfl, hnb, hbox, hbel2⟩ := hrel
        have HNB := hide hnb
        have HB2 := hide hbox
        clear q0 q1 q2 q3
        obtain ⟨q0, q1, q2, q3⟩ := hbox.cells
        clear hnb hbox
        by_cases hbl : b < c.n
        · have hbl' : (b : Int) < c.labels := by omega
          by_cases hab : a = b
          · have hne : ((a : Int) != (b : Int)) = false := by simp [hab]
            have AB := hide hab
            clear hab
            go_wp2
            go_roundw
            case rel => exact ⟨b + 1, by omega, by go_num, fun y hy hy2 => by
              by_cases e : y = b
              · exact absurd (AB.out.trans e.symm) hy2
              · exact HNB.out y (by omega) hy2, HB2.out, hbel2⟩
            case measure => simp [intOf]; omega
          · have hne : ((a : Int) != (b : Int)) = true := by simp; omega
            have AB := hide hab
            clear hab
            cases h1 : c.le a b
            · go_wp2_with fail
              refine (HQ.out a b _ hlt hbl hbel2).mono ?_
              rintro e w2 ⟨rfl, hb2⟩
              rw [h1]
              have HB3 := hide (HB2.out.below hb2 HB2.out.lt)
              have hbel3 := hbel2.trans (hb2.mono hbel2.size)
              have H1 := hide h1
              clear q0 q1 q2 q3 hb2 h1
              go_wp2
              go_roundw
              case rel => exact ⟨b + 1, by omega, by go_num, fun y hy hy2 => by
                by_cases e : y = b
                · rw [e, H1.out]; rfl
                · exact HNB.out y (by omega) hy2, HB3.out, hbel3⟩
              case measure => simp [intOf]; omega
            go_wp2_with fail
            refine (HQ.out a b _ hlt hbl hbel2).mono ?_
            rintro e w2 ⟨rfl, hb2⟩
            rw [h1]
            have HB3 := hide (HB2.out.below hb2 HB2.out.lt)
            obtain ⟨p0, p1, p2, p3⟩ := HB3.out.cells
            have hbel3 := hbel2.trans (hb2.mono hbel2.size)
            have H1 := hide h1
            clear q0 q1 q2 q3 hb2 h1
            go_wp2_with fail
            refine (HQ.out b a _ hbl hlt hbel3).mono ?_
            rintro e w3 ⟨rfl, hb3⟩
            have HB4 := hide (HB3.out.below hb3 HB3.out.lt)
            have hbel4 := hbel3.trans (hb3.mono hbel3.size)
            clear p0 p1 p2 p3 hb3
            cases h2 : c.le b a
            · have H2 := hide h2
              clear h2
              go_wp2
              go_roundw
              case rel => exact ⟨b + 1, by omega, by go_num, fun y hy hy2 => by
                by_cases e : y = b
                · rw [e, H2.out]; simp
                · exact HNB.out y (by omega) hy2, HB4.out, hbel4⟩
              case measure => simp [intOf]; omega
            · have H2 := hide h2
              clear h2
              have HC : Hid c.circle := ⟨a, b, hlt, hbl, AB.out, H1.out, H2.out⟩
              go_wp2
              go_ret
              exact ⟨2, rfl, ⟨fun h => absurd h (by rw [HL.out]; simp), fun _ _ => rfl, fun _ h => absurd HC.out h, fun _ h => absurd HC.out h, fun _ h => absurd HC.out h, fun _ h => absurd HC.out h⟩, hbel4⟩
        · have hge : c.labels ≤ (b : Int) := by omega
          have hbe : b = c.n := by omega
          have HNB2 := hide (show ∀ y : Nat, y < c.n → a ≠ y → (c.le a y && c.le y a) = false by rw [← hbe]; exact HNB.out)
          clear hbe
          go_wp2
          go_roundw
          case rel => exact ⟨a + 1, by omega, by go_num, fun x y hx hy hxy => by
            by_cases e : x = a
            · rw [e]; exact HNB2.out y hy (by omega)
            · exact HNO.out x y (by omega) hy hxy, HB2.out, hbel2⟩
          case measure => simp [intOf]; omega
    · have hge : c.labels ≤ (a : Int) := by omega
      have hae : a = c.n := by omega
      have HNC : Hid (¬ c.circle) := by
        rintro ⟨x, y, hx, hy, hxy, h1, h2⟩
        have := HNO.out x y (by omega) hy hxy
        rw [h1, h2] at this
        simp at this
      clear hae
      go_wp2
      go_loopw [6] (fun i wr => ∃ a : Nat, a ≤ c.n ∧ i = .int .i64 a ∧ (∀ x y : Nat, x < a → y < c.n → 0 ≤ c.join x y ∧ 0 ≤ c.meet x y) ∧ BoxAt wr w.heap.size c v ∧ Below w.heap.size w wr) (fun i _ => c.n - (intOf i).toNat)
      case atStart => exact ⟨0, Nat.zero_le _, rfl, fun x y hx => absurd hx (Nat.not_lt_zero _), HB.out, hbel⟩
      case round =>
        clear q0 q1 q2 q3 HB hbel hge hlt
        obtain ⟨wo, rfl⟩ : ∃ x, x = wr := ⟨_, rfl⟩
        obtain ⟨a, ha, rfl, hno, hbox, hbel⟩ := hrel
        have HNO2 := hide hno
        have HB := hide hbox
        obtain ⟨q0, q1, q2, q3⟩ := hbox.cells
        clear hno hbox
        by_cases hlt : a < c.n
        · have hlt' : (a : Int) < c.labels := by omega
          go_wp2
          go_loopw [7] (fun i wr => ∃ b : Nat, b ≤ c.n ∧ i = .int .i64 b ∧ (∀ y : Nat, y < b → 0 ≤ c.join a y ∧ 0 ≤ c.meet a y) ∧ BoxAt wr w.heap.size c v ∧ Below w.heap.size w wr) (fun i _ => c.n - (intOf i).toNat)
          case atStart => exact ⟨0, Nat.zero_le _, rfl, fun y hy => absurd hy (Nat.not_lt_zero _), HB.out, hbel⟩
          case round =>
            obtain ⟨wi, rfl⟩ : ∃ x, x = wr := ⟨_, rfl⟩
            obtain ⟨b, hb, rfl, hnb, hbox, hbel2⟩ := hrel
            have HNB := hide hnb
            have HB2 := hide hbox
            clear q0 q1 q2 q3
            obtain ⟨q0, q1, q2, q3⟩ := hbox.cells
            clear hnb hbox
            by_cases hbl : b < c.n
            · have hbl' : (b : Int) < c.labels := by omega
              go_wp2_with fail
              refine (HJ.out a b _ hlt hbl hbel2).mono ?_
              rintro e w2 ⟨rfl, hb2⟩
              have HB3 := hide (HB2.out.below hb2 HB2.out.lt)
              obtain ⟨p0, p1, p2, p3⟩ := HB3.out.cells
              have hbel3 := hbel2.trans (hb2.mono hbel2.size)
              clear q0 q1 q2 q3 hb2
              by_cases hj : c.join a b < 0
              · have HN2 : Hid c.noLat := ⟨a, b, hlt, hbl, Or.inl hj⟩
                go_wp2
                go_ret
                exact ⟨3, rfl, ⟨fun h => absurd h (by rw [HL.out]; simp), fun _ h => absurd h HNC.out, fun _ _ _ => rfl, fun _ _ h => absurd HN2.out h, fun _ _ h => absurd HN2.out h, fun _ _ h => absurd HN2.out h⟩, hbel3⟩
              have hj' : 0 ≤ c.join a b := by omega
              go_wp2_with fail
              refine (HM.out a b _ hlt hbl hbel3).mono ?_
              rintro e w3 ⟨rfl, hb3⟩
              have HB4 := hide (HB3.out.below hb3 HB3.out.lt)
              have hbel4 := hbel3.trans (hb3.mono hbel3.size)
              clear p0 p1 p2 p3 hb3
              by_cases hm : c.meet a b < 0
              · have HN2 : Hid c.noLat := ⟨a, b, hlt, hbl, Or.inr hm⟩
                go_wp2
                go_ret
                exact ⟨3, rfl, ⟨fun h => absurd h (by rw [HL.out]; simp), fun _ h => absurd h HNC.out, fun _ _ _ => rfl, fun _ _ h => absurd HN2.out h, fun _ _ h => absurd HN2.out h, fun _ _ h => absurd HN2.out h⟩, hbel4⟩
              have hm' : 0 ≤ c.meet a b := by omega
              go_wp2
              go_roundw
              case rel => exact ⟨b + 1, by omega, by go_num, fun y hy => by
                by_cases e : y = b
                · rw [e]; exact ⟨hj', hm'⟩
                · exact HNB.out y (by omega), HB4.out, hbel4⟩
              case measure => simp [intOf]; omega
            · have hge : c.labels ≤ (b : Int) := by omega
              have hbe : b = c.n := by omega
              have HNB2 := hide (show ∀ y : Nat, y < c.n → 0 ≤ c.join a y ∧ 0 ≤ c.meet a y by rw [← hbe]; exact HNB.out)
              clear hbe
              go_wp2
              go_roundw
              case rel => exact ⟨a + 1, by omega, by go_num, fun x y hx hy => by
                by_cases e : x = a
                · rw [e]; exact HNB2.out y hy
                · exact HNO2.out x y (by omega) hy, HB2.out, hbel2⟩
              case measure => simp [intOf]; omega
        · have hge : c.labels ≤ (a : Int) := by omega
          have hae : a = c.n := by omega
          have HNL : Hid (¬ c.noLat) := by
            rintro ⟨x, y, hx, hy, h⟩
            have := HNO2.out x y (by omega) hy
            omega
          clear hae
          go_wp2_with fail
          refine (HR1.out _ hbel).mono ?_
          rintro e w2 ⟨rfl, hb2⟩
          have HB3 := hide (HB.out.below hb2 HB.out.lt)
          obtain ⟨p0, p1, p2, p3⟩ := HB3.out.cells
          have hbel3 := hbel.trans (hb2.mono hbel.size)
          clear q0 q1 q2 q3 hb2
          cases h4 : rulesB c
          · have H4 := hide h4
            clear h4
            go_wp2
            go_ret
            exact ⟨4, rfl, ⟨fun h => absurd h (by rw [HL.out]; simp), fun _ h => absurd h HNC.out, fun _ _ h => absurd h HNL.out, fun _ _ _ _ => rfl, fun _ _ _ h => absurd h (by rw [H4.out]; simp), fun _ _ _ h => absurd h (by rw [H4.out]; simp)⟩, hbel3⟩
          have H4 := hide h4
          clear h4
          go_wp2_with fail
          refine (HR2.out _ hbel3).mono ?_
          rintro e w3 ⟨rfl, hb3⟩
          have hbel4 := hbel3.trans (hb3.mono hbel3.size)
          clear p0 p1 p2 p3 hb3
          cases h5 : grantsB c
          · have H5 := hide h5
            clear h5
            go_wp2
            go_ret
            exact ⟨5, rfl, ⟨fun h => absurd h (by rw [HL.out]; simp), fun _ h => absurd h HNC.out, fun _ _ h => absurd h HNL.out, fun _ _ _ h => absurd h (by rw [H4.out]; simp), fun _ _ _ _ _ => rfl, fun _ _ _ _ h => absurd h (by rw [H5.out]; simp)⟩, hbel4⟩
          · have H5 := hide h5
            clear h5
            go_wp2
            go_ret
            exact ⟨0, rfl, ⟨fun h => absurd h (by rw [HL.out]; simp), fun _ h => absurd h HNC.out, fun _ _ h => absurd h HNL.out, fun _ _ _ h => absurd h (by rw [H4.out]; simp), fun _ _ _ _ h => absurd h (by rw [H5.out]; simp), fun _ _ _ _ _ => rfl⟩, hbel4⟩
end Go.Proofs.YtgigkiocdiffjaaGreat
