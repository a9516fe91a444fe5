/- isAbove, isBelowAllAbove, leastAbove, hasJoins, hasCircle. -/
import Derived.Test.YtgigkiocdiffjaaGreatOrder1
namespace Go.Proofs.YtgigkiocdiffjaaGreat
open Go.RowKit Veil
def abvO (n : Nat) (f : Nat → Nat → Bool) (a b x : Int) : Bool := leO n f a x && leO n f b x
def blwO (n : Nat) (f : Nat → Nat → Bool) (a b l : Int) : Bool := (List.range n).all fun k => !(abvO n f a b k && !leO n f l k)
def leastO (n : Nat) (f : Nat → Nat → Bool) (a b : Int) : Int := firstN (fun j => abvO n f a b j && blwO n f a b j) n
def posI (r : Int) : Int := if 0 ≤ r then r else 0
def posB (r : Int) : Bool := decide (0 ≤ r)
theorem ret_pair {a b : Int} {x y : Bool} (h : a = b) (h' : x = y) : Ending.returned (.tuple #[.int .i64 a, .bool x]) = .returned (.tuple #[.int .i64 b, .bool y]) := by rw [h, h']
set_option maxRecDepth 100000 in
set_option maxHeartbeats 1000000 in
theorem isAbove_any (n : Nat) (f : Nat → Nat → Bool) (a b x : Int) (w : World) (hn : n ≤ 6) :
    Calls Tryz.prog 166 #[.agg (ordC n f), .int .i64 a, .int .i64 b, .int .i64 x] w fun e w' => e = .returned (.bool (abvO n f a b x)) ∧ Below w.heap.size w w' := by
  have HD := hide (show abvO n f a b x = (leO n f a x && leO n f b x) from rfl)
  have HO := hide (ord_new w n f)
  have i0 := (ord_new w n f).is
  have a0 := (ord_new w n f).at
  cases h1 : leO n f a x
  · have H1 := hide h1
    clear h1
    go_enter Tryz.func166, Tryz.ntmps166
    go_wp2_with fail
    refine (oleq_any n f a x _ hn).mono ?_
    rintro e w1 ⟨rfl, hb1⟩
    rw [H1.out]
    have hbel1 := (below_box w (.cells (ordC n f) 105)).trans (hb1.mono (by simp))
    clear hb1
    go_wp2
    go_ret
    exact ⟨ret_bool (by rw [HD.out, H1.out]; rfl), hbel1⟩
  · have H1 := hide h1
    clear h1
    go_enter Tryz.func166, Tryz.ntmps166
    go_wp2_with fail
    refine (oleq_any n f a x _ hn).mono ?_
    rintro e w1 ⟨rfl, hb1⟩
    rw [H1.out]
    have hbel1 := (below_box w (.cells (ordC n f) 105)).trans (hb1.mono (by simp))
    have HO1 := hide (HO.out.below hb1 (by simp))
    have i1 := HO1.out.is
    have a1 := HO1.out.at
    clear hb1
    go_wp2_with fail
    refine (oleq_any n f b x _ hn).mono ?_
    rintro e w2 ⟨rfl, hb2⟩
    have hbel2 := hbel1.trans (hb2.mono hbel1.size)
    clear hb2
    go_wp2
    go_ret
    exact ⟨ret_bool (by rw [HD.out, H1.out]; rfl), hbel2⟩
set_option maxRecDepth 100000 in
set_option maxHeartbeats 2000000 in
theorem isBelow_any (n : Nat) (f : Nat → Nat → Bool) (a b l : Int) (w : World) (hn : n ≤ 6) :
    Calls Tryz.prog 167 #[.agg (ordC n f), .int .i64 a, .int .i64 b, .int .i64 l] w fun e w' => e = .returned (.bool (blwO n f a b l)) ∧ Below w.heap.size w w' := by
  have HD := hide (show blwO n f a b l = (List.range n).all fun k => !(abvO n f a b k && !leO n f l k) from rfl)
  go_enter Tryz.func167, Tryz.ntmps167
  go_wp2
  go_loopw [9] (fun i wr => ∃ k : Nat, k ≤ n ∧ i = .int .i64 k ∧ ((List.range k).all fun k => !(abvO n f a b k && !leO n f l k)) = true ∧ OrdAt wr w.heap.size n f ∧ Below w.heap.size w wr) (fun i _ => n - (intOf i).toNat)
  case atStart => exact ⟨0, Nat.zero_le _, rfl, rfl, ord_new _ _ _, below_box _ _⟩
  case round =>
    obtain ⟨wo, rfl⟩ : ∃ x, x = wr := ⟨_, rfl⟩
    obtain ⟨k, hk, rfl, hal, hO, hbel⟩ := hrel
    have HA := hide hal
    have HO := hide hO
    have z0 := hO.zero
    have i0 := hO.is
    have a0 := hO.at
    clear hal hO
    by_cases hlt : k < n
    · have HS := hide (all_range_succ k fun k => !(abvO n f a b k && !leO n f l k))
      cases h1 : abvO n f a b k
      · go_wp2_with fail
        refine (isAbove_any n f a b k _ hn).mono ?_
        rintro e w1 ⟨rfl, hb1⟩
        rw [h1]
        have HO1 := hide (HO.out.below hb1 HO.out.lt)
        have hbel1 := hbel.trans (hb1.mono hbel.size)
        have H1 := hide h1
        clear hb1 z0 i0 a0 h1
        go_wp2
        go_roundw
        case rel => exact ⟨k + 1, by omega, by go_num, by rw [HS.out, HA.out, H1.out]; rfl, HO1.out, hbel1⟩
        case measure => simp [intOf]; omega
      go_wp2_with fail
      refine (isAbove_any n f a b k _ hn).mono ?_
      rintro e w1 ⟨rfl, hb1⟩
      rw [h1]
      have HO1 := hide (HO.out.below hb1 HO.out.lt)
      have hbel1 := hbel.trans (hb1.mono hbel.size)
      have i1 := HO1.out.is
      have a1 := HO1.out.at
      have H1 := hide h1
      clear hb1 z0 i0 a0 h1
      go_wp2_with fail
      refine (oleq_any n f l k _ hn).mono ?_
      rintro e w2 ⟨rfl, hb2⟩
      have HO2 := hide (HO1.out.below hb2 HO1.out.lt)
      have hbel2 := hbel1.trans (hb2.mono hbel1.size)
      clear hb2 i1 a1
      cases h2 : leO n f l k
      · have H2 := hide h2
        clear h2
        go_wp2
        go_ret
        exact ⟨ret_bool (by rw [HD.out, all_false (k := k + 1) (by omega) (by rw [HS.out, H1.out, H2.out]; simp)]), hbel2⟩
      · have H2 := hide h2
        clear h2
        go_wp2
        go_roundw
        case rel => exact ⟨k + 1, by omega, by go_num, by rw [HS.out, HA.out, H2.out]; simp, HO2.out, hbel2⟩
        case measure => simp [intOf]; omega
    · have hke : k = n := by omega
      have HT := hide (show blwO n f a b l = true by rw [HD.out]; have := HA.out; rwa [hke] at this)
      clear hke
      go_wp2
      go_ret
      exact ⟨ret_bool (by rw [HT.out]), hbel⟩
set_option maxRecDepth 100000 in
set_option maxHeartbeats 2000000 in
theorem least_any (n : Nat) (f : Nat → Nat → Bool) (a b : Int) (w : World) (hn : n ≤ 6) :
    Calls Tryz.prog 156 #[.agg (ordC n f), .int .i64 a, .int .i64 b] w fun e w' => e = .returned (.tuple #[.int .i64 (posI (leastO n f a b)), .bool (posB (leastO n f a b))]) ∧ Below w.heap.size w w' := by
  have HY := hide (fun (j : Nat) (hj : j < n) (h : (fun j : Nat => abvO n f a b j && blwO n f a b j) j = true) hno => (firstN_yes (p := fun j : Nat => abvO n f a b j && blwO n f a b j) hj h hno : leastO n f a b = j))
  have HN := hide (fun hno => (firstN_no (p := fun j : Nat => abvO n f a b j && blwO n f a b j) (n := n) hno : leastO n f a b = -1))
  go_enter Tryz.func156, Tryz.ntmps156
  go_wp2
  go_loopw [8] (fun i wr => ∃ k : Nat, k ≤ n ∧ i = .int .i64 k ∧ (∀ x, x < k → (fun j : Nat => abvO n f a b j && blwO n f a b j) x = false) ∧ OrdAt wr w.heap.size n f ∧ Below w.heap.size w wr) (fun i _ => n - (intOf i).toNat)
  case atStart => exact ⟨0, Nat.zero_le _, rfl, fun x hx => absurd hx (Nat.not_lt_zero _), ord_new _ _ _, below_box _ _⟩
  case round =>
    obtain ⟨wo, rfl⟩ : ∃ x, x = wr := ⟨_, rfl⟩
    obtain ⟨k, hk, rfl, hno, hO, hbel⟩ := hrel
    have HNO := hide hno
    have HO := hide hO
    have z0 := hO.zero
    have i0 := hO.is
    have a0 := hO.at
    clear hno hO
    by_cases hlt : k < n
    · cases h1 : abvO n f a b k
      · go_wp2_with fail
        refine (isAbove_any n f a b k _ hn).mono ?_
        rintro e w1 ⟨rfl, hb1⟩
        rw [h1]
        have HO1 := hide (HO.out.below hb1 HO.out.lt)
        have hbel1 := hbel.trans (hb1.mono hbel.size)
        have H1 := hide h1
        clear hb1 z0 i0 a0 h1
        go_wp2
        go_roundw
        case rel =>
          refine ⟨k + 1, by omega, by go_num, fun x hx => ?_, HO1.out, hbel1⟩
          by_cases e : x = k
          · rw [e]; simp [H1.out]
          · exact HNO.out x (by omega)
        case measure => simp [intOf]; omega
      go_wp2_with fail
      refine (isAbove_any n f a b k _ hn).mono ?_
      rintro e w1 ⟨rfl, hb1⟩
      rw [h1]
      have HO1 := hide (HO.out.below hb1 HO.out.lt)
      have hbel1 := hbel.trans (hb1.mono hbel.size)
      have i1 := HO1.out.is
      have a1 := HO1.out.at
      have H1 := hide h1
      clear hb1 z0 i0 a0 h1
      go_wp2_with fail
      refine (isBelow_any n f a b k _ hn).mono ?_
      rintro e w2 ⟨rfl, hb2⟩
      have HO2 := hide (HO1.out.below hb2 HO1.out.lt)
      have hbel2 := hbel1.trans (hb2.mono hbel1.size)
      clear hb2 i1 a1
      cases h2 : blwO n f a b k
      · have H2 := hide h2
        clear h2
        go_wp2
        go_roundw
        case rel =>
          refine ⟨k + 1, by omega, by go_num, fun x hx => ?_, HO2.out, hbel2⟩
          by_cases e : x = k
          · rw [e]; simp [H2.out]
          · exact HNO.out x (by omega)
        case measure => simp [intOf]; omega
      · have HT := hide (HY.out k hlt (by simp [H1.out, h2]) HNO.out)
        clear h2
        go_wp2
        go_ret2
        exact ⟨ret_pair (by rw [show leastO n f a b = k from HT.out, posI, if_pos (by omega)]) (by rw [show leastO n f a b = k from HT.out, posB, decide_eq_true (by omega)]), hbel2⟩
    · have HT := hide (HN.out fun i hi => HNO.out i (by omega))
      go_wp2
      go_ret2
      exact ⟨ret_pair (by rw [show leastO n f a b = -1 from HT.out]; rfl) (by rw [show leastO n f a b = -1 from HT.out]; rfl), hbel⟩
/-- It answers whether p. -/
def RetB (e : Ending) (p : Prop) : Prop := ∃ r : Bool, e = .returned (.bool r) ∧ (r = true ↔ p)
theorem RetB.yes {p : Prop} (h : p) : RetB (.returned (.bool true)) p := ⟨true, rfl, fun _ => h, fun _ => rfl⟩
theorem RetB.no {p : Prop} (h : ¬ p) : RetB (.returned (.bool false)) p := ⟨false, rfl, fun h' => by simp at h', fun h' => absurd h' h⟩
/-- Each two have a join, by a table. -/
def joinsO (n : Nat) (f : Nat → Nat → Bool) : Prop := ∀ a b : Nat, a < n → b < a → 0 ≤ leastO n f a b
set_option maxRecDepth 100000 in
set_option maxHeartbeats 2000000 in
theorem hasJoins_any (n : Nat) (f : Nat → Nat → Bool) (w : World) (hn : n ≤ 6) :
    Calls Tryz.prog 165 #[.agg (ordC n f)] w fun e w' => RetB e (joinsO n f) ∧ Below w.heap.size w w' := by
  go_enter Tryz.func165, Tryz.ntmps165
  go_wp2
  go_loopw [3] (fun i wr => ∃ a : Nat, a ≤ n ∧ i = .int .i64 a ∧ (∀ x y : Nat, x < a → y < x → 0 ≤ leastO n f x y) ∧ OrdAt wr w.heap.size n f ∧ Below w.heap.size w wr) (fun i _ => n - (intOf i).toNat)
  case atStart => exact ⟨0, Nat.zero_le _, rfl, fun x y hx => absurd hx (Nat.not_lt_zero _), ord_new _ _ _, below_box _ _⟩
  case round =>
    obtain ⟨wo, rfl⟩ : ∃ x, x = wr := ⟨_, rfl⟩
    obtain ⟨a, ha, rfl, hno, hO, hbel⟩ := hrel
    have HNO := hide hno
    have HO := hide hO
    have z0 := hO.zero
    clear hno hO
    by_cases hlt : a < n
    · go_wp2
      go_loopw [4] (fun i wr => ∃ b : Nat, b ≤ a ∧ i = .int .i64 b ∧ (∀ y : Nat, y < b → 0 ≤ leastO n f a y) ∧ OrdAt wr w.heap.size n f ∧ Below w.heap.size w wr) (fun i _ => a - (intOf i).toNat)
      case atStart => exact ⟨0, Nat.zero_le _, rfl, fun y hy => absurd hy (Nat.not_lt_zero _), HO.out, hbel⟩
      case round =>
        clear z0
        obtain ⟨wi, rfl⟩ : ∃ x, x = wr := ⟨_, rfl⟩
        obtain ⟨b, hb, rfl, hnb, hO, hbel2⟩ := hrel
        have HNB := hide hnb
        have HO2 := hide hO
        have i0 := hO.is
        have a0 := hO.at
        clear hnb hO
        by_cases hbl : b < a
        · go_wp2_with fail
          refine (least_any n f a b _ hn).mono ?_
          rintro e w2 ⟨rfl, hb2⟩
          have HO3 := hide (HO2.out.below hb2 HO2.out.lt)
          have hbel3 := hbel2.trans (hb2.mono hbel2.size)
          clear hb2 i0 a0
          by_cases hj : 0 ≤ leastO n f a b
          · have hd : posB (leastO n f a b) = true := decide_eq_true hj
            go_wp2
            go_roundw
            case rel =>
              refine ⟨b + 1, by omega, by go_num, fun y hy => ?_, HO3.out, hbel3⟩
              by_cases e : y = b
              · rw [e]; exact hj
              · exact HNB.out y (by omega)
            case measure => simp [intOf]; omega
          · have hd : posB (leastO n f a b) = false := decide_eq_false hj
            have HF : Hid (¬ joinsO n f) := fun h => hj (h a b hlt hbl)
            clear hj
            go_wp2
            go_ret
            exact ⟨RetB.no HF.out, hbel3⟩
        · have hbe : b = a := by omega
          have HNB2 : Hid (∀ y : Nat, y < a → 0 ≤ leastO n f a y) := fun y hy => HNB.out y (by omega)
          clear hbe
          go_wp2
          go_roundw
          case rel =>
            refine ⟨a + 1, by omega, by go_num, fun x y hx hy => ?_, HO2.out, hbel2⟩
            by_cases e : x = a
            · rw [e]; rw [e] at hy; exact HNB2.out y hy
            · exact HNO.out x y (by omega) hy
          case measure => simp [intOf]; omega
    · have HT : Hid (joinsO n f) := fun x y hx hy => HNO.out x y (by omega) hy
      go_wp2
      go_ret
      exact ⟨RetB.yes HT.out, hbel⟩
/-- Two are at most one another, by a table. -/
def circleO (n : Nat) (f : Nat → Nat → Bool) : Prop := ∃ a b : Nat, a < n ∧ b < a ∧ f a b = true ∧ f b a = true
set_option maxRecDepth 100000 in
set_option maxHeartbeats 2000000 in
theorem hasCircle_any (n : Nat) (f : Nat → Nat → Bool) (w : World) (hn : n ≤ 6) :
    Calls Tryz.prog 145 #[.agg (ordC n f)] w fun e w' => RetB e (circleO n f) ∧ Below w.heap.size w w' := by
  have z0 := (ord_new w n f).zero
  have HO := hide (ord_new w n f)
  go_enter Tryz.func145, Tryz.ntmps145
  go_wp2
  go_loop [3] (fun i => ∃ a : Nat, a ≤ n ∧ i = .int .i64 a ∧ (∀ x y : Nat, x < a → y < x → (f x y && f y x) = false)) (fun i => n - (intOf i).toNat)
  case atStart => exact ⟨0, Nat.zero_le _, rfl, fun x y hx => absurd hx (Nat.not_lt_zero _)⟩
  case round =>
    obtain ⟨a, ha, rfl, hno⟩ := hrel
    have HNO := hide hno
    clear hno
    by_cases hlt : a < n
    · go_wp2
      go_loop [4] (fun i => ∃ b : Nat, b ≤ a ∧ i = .int .i64 b ∧ (∀ y : Nat, y < b → (f a y && f y a) = false)) (fun i => a - (intOf i).toNat)
      case atStart => exact ⟨0, Nat.zero_le _, rfl, fun y hy => absurd hy (Nat.not_lt_zero _)⟩
      case round =>
        obtain ⟨b, hb, rfl, hnb⟩ := hrel
        have HNB := hide hnb
        clear hnb
        by_cases hbl : b < a
        · have c1 := HO.out.cell a b (by omega) (by omega)
          have c2 := HO.out.cell b a (by omega) (by omega)
          cases h1 : f a b
          · rw [h1] at c1
            have H1 := hide h1
            clear h1
            go_wp2
            go_round
            case rel => exact ⟨b + 1, by omega, by go_num, fun y hy => by
              by_cases e : y = b
              · rw [e, H1.out]; rfl
              · exact HNB.out y (by omega)⟩
            case measure => simp [intOf]; omega
          · rw [h1] at c1
            cases h2 : f b a
            · rw [h2] at c2
              have H2 := hide h2
              clear h1 h2
              go_wp2
              go_round
              case rel => exact ⟨b + 1, by omega, by go_num, fun y hy => by
                by_cases e : y = b
                · rw [e, H2.out]; simp
                · exact HNB.out y (by omega)⟩
              case measure => simp [intOf]; omega
            · rw [h2] at c2
              have HC : Hid (circleO n f) := ⟨a, b, hlt, hbl, h1, h2⟩
              clear h1 h2
              go_wp2
              go_ret
              exact ⟨RetB.yes HC.out, below_box _ _⟩
        · have hbe : b = a := by omega
          have HNB2 : Hid (∀ y : Nat, y < a → (f a y && f y a) = false) := fun y hy => HNB.out y (by omega)
          clear hbe
          go_wp2
          go_round
          case rel =>
            refine ⟨a + 1, by omega, by go_num, fun x y hx hy => ?_⟩
            by_cases e : x = a
            · rw [e]; rw [e] at hy; exact HNB2.out y hy
            · exact HNO.out x y (by omega) hy
          case measure => simp [intOf]; omega
    · have HT : Hid (¬ circleO n f) := by
        rintro ⟨x, y, hx, hy, h1, h2⟩
        have := HNO.out x y (by omega) hy
        rw [h1, h2] at this
        simp at this
      go_wp2
      go_ret
      exact ⟨RetB.no HT.out, below_box _ _⟩
end Go.Proofs.YtgigkiocdiffjaaGreat
