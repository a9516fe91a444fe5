/- whole: are lists that were lent as they were? -/
import Derived.Test.YtgigkiocdiffjaaGreatLent
import Derived.Deep.QuietTactic
import Derived.BigQuiet
import Derived.WalkLawsBesides
namespace Go.Proofs.YtgigkiocdiffjaaGreat
open Go.RowKit Veil
theorem app_get {α : Type} (l : List α) (z : α) (k : Nat) (h : k < l.length + 8) : ∃ a, (l ++ pad 8 z)[k]? = some a ∧ (k < l.length → l[k]? = some a) ∧ (l.length ≤ k → a = z) := by
  by_cases hk : k < l.length
  · exact ⟨l[k], by rw [List.getElem?_append_left hk]; exact List.getElem?_eq_getElem hk, fun _ => List.getElem?_eq_getElem hk, fun h => absurd hk (by omega)⟩
  · refine ⟨z, ?_, fun h => absurd h hk, fun _ => rfl⟩
    rw [List.getElem?_append_right (by omega)]
    unfold pad
    rw [List.getElem?_replicate, if_pos (by omega)]

set_option maxHeartbeats 400000 in
theorem wholeE_nil (o : Value) (n c : Nat) (w : World) :
    Calls Tryz.prog 125 #[o, .slice none n c] w fun e w' => e = .returned (.bool true) ∧ w = w' := by
  have nn : ∀ (w : World) a n c, (Go.binOp .eql 27 (.slice a n c) (.slice none 0 0)).run Tryz.prog w = .ok (.bool a.isNone) w := fun w a n c => Go.Lib.run_eql_slice_nil w 27 169 a n c 0 0 Tryz.underlying27
  go_enter Tryz.func125, Tryz.ntmps125
  go_wp2
  go_ret
  exact ⟨rfl, rfl⟩
set_option maxRecDepth 100000 in
set_option maxHeartbeats 4000000 in
theorem wholeE_some (l : List (Int × Int)) (g : Nat) (a : Addr) (c : Nat) (w : World) (hl : l.length ≤ 8796093022208) (hg : RowAt xE yE w g 169 (l ++ pad 8 (77, 77))) (hs : SeqAt xE yE w (some a) l) :
    Calls Tryz.prog 125 #[.slice (some ⟨g, 0, none⟩) l.length (l.length + 8), .slice (some a) l.length c] w fun e w' => e = .returned (.bool true) ∧ Below w.heap.size w w' := by
  have nn : ∀ (w : World) a n c, (Go.binOp .eql 27 (.slice a n c) (.slice none 0 0)).run Tryz.prog w = .ok (.bool a.isNone) w := fun w a n c => Go.Lib.run_eql_slice_nil w 27 169 a n c 0 0 Tryz.underlying27
  have HG := hide hg
  clear hg
  obtain ⟨b, off, ha, hblt, hcells⟩ : ∃ b off, (l = [] ∨ a = ⟨b, off, none⟩) ∧ (l = [] ∨ b < w.heap.size) ∧ ∀ i p, l[i]? = some p → w.cell? ⟨b, off + i * 2, none⟩ = some (xE p) ∧ w.cell? ⟨b, off + i * 2 + 1, none⟩ = some (yE p) := by
    rcases hs with rfl | ⟨b, off, h, h1, h2⟩
    · exact ⟨0, 0, Or.inl rfl, Or.inl rfl, fun i p h => by simp at h⟩
    · exact ⟨b, off, Or.inr (Option.some.inj h), Or.inr h1, h2⟩
  clear hs
  have HC := hide hcells
  clear hcells
  rcases ha with rfl | rfl
  · go_enter Tryz.func125, Tryz.ntmps125
    go_wp2
    go_loopw [7] (fun i wr => ∃ k : Nat, k ≤ 8 ∧ i = .int .i64 k ∧ Below w.heap.size w wr) (fun i _ => 8 - (intOf i).toNat)
    case atStart => exact ⟨0, Nat.zero_le _, rfl, Below.refl _ _⟩
    case round =>
      obtain ⟨k, hk, rfl, hbel⟩ := hrel
      by_cases hlt : k < 8
      · obtain ⟨p, hp1, hp2, hp3⟩ := app_get ([] : List (Int × Int)) (77, 77) k (by simpa using hlt)
        obtain rfl := hp3 (by simp)
        obtain ⟨g1, g2⟩ := (HG.out.below hbel HG.out.lt).cell hp1
        have hgl : g < wr.heap.size := Nat.lt_of_lt_of_le HG.out.lt hbel.size
        simp only [xE, yE] at g1 g2
        clear hp1 hp2 hp3
        go_wp2_with fail
        go_quiet (fail)
        go_wp2
        go_roundw
        case rel => exact ⟨k + 1, by omega, by go_num, Below.drawn (hbel.alloc hbel.size _) _⟩
        case measure => simp [intOf]; omega
      · go_wp2
        go_ret
        exact ⟨rfl, hbel⟩
  · go_enter Tryz.func125, Tryz.ntmps125
    go_wp2
    go_loopw [7] (fun i wr => ∃ k : Nat, k ≤ l.length + 8 ∧ i = .int .i64 k ∧ Below w.heap.size w wr) (fun i _ => l.length + 8 - (intOf i).toNat)
    case atStart => exact ⟨0, Nat.zero_le _, rfl, Below.refl _ _⟩
    case round =>
      obtain ⟨k, hk, rfl, hbel⟩ := hrel
      by_cases hlt : k < l.length + 8
      · obtain ⟨p, hp1, hp2, hp3⟩ := app_get l (77, 77) k hlt
        obtain ⟨g1, g2⟩ := (HG.out.below hbel HG.out.lt).cell hp1
        have hgl : g < wr.heap.size := Nat.lt_of_lt_of_le HG.out.lt hbel.size
        by_cases hkl : k < l.length
        · have hbl : b < w.heap.size := hblt.resolve_left (fun e => by rw [e] at hkl; simp at hkl)
          obtain ⟨c1, c2⟩ := HC.out k _ (hp2 hkl)
          have d1 : wr.cell? ⟨b, off + k * 2, none⟩ = some (xE p) := (hbel.cell (p := ⟨b, off + k * 2, none⟩) hbl).trans c1
          have d2 : wr.cell? ⟨b, off + k * 2 + 1, none⟩ = some (yE p) := (hbel.cell (p := ⟨b, off + k * 2 + 1, none⟩) hbl).trans c2
          have hbl2 : b < wr.heap.size := Nat.lt_of_lt_of_le hbl hbel.size
          obtain ⟨p1, p2⟩ := p
          simp only [xE, yE] at d1 d2 g1 g2
          clear c1 c2 hp1 hp2 hp3 hblt
          go_wp2_with fail
          go_quiet (fail)
          go_wp2
          go_roundw
          case rel => exact ⟨k + 1, by omega, by go_num, Below.drawn (hbel.alloc hbel.size _) _⟩
          case measure => simp [intOf]; omega
        · obtain rfl := hp3 (by omega)
          simp only [xE, yE] at g1 g2
          clear hp1 hp2 hp3 hblt
          go_wp2_with fail
          go_quiet (fail)
          go_wp2
          go_roundw
          case rel => exact ⟨k + 1, by omega, by go_num, Below.drawn (hbel.alloc hbel.size _) _⟩
          case measure => simp [intOf]; omega
      · go_wp2
        go_ret
        exact ⟨rfl, hbel⟩

set_option maxHeartbeats 400000 in
theorem wholeR_nil (o : Value) (n c : Nat) (w : World) :
    Calls Tryz.prog 126 #[o, .slice none n c] w fun e w' => e = .returned (.bool true) ∧ w = w' := by
  have nn : ∀ (w : World) a n c, (Go.binOp .eql 28 (.slice a n c) (.slice none 0 0)).run Tryz.prog w = .ok (.bool a.isNone) w := fun w a n c => Go.Lib.run_eql_slice_nil w 28 163 a n c 0 0 Tryz.underlying28
  go_enter Tryz.func126, Tryz.ntmps126
  go_wp2
  go_ret
  exact ⟨rfl, rfl⟩
set_option maxRecDepth 100000 in
set_option maxHeartbeats 4000000 in
theorem wholeR_some (l : List (ByteArray × Int)) (g : Nat) (a : Addr) (c : Nat) (w : World) (hl : l.length ≤ 8796093022208) (hg : RowAt xR yR w g 163 (l ++ pad 8 beyondR)) (hs : SeqAt xR yR w (some a) l) :
    Calls Tryz.prog 126 #[.slice (some ⟨g, 0, none⟩) l.length (l.length + 8), .slice (some a) l.length c] w fun e w' => e = .returned (.bool true) ∧ Below w.heap.size w w' := by
  have nn : ∀ (w : World) a n c, (Go.binOp .eql 28 (.slice a n c) (.slice none 0 0)).run Tryz.prog w = .ok (.bool a.isNone) w := fun w a n c => Go.Lib.run_eql_slice_nil w 28 163 a n c 0 0 Tryz.underlying28
  have HG := hide hg
  clear hg
  obtain ⟨b, off, ha, hblt, hcells⟩ : ∃ b off, (l = [] ∨ a = ⟨b, off, none⟩) ∧ (l = [] ∨ b < w.heap.size) ∧ ∀ i p, l[i]? = some p → w.cell? ⟨b, off + i * 2, none⟩ = some (xR p) ∧ w.cell? ⟨b, off + i * 2 + 1, none⟩ = some (yR p) := by
    rcases hs with rfl | ⟨b, off, h, h1, h2⟩
    · exact ⟨0, 0, Or.inl rfl, Or.inl rfl, fun i p h => by simp at h⟩
    · exact ⟨b, off, Or.inr (Option.some.inj h), Or.inr h1, h2⟩
  clear hs
  have HC := hide hcells
  clear hcells
  rcases ha with rfl | rfl
  · go_enter Tryz.func126, Tryz.ntmps126
    go_wp2
    go_loopw [7] (fun i wr => ∃ k : Nat, k ≤ 8 ∧ i = .int .i64 k ∧ Below w.heap.size w wr) (fun i _ => 8 - (intOf i).toNat)
    case atStart => exact ⟨0, Nat.zero_le _, rfl, Below.refl _ _⟩
    case round =>
      obtain ⟨k, hk, rfl, hbel⟩ := hrel
      by_cases hlt : k < 8
      · obtain ⟨p, hp1, hp2, hp3⟩ := app_get ([] : List (ByteArray × Int)) beyondR k (by simpa using hlt)
        obtain rfl := hp3 (by simp)
        obtain ⟨g1, g2⟩ := (HG.out.below hbel HG.out.lt).cell hp1
        have hgl : g < wr.heap.size := Nat.lt_of_lt_of_le HG.out.lt hbel.size
        simp only [xR, yR, beyondR] at g1 g2
        clear hp1 hp2 hp3
        go_wp2_with fail
        go_quiet (fail)
        go_wp2
        go_roundw
        case rel => exact ⟨k + 1, by omega, by go_num, Below.drawn (hbel.alloc hbel.size _) _⟩
        case measure => simp [intOf]; omega
      · go_wp2
        go_ret
        exact ⟨rfl, hbel⟩
  · go_enter Tryz.func126, Tryz.ntmps126
    go_wp2
    go_loopw [7] (fun i wr => ∃ k : Nat, k ≤ l.length + 8 ∧ i = .int .i64 k ∧ Below w.heap.size w wr) (fun i _ => l.length + 8 - (intOf i).toNat)
    case atStart => exact ⟨0, Nat.zero_le _, rfl, Below.refl _ _⟩
    case round =>
      obtain ⟨k, hk, rfl, hbel⟩ := hrel
      by_cases hlt : k < l.length + 8
      · obtain ⟨p, hp1, hp2, hp3⟩ := app_get l beyondR k hlt
        obtain ⟨g1, g2⟩ := (HG.out.below hbel HG.out.lt).cell hp1
        have hgl : g < wr.heap.size := Nat.lt_of_lt_of_le HG.out.lt hbel.size
        by_cases hkl : k < l.length
        · have hbl : b < w.heap.size := hblt.resolve_left (fun e => by rw [e] at hkl; simp at hkl)
          obtain ⟨c1, c2⟩ := HC.out k _ (hp2 hkl)
          have d1 : wr.cell? ⟨b, off + k * 2, none⟩ = some (xR p) := (hbel.cell (p := ⟨b, off + k * 2, none⟩) hbl).trans c1
          have d2 : wr.cell? ⟨b, off + k * 2 + 1, none⟩ = some (yR p) := (hbel.cell (p := ⟨b, off + k * 2 + 1, none⟩) hbl).trans c2
          have hbl2 : b < wr.heap.size := Nat.lt_of_lt_of_le hbl hbel.size
          obtain ⟨p1, p2⟩ := p
          simp only [xR, yR] at d1 d2 g1 g2
          clear c1 c2 hp1 hp2 hp3 hblt
          go_wp2_with fail
          go_quiet (fail)
          go_wp2
          go_roundw
          case rel => exact ⟨k + 1, by omega, by go_num, Below.drawn (hbel.alloc hbel.size _) _⟩
          case measure => simp [intOf]; omega
        · obtain rfl := hp3 (by omega)
          simp only [xR, yR, beyondR] at g1 g2
          clear hp1 hp2 hp3 hblt
          go_wp2_with fail
          go_quiet (fail)
          go_wp2
          go_roundw
          case rel => exact ⟨k + 1, by omega, by go_num, Below.drawn (hbel.alloc hbel.size _) _⟩
          case measure => simp [intOf]; omega
      · go_wp2
        go_ret
        exact ⟨rfl, hbel⟩

set_option maxHeartbeats 400000 in
theorem wholeG_nil (o : Value) (n c : Nat) (w : World) :
    Calls Tryz.prog 127 #[o, .slice none n c] w fun e w' => e = .returned (.bool true) ∧ w = w' := by
  have nn : ∀ (w : World) a n c, (Go.binOp .eql 29 (.slice a n c) (.slice none 0 0)).run Tryz.prog w = .ok (.bool a.isNone) w := fun w a n c => Go.Lib.run_eql_slice_nil w 29 166 a n c 0 0 Tryz.underlying29
  go_enter Tryz.func127, Tryz.ntmps127
  go_wp2
  go_ret
  exact ⟨rfl, rfl⟩
set_option maxRecDepth 100000 in
set_option maxHeartbeats 4000000 in
theorem wholeG_some (l : List (Int × Int)) (g : Nat) (a : Addr) (c : Nat) (w : World) (hl : l.length ≤ 8796093022208) (hg : RowAt xE yE w g 166 (l ++ pad 8 (77, 77))) (hs : SeqAt xE yE w (some a) l) :
    Calls Tryz.prog 127 #[.slice (some ⟨g, 0, none⟩) l.length (l.length + 8), .slice (some a) l.length c] w fun e w' => e = .returned (.bool true) ∧ Below w.heap.size w w' := by
  have nn : ∀ (w : World) a n c, (Go.binOp .eql 29 (.slice a n c) (.slice none 0 0)).run Tryz.prog w = .ok (.bool a.isNone) w := fun w a n c => Go.Lib.run_eql_slice_nil w 29 166 a n c 0 0 Tryz.underlying29
  have HG := hide hg
  clear hg
  obtain ⟨b, off, ha, hblt, hcells⟩ : ∃ b off, (l = [] ∨ a = ⟨b, off, none⟩) ∧ (l = [] ∨ b < w.heap.size) ∧ ∀ i p, l[i]? = some p → w.cell? ⟨b, off + i * 2, none⟩ = some (xE p) ∧ w.cell? ⟨b, off + i * 2 + 1, none⟩ = some (yE p) := by
    rcases hs with rfl | ⟨b, off, h, h1, h2⟩
    · exact ⟨0, 0, Or.inl rfl, Or.inl rfl, fun i p h => by simp at h⟩
    · exact ⟨b, off, Or.inr (Option.some.inj h), Or.inr h1, h2⟩
  clear hs
  have HC := hide hcells
  clear hcells
  rcases ha with rfl | rfl
  · go_enter Tryz.func127, Tryz.ntmps127
    go_wp2
    go_loopw [7] (fun i wr => ∃ k : Nat, k ≤ 8 ∧ i = .int .i64 k ∧ Below w.heap.size w wr) (fun i _ => 8 - (intOf i).toNat)
    case atStart => exact ⟨0, Nat.zero_le _, rfl, Below.refl _ _⟩
    case round =>
      obtain ⟨k, hk, rfl, hbel⟩ := hrel
      by_cases hlt : k < 8
      · obtain ⟨p, hp1, hp2, hp3⟩ := app_get ([] : List (Int × Int)) (77, 77) k (by simpa using hlt)
        obtain rfl := hp3 (by simp)
        obtain ⟨g1, g2⟩ := (HG.out.below hbel HG.out.lt).cell hp1
        have hgl : g < wr.heap.size := Nat.lt_of_lt_of_le HG.out.lt hbel.size
        simp only [xE, yE] at g1 g2
        clear hp1 hp2 hp3
        go_wp2_with fail
        go_quiet (fail)
        go_wp2
        go_roundw
        case rel => exact ⟨k + 1, by omega, by go_num, Below.drawn (hbel.alloc hbel.size _) _⟩
        case measure => simp [intOf]; omega
      · go_wp2
        go_ret
        exact ⟨rfl, hbel⟩
  · go_enter Tryz.func127, Tryz.ntmps127
    go_wp2
    go_loopw [7] (fun i wr => ∃ k : Nat, k ≤ l.length + 8 ∧ i = .int .i64 k ∧ Below w.heap.size w wr) (fun i _ => l.length + 8 - (intOf i).toNat)
    case atStart => exact ⟨0, Nat.zero_le _, rfl, Below.refl _ _⟩
    case round =>
      obtain ⟨k, hk, rfl, hbel⟩ := hrel
      by_cases hlt : k < l.length + 8
      · obtain ⟨p, hp1, hp2, hp3⟩ := app_get l (77, 77) k hlt
        obtain ⟨g1, g2⟩ := (HG.out.below hbel HG.out.lt).cell hp1
        have hgl : g < wr.heap.size := Nat.lt_of_lt_of_le HG.out.lt hbel.size
        by_cases hkl : k < l.length
        · have hbl : b < w.heap.size := hblt.resolve_left (fun e => by rw [e] at hkl; simp at hkl)
          obtain ⟨c1, c2⟩ := HC.out k _ (hp2 hkl)
          have d1 : wr.cell? ⟨b, off + k * 2, none⟩ = some (xE p) := (hbel.cell (p := ⟨b, off + k * 2, none⟩) hbl).trans c1
          have d2 : wr.cell? ⟨b, off + k * 2 + 1, none⟩ = some (yE p) := (hbel.cell (p := ⟨b, off + k * 2 + 1, none⟩) hbl).trans c2
          have hbl2 : b < wr.heap.size := Nat.lt_of_lt_of_le hbl hbel.size
          obtain ⟨p1, p2⟩ := p
          simp only [xE, yE] at d1 d2 g1 g2
          clear c1 c2 hp1 hp2 hp3 hblt
          go_wp2_with fail
          go_quiet (fail)
          go_wp2
          go_roundw
          case rel => exact ⟨k + 1, by omega, by go_num, Below.drawn (hbel.alloc hbel.size _) _⟩
          case measure => simp [intOf]; omega
        · obtain rfl := hp3 (by omega)
          simp only [xE, yE] at g1 g2
          clear hp1 hp2 hp3 hblt
          go_wp2_with fail
          go_quiet (fail)
          go_wp2
          go_roundw
          case rel => exact ⟨k + 1, by omega, by go_num, Below.drawn (hbel.alloc hbel.size _) _⟩
          case measure => simp [intOf]; omega
      · go_wp2
        go_ret
        exact ⟨rfl, hbel⟩
end Go.Proofs.YtgigkiocdiffjaaGreat
