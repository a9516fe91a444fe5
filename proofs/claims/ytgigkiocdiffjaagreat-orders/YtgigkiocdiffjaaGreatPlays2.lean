/- plays, where each step that is played answers true and leaves the law's world as it was. -/
import Derived.Test.YtgigkiocdiffjaaGreatPlays
namespace Go.Proofs.YtgigkiocdiffjaaGreat
open Go.RowKit Veil
/-- A step of a script. -/
structure OpR where
  kind : Int
  a : Int
  b : Int
  c : Int
  d : Int
  e : Int
  s : ByteArray
  t : ByteArray
def OpR.cells (o : OpR) : Array Value := #[.int .i64 o.kind, .int .i64 o.a, .int .i64 o.b, .int .i64 o.c, .int .i64 o.d, .int .i64 o.e, .string o.s, .string o.t]
/-- Where the steps lie. -/
def OpsAt (w : World) (ao : Option Addr) (n : Nat) (ops : Nat → OpR) : Prop :=
  n = 0 ∨ ∃ b off, ao = some ⟨b, off, none⟩ ∧ b < w.heap.size ∧ ∀ i, i < n → ∀ j, j < 8 → w.cell? ⟨b, off + i * 8 + j, none⟩ = (ops i).cells[j]?
theorem OpsAt.cells {w w' : World} {b off n : Nat} {ops : Nat → OpR} (h : ∀ i, i < n → ∀ j, j < 8 → w.cell? ⟨b, off + i * 8 + j, none⟩ = (ops i).cells[j]?) (hb : Below w.heap.size w w') (hlt : b < w.heap.size) (k : Nat) (hk : k < n) :
    w'.cell? ⟨b, off + k * 8, none⟩ = some (.int .i64 (ops k).kind) ∧ w'.cell? ⟨b, off + k * 8 + 1, none⟩ = some (.int .i64 (ops k).a) ∧ w'.cell? ⟨b, off + k * 8 + 2, none⟩ = some (.int .i64 (ops k).b) ∧
    w'.cell? ⟨b, off + k * 8 + 3, none⟩ = some (.int .i64 (ops k).c) ∧ w'.cell? ⟨b, off + k * 8 + 4, none⟩ = some (.int .i64 (ops k).d) ∧ w'.cell? ⟨b, off + k * 8 + 5, none⟩ = some (.int .i64 (ops k).e) ∧
    w'.cell? ⟨b, off + k * 8 + 6, none⟩ = some (.string (ops k).s) ∧ w'.cell? ⟨b, off + k * 8 + 7, none⟩ = some (.string (ops k).t) := by
  have hh : ∀ j, j < 8 → w'.cell? ⟨b, off + k * 8 + j, none⟩ = (ops k).cells[j]? := fun j hj => (hb.cell (p := ⟨b, off + k * 8 + j, none⟩) hlt).trans (h k hk j hj)
  exact ⟨hh 0 (by omega), hh 1 (by omega), hh 2 (by omega), hh 3 (by omega), hh 4 (by omega), hh 5 (by omega), hh 6 (by omega), hh 7 (by omega)⟩

theorem OpsAt.below {w w' : World} {ao : Option Addr} {n : Nat} {ops : Nat → OpR} (h : OpsAt w ao n ops) (hb : Below w.heap.size w w') : OpsAt w' ao n ops := by
  rcases h with h | ⟨b, off, h1, h2, h3⟩
  · exact Or.inl h
  · exact Or.inr ⟨b, off, h1, Nat.lt_of_lt_of_le h2 hb.size, fun i hi j hj => (hb.cell (p := ⟨b, off + i * 8 + j, none⟩) h2).trans (h3 i hi j hj)⟩
def StepsTrue (w : World) (cs : Value) (L : List Int) (n : Nat) (ops : Nat → OpR) : Prop :=
  ∀ i, i < n → L.contains (ops i).kind = true → ∀ w' g, Below w.heap.size w w' → w.heap.size ≤ g → PlainW w' g cs →
    Calls Tryz.prog 18 #[.pointer (some ⟨g, 0, none⟩), .agg (ops i).cells] w' fun e w'' => e = .returned (.bool true) ∧ Below w'.heap.size w' w''
theorem IntsAt.below {w w' : World} {g : Nat} {l : List Int} {B : Nat} (h : IntsAt w g l) (hb : Below B w w') (hg : g < B) : IntsAt w' g l := Below.row hb h hg
theorem IntsAt.lt {w : World} {g : Nat} {l : List Int} (h : IntsAt w g l) : g < w.heap.size := lt_of_row h

set_option maxRecDepth 100000 in
set_option maxHeartbeats 2000000 in
theorem plays_plain (co : Option Addr) (cn cc : Nat) (ao : Option Addr) (n cap : Nat) (ops : Nat → OpR) (gp gh : Nat) (L : List Int) (w : World) (hops : OpsAt w ao n ops) (hn : n ≤ 140737488355328)
    (hp : IntsAt w gp L) (hh : IntsAt w gh L) (hL : L.length ≤ 1000) (hstep : StepsTrue w (.slice co cn cc) L n ops) :
    Calls Tryz.prog 12 #[.slice co cn cc, .slice ao n cap, .slice (some ⟨gp, 0, none⟩) L.length L.length, .slice (some ⟨gh, 0, none⟩) L.length L.length] w fun e w' => e = .returned (.bool true) ∧ Below w.heap.size w w' := by
  rcases hops with rfl | ⟨b, off, rfl, hblt, hcells⟩
  · clear hstep
    have HP := hide hp
    have HH := hide hh
    clear hp hh
    go_enter Tryz.func12, Tryz.ntmps12
    go_wp2
    refine wp_loop_rounds 1 ?_
    rw [rounds_succ]
    go_wp2
    go_ret
    exact ⟨rfl, (Below.refl _ _).alloc (Nat.le_refl _) _⟩
  have HP := hide hp
  have HH := hide hh
  have HS := hide hstep
  have HC := hide hcells
  clear hp hh hstep hcells
  go_enter Tryz.func12, Tryz.ntmps12
  go_wp2
  go_loopw [10] (fun i wr => ∃ k : Nat, k ≤ n ∧ i = .int .i64 k ∧ PlainW wr w.heap.size (.slice co cn cc) ∧ Below w.heap.size w wr) (fun i _ => n - (intOf i).toNat)
  case atStart => exact ⟨0, Nat.zero_le _, rfl, Go.heap_alloc_new _ _, (Below.refl _ _).alloc (Nat.le_refl _) _⟩
  case round =>
    obtain ⟨k, hk, rfl, hpw, hbel⟩ := hrel
    have HW := hide hpw
    clear hpw
    by_cases hlt : k < n
    · obtain ⟨c0, c1, c2, c3, c4, c5, c6, c7⟩ := OpsAt.cells HC.out hbel hblt k hlt
      have h57 : (k : Int) < 144115188075855872 := by omega
      have h58 : decide ((k : Int) < 144115188075855872) = true := decide_eq_true h57
      have HB1 : ∀ o, Below w.heap.size w (wr.alloc o) := fun o => hbel.alloc hbel.size o
      have HB2 := hide HB1
      clear HB1
      cases hin : L.contains (ops k).kind
      · go_wp2_with fail
        refine (among_any gp L (ops k).kind _ (HP.out.below (HB2.out _) HP.out.lt) hL).mono ?_
        rintro e w' ⟨rfl, rfl⟩
        rw [hin]
        go_wp2
        go_roundw
        case rel => exact ⟨k + 1, by omega, by go_num, HW.out.below ((Below.refl _ _).alloc (Nat.le_refl _) _) HW.out.lt, HB2.out _⟩
        case measure => simp [intOf]; omega
      · go_wp2_with fail
        refine (among_any gp L (ops k).kind _ (HP.out.below (HB2.out _) HP.out.lt) hL).mono ?_
        rintro e w' ⟨rfl, rfl⟩
        rw [hin]
        go_wp2_with fail
        refine (HS.out k hlt hin _ w.heap.size (HB2.out _) (Nat.le_refl _) (HW.out.below ((Below.refl _ _).alloc (Nat.le_refl _) _) HW.out.lt)).mono ?_
        rintro e w2 ⟨rfl, hb2⟩
        have hb3 := (HB2.out _).trans (hb2.mono (by simp; exact Nat.le_succ_of_le hbel.size))
        have hk2 : w2.cell? ⟨wr.heap.size, 0, none⟩ = some (.int .i64 (ops k).kind) := by
          rw [hb2.cell (p := ⟨wr.heap.size, 0, none⟩) (by simp)]; simp
        have hsz : wr.heap.size < w2.heap.size := by have := hb2.size; simp at this; omega
        have HB3 := hide hb3
        have HB4 := hide hb2
        clear hb2 hb3 c0 c1 c2 c3 c4 c5 c6 c7
        go_wp2_with fail
        refine (among_any gh L (ops k).kind _ (HH.out.below HB3.out HH.out.lt) hL).mono ?_
        rintro e w' ⟨rfl, rfl⟩
        rw [hin]
        go_wp2_with fail
        refine (looks_plain w.heap.size _ _ (HW.out.below (((Below.refl _ _).alloc (Nat.le_refl _) _).trans (HB4.out.mono (by simp))) HW.out.lt)).mono ?_
        rintro e w' ⟨rfl, rfl⟩
        go_wp2
        go_roundw
        case rel => exact ⟨k + 1, by omega, by go_num, HW.out.below (((Below.refl _ _).alloc (Nat.le_refl _) _).trans (HB4.out.mono (by simp))) HW.out.lt, HB3.out⟩
        case measure => simp [intOf]; omega
    · go_wp2
      go_ret
      exact ⟨rfl, hbel⟩
end Go.Proofs.YtgigkiocdiffjaaGreat
