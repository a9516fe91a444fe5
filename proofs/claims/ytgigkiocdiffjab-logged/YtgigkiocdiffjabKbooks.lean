/- veilkeep.books. -/
import Derived.Test.YtgigkiocdiffjabUKuno2
import Derived.Test.YtgigkiocdiffjabUKopen
namespace Go.Proofs.Ytgigkiocdiffjab
open Go.RowKit Veil
/-- What a level's log and version were: the log's slice, its version. -/
structure Bk where
  ao : Option Addr
  n : Nat
  cap : Nat
  ver : Nat
def Bk.log (b : Bk) : Value := .slice b.ao b.n b.cap
def bkV (b : Bk) : List Value := [b.log, .int .i64 b.ver]
theorem Try.infoBook : (Try.prog.info? 56).map (fun i => (i.zero, i.size, i.bytes)) = some (some (.agg #[.slice none 0 0, .int .i64 0]), 2, 32) := by kernel_rfl
/-- The books of the levels below k: a list, and of each its log; the blocks of these lie in W. -/
def BooksTo (w : World) (B : Nat) (vl : Value) (s : PSt) (k : Nat) : Prop :=
  ∃ L : List Bk, L.length = k ∧ OwnL 56 2 bkV w B vl L ∧ ∀ i b, L[i]? = some b → b.ver = s.V i ∧ OwnL 107 3 recV w B b.log (s.L i) ∧ ∀ x, b.log.ownBlock = some x → vl.ownBlock = some x → False
theorem BooksTo.nil (w : World) (B : Nat) (s : PSt) : BooksTo w B (.slice none 0 0) s 0 := ⟨[], rfl, OwnL.nil _ _ _ _ _, fun i b h => by simp at h⟩
theorem BooksTo.below {w w' : World} {B : Nat} {vl : Value} {s : PSt} {k : Nat} (h : BooksTo w B vl s k) (hb : Below w.heap.size w w') : BooksTo w' B vl s k := by
  obtain ⟨L, h1, h2, h3⟩ := h
  exact ⟨L, h1, h2.below hb, fun i b hi => ⟨(h3 i b hi).1, (h3 i b hi).2.1.below hb, (h3 i b hi).2.2⟩⟩
theorem BooksTo.mono {w : World} {B B' : Nat} {vl : Value} {s : PSt} {k : Nat} (h : BooksTo w B vl s k) (hB : B' ≤ B) : BooksTo w B' vl s k := by
  obtain ⟨L, h1, h2, h3⟩ := h
  exact ⟨L, h1, h2.mono hB, fun i b hi => ⟨(h3 i b hi).1, (h3 i b hi).2.1.mono hB, (h3 i b hi).2.2⟩⟩
theorem BooksTo.push {w0 w2 wC w6 : World} {B g d n cap : Nat} {vl : Value} {s : PSt} {L : List Bk} {b : Bk} (hL : L.length = d) (hown : OwnL 56 2 bkV w0 B vl L)
    (hall : ∀ i b, L[i]? = some b → b.ver = s.V i ∧ OwnL 107 3 recV w0 B b.log (s.L i) ∧ ∀ x, b.log.ownBlock = some x → vl.ownBlock = some x → False)
    (hb : Below w0.heap.size w0 w2) (hnew : OwnL 107 3 recV w2 w0.heap.size b.log (s.L d)) (hv : b.ver = s.V d) (hbC : Below w2.heap.size w2 wC) (hB : B ≤ w0.heap.size)
    (hg : wC.grownBy w6 vl.ownBlock) (hat : vl.ownBlock = some g ∨ g = wC.heap.size) (hown6 : OwnL 56 2 bkV w6 B (.slice (some ⟨g, 0, none⟩) n cap) (L ++ [b])) : BooksTo w6 B (.slice (some ⟨g, 0, none⟩) n cap) s (d + 1) := by
  have hs2 := hb.size
  have hsC := hbC.size
  refine ⟨L ++ [b], by rw [List.length_append, hL]; rfl, hown6, fun i a hi => ?_⟩
  by_cases hid : i < L.length
  · rw [List.getElem?_append_left hid] at hi
    obtain ⟨h1, h2, h3⟩ := hall i a hi
    refine ⟨h1, ((h2.below hb).below hbC).kept hg h3, fun x hx hxg => ?_⟩
    obtain rfl : g = x := by simpa [Value.ownBlock] using hxg
    rcases hat with h4 | h4
    · exact h3 g hx h4
    · have := (h2.lt hx).2
      omega
  · have hlt := (List.getElem?_eq_some_iff.1 hi).1
    rw [List.length_append] at hlt
    obtain rfl : i = L.length := by simp at hlt; omega
    rw [List.getElem?_append_right (Nat.le_refl _), Nat.sub_self] at hi
    obtain rfl : b = a := by simpa using hi
    rw [hL]
    refine ⟨hv, ((hnew.below hbC).kept hg (fun x hx hxv => ?_)).mono hB, fun x hx hxg => ?_⟩
    · have := (hown.lt hxv).2
      have := (hnew.lt hx).1
      omega
    · obtain rfl : g = x := by simpa [Value.ownBlock] using hxg
      have h5 := hnew.lt hx
      rcases hat with h4 | h4
      · have := (hown.lt h4).2
        omega
      · omega
set_option maxRecDepth 100000 in
set_option maxHeartbeats 4000000 in
theorem kbooks_ok {F : Nat → Prop} {B g k : Nat} {w : World} {c : Cfg} {s : PSt} (h : One F B w g c s k) (v : CfgV) (sv : Value) :
    Calls Try.prog 15 #[.agg (caseC c v sv), .pointer (some ⟨g, 0, none⟩)] w fun e w' => ∃ vl, e = .returned (.tuple #[vl, .bool true]) ∧ BooksTo w' w.heap.size vl s c.n ∧ Below w.heap.size w w' := by
  obtain ⟨_, _, _, _, hc, hn6, hn1⟩ := labels_of h.right.labels
  have HB0 := hide (below_box w (.cells (caseC c v sv) 29))
  have HX0 := hide (Go.heap_alloc_new w (.cells (caseC c v sv) 29))
  have HL := hide (fun (w' : World) (hb : Below w.heap.size w w') (d : Nat) (hd : d < c.n) => one_log (h.below hb) d hd)
  have HV := hide (fun (w' : World) (hb : Below w.heap.size w w') (d : Nat) (hd : d < c.n) => one_version (h.below hb) d hd)
  have hcl : c.labels = (c.n : Int) := hc.symm
  unfold caseC at *
  rw [hcl] at HB0 HX0 ⊢
  clear h hc hcl
  generalize c.n = n at *
  go_enter Try.func15, Try.ntmps15
  go_wp2
  generalize hW0 : w.alloc (.cells #[.int .i64 (n : Int), .slice v.ea c.edges.length v.ec, .slice v.ra c.rules.length v.rc, .slice v.ga c.grants.length v.gc, sv] 29) = w0 at *
  have HW0 := hide hW0
  clear hW0
  go_loopw [6, 7] (fun vl i wr => ∃ d : Nat, d ≤ n ∧ i = .int .i64 d ∧ BooksTo wr w0.heap.size vl s d ∧ Below w0.heap.size w0 wr) (fun _ i _ => n - (intOf i).toNat)
  case atStart => exact ⟨0, Nat.zero_le _, rfl, BooksTo.nil _ _ _, Below.refl _ _⟩
  case round =>
    obtain ⟨wo, rfl⟩ : ∃ x, x = wr := ⟨_, rfl⟩
    obtain ⟨d, hd, rfl, hvl, hbel⟩ := hrel
    have HVL := hide hvl
    have HXO := hide (Below.row hbel HX0.out (lt_of_row HX0.out))
    have q0 : wo.cell? ⟨w.heap.size, 0, none⟩ = some (.int .i64 (n : Int)) := (cell_of_row _ _ _ _ _ _ HXO.out).trans rfl
    have HBO := hide (HB0.out.trans (hbel.mono HB0.out.size))
    clear hvl
    by_cases hlt : d < n
    · have hki : (d : Int) < (n : Int) := by omega
      have HL1 := hide (HL.out wo HBO.out d hlt)
      go_wp2_with fail
      refine (HL1.out).mono ?_
      rintro e w1 ⟨ll, rfl, hol, hb1⟩
      have HOL := hide hol
      obtain ⟨lao, lcap, hll⟩ := hol.shape
      clear hol
      subst hll
      have hbel1 := hbel.trans (hb1.mono hbel.size)
      have HB1 := hide (HB0.out.trans (hbel1.mono HB0.out.size))
      have HV1 := hide (HV.out w1 HB1.out d hlt)
      clear q0
      go_wp2_with fail
      refine (HV1.out).mono ?_
      rintro e w2 ⟨rfl, hb2⟩
      have hbel2 := hbel1.trans (hb2.mono hbel1.size)
      have HL2 := hide ((HOL.out.below hb2))
      obtain ⟨L, hL, hown, hall⟩ := HVL.out
      have HALL := hide hall
      have hbC := below_box w2 (.cells #[.slice lao (s.L d).length lcap, .int .i64 (s.V d : Nat)] 56)
      have hbelC := hbel2.trans (hbC.mono hbel2.size)
      have HVC := hide (((hown.below hb1).below hb2).below hbC)
      have HNC := hide (Go.heap_alloc_new w2 (.cells #[.slice lao (s.L d).length lcap, .int .i64 (s.V d : Nat)] 56))
      have HOW := hide hown
      clear hown hall
      generalize hSL : (s.L d).length = q at *
      have HSL := hide hSL
      clear hSL
      generalize hSV : s.V d = r at *
      have HSV := hide hSV
      clear hSV
      go_wp2_with (at_builtin; refine wpList_push rfl (.tmp 38) (.tmp 42) 50 rfl (.agg #[.slice none 0 0, .int .i64 0]) 32 Try.underlying50 Try.infoBook rfl (by decide) rfl HVC.out w2.heap.size 1 ⟨lao, q, lcap, r⟩ rfl 56 (0, 0) HNC.out rfl (by intro u hu; simp [bkV, Bk.log] at hu; rcases hu with rfl | rfl <;> rfl) (by omega) (by decide) hbelC.size (w2.heap.size + 1) (by simp) ?_; intro g6 cap6 w6 hown6 hgrow6 hat6 hlt6)
      have hb6 := hbelC.trans (below_of_grown hgrow6 (fun b hb => (HVC.out.lt hb).1) hbelC.size)
      have HR := hide (BooksTo.push (b := ⟨lao, q, lcap, r⟩) hL HOW.out HALL.out (hb1.trans (hb2.mono hb1.size)) HL2.out HSV.out.symm hbC hbel.size hgrow6 (by rw [show (w2.alloc (.cells #[.slice lao q lcap, .int .i64 (r : Nat)] 56)).heap.size = w2.heap.size + 1 by simp]; exact hat6) hown6)
      rw [hL] at HR
      go_roundw
      case rel => exact ⟨d + 1, by omega, by go_num, HR.out, hb6⟩
      case measure => simp [intOf]; omega
    · obtain rfl : d = n := by omega
      have hkc : decide ((d : Int) < (d : Int)) = false := by simp
      go_wp2
      go_ret2
      exact ⟨_, rfl, HVL.out.mono HB0.out.size, HBO.out⟩
end Go.Proofs.Ytgigkiocdiffjab
