/- Doc1, Doc2, Taking, Doc3. -/
import Derived.Test.YthgcpjdlcooncaaGreatE03
import Derived.Test.YthgcpjdlcooncaaGreatE06
import Derived.Deep.RegionHeld
namespace Go.Proofs.YthgcpjdlcooncaaGreat
open Go.RowKit Veil
section
variable {α : Type} (k : Nat) (f : α → List Value)
def SeqV (w : World) (v : Value) (l : List α) : Prop :=
  ∃ ao cap b, v = .slice ao l.length cap ∧ (l = [] ∨ (ao = some ⟨b, 0, none⟩ ∧ b < w.heap.size)) ∧ ∀ i a, l[i]? = some a → ∀ j, j < k → w.cell? ⟨b, i * k + j, none⟩ = (f a)[j]?
variable {k f}
theorem SeqV.below {w w' : World} {v : Value} {l : List α} (h : SeqV k f w v l) (hb : Below w.heap.size w w') : SeqV k f w' v l := by
  obtain ⟨ao, cap, b, h1, h2, h3⟩ := h
  refine ⟨ao, cap, b, h1, h2.imp id (fun h => ⟨h.1, Nat.lt_of_lt_of_le h.2 hb.size⟩), fun i a hi j hj => ?_⟩
  have hl : b < w.heap.size := by
    rcases h2 with rfl | h2
    · simp at hi
    · exact h2.2
  exact (hb.cell (p := ⟨b, i * k + j, none⟩) hl).trans (h3 i a hi j hj)
end
def markV (m : Mk) : List Value := [.int .i64 m.kind, .int .i64 m.level, .int .i64 m.label]
/-- The document in its box. -/
def RBox (w : World) (g : Nat) (c : Cfg) (v : CfgV) (rv av : Value) : Prop :=
  w.heap[g]? = some (.cells #[.int .i64 c.labels, .slice v.ea c.edges.length v.ec, .slice v.ra c.rules.length v.rc, .slice v.ga c.grants.length v.gc, rv, av] 78 (0, 0))
section
variable {w w' : World} {g B : Nat} {c : Cfg} {v : CfgV} {rv av : Value}
theorem RBox.below (h : RBox w g c v rv av) (hb : Below B w w') (hg : g < B) : RBox w' g c v rv av := Below.row hb h hg
theorem RBox.lt (h : RBox w g c v rv av) : g < w.heap.size := lt_of_row h
theorem RBox.cells (h : RBox w g c v rv av) : w.cell? ⟨g, 0, none⟩ = some (.int .i64 c.labels) ∧ w.cell? ⟨g, 1, none⟩ = some (.slice v.ea c.edges.length v.ec) ∧ w.cell? ⟨g, 2, none⟩ = some (.slice v.ra c.rules.length v.rc) ∧ w.cell? ⟨g, 3, none⟩ = some (.slice v.ga c.grants.length v.gc) :=
  ⟨by rw [cell_of_row _ _ _ _ _ _ h]; rfl, by rw [cell_of_row _ _ _ _ _ _ h]; rfl, by rw [cell_of_row _ _ _ _ _ _ h]; rfl, by rw [cell_of_row _ _ _ _ _ _ h]; rfl⟩
theorem RBox.row (h : RBox w g c v rv av) : w.cell? ⟨g, 4, none⟩ = some rv := by rw [cell_of_row _ _ _ _ _ _ h]; rfl
theorem RBox.acts (h : RBox w g c v rv av) : w.cell? ⟨g, 5, none⟩ = some av := by rw [cell_of_row _ _ _ _ _ _ h]; rfl
end
def rcC (x : RC) (mv : Value) : Array Value := #[.int .u8 x.b, .int .i64 x.origin, mv]
set_option maxRecDepth 100000 in
set_option maxHeartbeats 8000000 in
theorem rthere_any (c : Cfg) (v : CfgV) (rv av : Value) (g : Nat) (x : RC) (mv : Value) (d : Nat) (w : World) (hl : labelsB c = true) (hat : CfgAt w c v) (hbox : RBox w g c v rv av) (hm : SeqV 3 markV w mv x.marks) (hx : RCOk c x) (hd : d < c.n) (hln : x.marks.length ≤ 140737488355328) :
    Calls Tryz.prog 131 #[.pointer (some ⟨g, 0, none⟩), .agg (rcC x mv), .int .i64 d] w fun e w' => e = .returned (.bool (thereB c x d)) ∧ Below w.heap.size w w' := by
  have HLE := hide (fun (a : Nat) (w' : World) (ha : a < c.n) (hb : Below w.heap.size w w') => rleq_any c v a d w' hl (hat.below hb) ha hd)
  obtain ⟨ao, cap, mb, rfl, hao, hcm⟩ := hm
  have HO := hide hx.origin
  have HMK := hide hx.marks
  have HC := hide hcm
  have HAO := hide hao
  have HBX := hide hbox
  have hgl := hbox.lt
  obtain ⟨xb, xo, xm⟩ := x
  simp only at HO HMK HC HAO hln
  have HX0 := hide (Go.heap_alloc_new w (.cells #[.int .u8 xb, .int .i64 xo, .slice ao xm.length cap] 156))
  have hbel0 := below_box w (.cells #[.int .u8 xb, .int .i64 xo, .slice ao xm.length cap] 156)
  clear hl hat hao hcm hx hbox
  unfold rcC cfgCells at *
  go_enter Tryz.func131, Tryz.ntmps131
  go_wp2
  go_loopw [7] (fun i wr => ∃ k : Nat, k ≤ xm.length ∧ i = .int .i64 k ∧ (xm.take k).any (goneB c d) = false ∧ wr.heap[w.heap.size]? = some (.cells #[.int .u8 xb, .int .i64 xo, .slice ao xm.length cap] 156 (0, 0)) ∧ Below w.heap.size w wr) (fun i _ => xm.length - (intOf i).toNat)
  case atStart => exact ⟨0, Nat.zero_le _, rfl, rfl, HX0.out, hbel0⟩
  case round =>
    clear HX0 hbel0
    obtain ⟨wo, rfl⟩ : ∃ x, x = wr := ⟨_, rfl⟩
    obtain ⟨k, hk, rfl, hno, hrow, hbel⟩ := hrel
    have HNO := hide hno
    have HB := hide hrow
    have b1 : wo.cell? ⟨w.heap.size, 1, none⟩ = some (.int .i64 xo) := by rw [cell_of_row _ _ _ _ _ _ hrow]; rfl
    have b2 : wo.cell? ⟨w.heap.size, 2, none⟩ = some (.slice ao xm.length cap) := by rw [cell_of_row _ _ _ _ _ _ hrow]; rfl
    have hnl := lt_of_row hrow
    obtain ⟨q0, q1, q2, q3⟩ := (HBX.out.below hbel hgl).cells
    have hgo : g < wo.heap.size := Nat.lt_of_lt_of_le hgl hbel.size
    clear hno hrow
    by_cases hlt : k < xm.length
    · have hne : xm ≠ [] := fun e => by rw [e] at hlt; simp at hlt
      obtain ⟨hao, hmb⟩ := HAO.out.resolve_left hne
      subst hao
      have hej : xm[k]? = some xm[k] := List.getElem?_eq_getElem hlt
      have c0 := HC.out k _ hej 0 (by omega)
      have c1 := HC.out k _ hej 1 (by omega)
      have hin := HMK.out _ (List.getElem_mem hlt)
      have HS := hide (any_snoc (goneB c d) xm k _ hej)
      have HM := hide (any_mem (goneB c d) xm k _ hej)
      generalize xm[k] = mk at *
      obtain ⟨mk1, mk2, mk3⟩ := mk
      obtain ⟨m1, m2⟩ := hin
      have d0 : wo.cell? ⟨mb, k * 3, none⟩ = some (.int .i64 mk1) := (hbel.cell (p := ⟨mb, k * 3, none⟩) hmb).trans c0
      have d1 : wo.cell? ⟨mb, k * 3 + 1, none⟩ = some (.int .i64 mk2) := (hbel.cell (p := ⟨mb, k * 3 + 1, none⟩) hmb).trans c1
      have hmo : mb < wo.heap.size := Nat.lt_of_lt_of_le hmb hbel.size
      have hili : (k : Int) < (xm.length : Int) := by omega
      simp only at m1 m2
      have HL2 := hide (HLE.out mk2 _ m1 hbel.drew)
      clear hej c0 c1 hne m2
      cases hk2 : ((mk1 : Int) == 2)
      · have hg : goneB c d ⟨mk1, mk2, mk3⟩ = false := by
          have : (mk1 == 2) = false := by simpa using (show ¬ mk1 = 2 by have := hk2; simp at this; omega)
          simp [goneB, this]
        have HG := hide hg
        clear hg
        go_wp2_with fail
        go_quiet (fail)
        go_wp2
        go_roundw
        case rel => exact ⟨k + 1, by omega, by go_num, by rw [HS.out, HNO.out, HG.out]; rfl, HB.out, Below.drawn hbel _⟩
        case measure => simp [intOf]; omega
      · obtain rfl : mk1 = 2 := by have := hk2; simp at this; omega
        have hg : goneB c d ⟨2, mk2, mk3⟩ = c.le mk2 d := by simp [goneB]
        rw [hg] at HS HM
        clear hk2 hg
        go_wp2_with fail
        first | (go_region_held (fun w' => w'.cell? ⟨w.heap.size, 2, none⟩ = some (.slice (some ⟨mb, 0, none⟩) xm.length cap) ∧ w'.cell? ⟨mb, k * 3, none⟩ = some (.int .i64 2) ∧ w'.cell? ⟨mb, k * 3 + 1, none⟩ = some (.int .i64 mk2) ∧ w'.cell? ⟨g, 0, none⟩ = some (.int .i64 c.labels) ∧ w'.cell? ⟨g, 1, none⟩ = some (.slice v.ea c.edges.length v.ec) ∧ w'.cell? ⟨g, 2, none⟩ = some (.slice v.ra c.rules.length v.rc) ∧ w'.cell? ⟨g, 3, none⟩ = some (.slice v.ga c.grants.length v.gc)) (go_keep) (first | (go_at_call 57; refine (HL2.out).mono ?_; rintro e w2 ⟨rfl, hb2⟩; have s0 := (hb2.cell (p := ⟨w.heap.size, 2, none⟩) hnl).trans b2; have s1 := (hb2.cell (p := ⟨mb, k * 3, none⟩) hmo).trans d0; have s2 := (hb2.cell (p := ⟨mb, k * 3 + 1, none⟩) hmo).trans d1; have s3 := (hb2.cell (p := ⟨g, 0, none⟩) hgo).trans q0; have s4 := (hb2.cell (p := ⟨g, 1, none⟩) hgo).trans q1; have s5 := (hb2.cell (p := ⟨g, 2, none⟩) hgo).trans q2; have s6 := (hb2.cell (p := ⟨g, 3, none⟩) hgo).trans q3))) | fail "no"
        have HB2 := hide (Below.row hb2 HB.out hnl)
        have hbel2 := hbel.drew.trans (hb2.mono hbel.drew.size)
        cases hle : c.le mk2 d
        · rw [hle] at HS
          clear HM hle
          go_wp2
          go_roundw
          case rel => exact ⟨k + 1, by omega, by go_num, by rw [HS.out, HNO.out]; rfl, HB2.out, hbel2⟩
          case measure => simp [intOf]; omega
        · have HT := hide (HM.out hle)
          clear HS HM hle
          go_wp2
          go_ret
          exact ⟨ret_bool (by simp [thereB, HT.out]), hbel2⟩
    · obtain rfl : k = xm.length := by omega
      have HN := hide (show xm.any (goneB c d) = false by have := HNO.out; rwa [List.take_length] at this)
      have HL2 := hide (HLE.out xo _ HO.out hbel.drew)
      go_wp2_with fail
      first | (go_region_held (fun w' => w'.cell? ⟨w.heap.size, 1, none⟩ = some (.int .i64 xo) ∧ w'.cell? ⟨g, 0, none⟩ = some (.int .i64 c.labels) ∧ w'.cell? ⟨g, 1, none⟩ = some (.slice v.ea c.edges.length v.ec) ∧ w'.cell? ⟨g, 2, none⟩ = some (.slice v.ra c.rules.length v.rc) ∧ w'.cell? ⟨g, 3, none⟩ = some (.slice v.ga c.grants.length v.gc)) (go_keep) (first | (go_at_call 57; refine (HL2.out).mono ?_; rintro e w2 ⟨rfl, hb2⟩; have s0 := (hb2.cell (p := ⟨w.heap.size, 1, none⟩) hnl).trans b1; have s3 := (hb2.cell (p := ⟨g, 0, none⟩) hgo).trans q0; have s4 := (hb2.cell (p := ⟨g, 1, none⟩) hgo).trans q1; have s5 := (hb2.cell (p := ⟨g, 2, none⟩) hgo).trans q2; have s6 := (hb2.cell (p := ⟨g, 3, none⟩) hgo).trans q3))) | fail "no"
      have hbel2 := hbel.drew.trans (hb2.mono hbel.drew.size)
      go_wp2
      go_ret
      exact ⟨ret_bool (by simp [thereB, HN.out]), hbel2⟩
end Go.Proofs.YthgcpjdlcooncaaGreat
namespace Go.Proofs.YthgcpjdlcooncaaGreat
open Go.RowKit Veil
set_option maxRecDepth 100000 in
set_option maxHeartbeats 8000000 in
theorem rseen_any (c : Cfg) (v : CfgV) (rv av : Value) (g : Nat) (x : RC) (mv : Value) (d : Nat) (w : World) (hl : labelsB c = true) (hnl : ¬ c.noLat) (hat : CfgAt w c v) (hbox : RBox w g c v rv av) (hm : SeqV 3 markV w mv x.marks) (hx : RCOk c x) (hd : d < c.n) (hln : x.marks.length ≤ 140737488355328) :
    Calls Tryz.prog 132 #[.pointer (some ⟨g, 0, none⟩), .agg (rcC x mv), .int .i64 d] w fun e w' => e = .returned (.tuple #[.int .i64 (seenF c x d).1, .bool (seenF c x d).2]) ∧ Below w.heap.size w w' := by
  have HLE := hide (fun (a : Nat) (w' : World) (ha : a < c.n) (hb : Below w.heap.size w w') => rleq_any c v a d w' hl (hat.below hb) ha hd)
  have HJO := hide (fun (a b : Nat) (w' : World) (ha : a < c.n) (hb' : b < c.n) (hb : Below w.heap.size w w') => rjoin_any c v a b w' hl (hat.below hb) ha hb')
  have HJN := hide (fun (a b : Nat) (ha : a < c.n) (hb : b < c.n) => join_nat hnl ha hb)
  obtain ⟨ao, cap, mb, rfl, hao, hcm⟩ := hm
  have HO := hide hx.origin
  have HMK := hide hx.marks
  have HC := hide hcm
  have HAO := hide hao
  have HBX := hide hbox
  have hgl := hbox.lt
  obtain ⟨xb, xo, xm⟩ := x
  simp only at HO HMK HC HAO hln
  have HSF := hide (show seenF c ⟨xb, xo, xm⟩ d = seenTo c xo d xm xm.length from (seenTo_all c xo d xm).symm)
  have HX0 := hide (Go.heap_alloc_new w (.cells #[.int .u8 xb, .int .i64 xo, .slice ao xm.length cap] 156))
  have hbel0 := below_box w (.cells #[.int .u8 xb, .int .i64 xo, .slice ao xm.length cap] 156)
  clear hl hnl hat hao hcm hx hbox
  unfold rcC cfgCells at *
  go_enter Tryz.func132, Tryz.ntmps132
  go_wp2
  go_loopw [8, 9, 10] (fun l fr i wr => ∃ k s1 : Nat, ∃ s2, k ≤ xm.length ∧ i = .int .i64 k ∧ l = .int .i64 s1 ∧ fr = .bool s2 ∧ seenTo c xo d xm k = (s1, s2) ∧ s1 < c.n ∧ wr.heap[w.heap.size]? = some (.cells #[.int .u8 xb, .int .i64 xo, .slice ao xm.length cap] 156 (0, 0)) ∧ Below w.heap.size w wr) (fun _ _ i _ => xm.length - (intOf i).toNat)
  case atStart => exact ⟨0, xo, false, Nat.zero_le _, rfl, rfl, rfl, rfl, HO.out, HX0.out, hbel0⟩
  case round =>
    clear HX0 hbel0
    obtain ⟨wo, rfl⟩ : ∃ x, x = wr := ⟨_, rfl⟩
    obtain ⟨k, s1, s2, hk, rfl, rfl, rfl, hst, hs1, hrow, hbel⟩ := hrel
    have HST := hide hst
    have HB := hide hrow
    have b1 : wo.cell? ⟨w.heap.size, 1, none⟩ = some (.int .i64 xo) := by rw [cell_of_row _ _ _ _ _ _ hrow]; rfl
    have b2 : wo.cell? ⟨w.heap.size, 2, none⟩ = some (.slice ao xm.length cap) := by rw [cell_of_row _ _ _ _ _ _ hrow]; rfl
    have hnl := lt_of_row hrow
    have hgo : g < wo.heap.size := Nat.lt_of_lt_of_le hgl hbel.size
    clear hst hrow
    by_cases hlt : k < xm.length
    · have hne : xm ≠ [] := fun e => by rw [e] at hlt; simp at hlt
      obtain ⟨hao, hmb⟩ := HAO.out.resolve_left hne
      subst hao
      have hej : xm[k]? = some xm[k] := List.getElem?_eq_getElem hlt
      have c0 := HC.out k _ hej 0 (by omega)
      have c1 := HC.out k _ hej 1 (by omega)
      have c2 := HC.out k _ hej 2 (by omega)
      have hin := HMK.out _ (List.getElem_mem hlt)
      have HS := hide (seenTo_succ c xo d xm k _ hej)
      generalize xm[k] = mk at *
      obtain ⟨mk1, mk2, mk3⟩ := mk
      obtain ⟨m1, m2⟩ := hin
      have d0 : wo.cell? ⟨mb, k * 3, none⟩ = some (.int .i64 mk1) := (hbel.cell (p := ⟨mb, k * 3, none⟩) hmb).trans c0
      have d1 : wo.cell? ⟨mb, k * 3 + 1, none⟩ = some (.int .i64 mk2) := (hbel.cell (p := ⟨mb, k * 3 + 1, none⟩) hmb).trans c1
      have d2 : wo.cell? ⟨mb, k * 3 + 2, none⟩ = some (.int .i64 mk3) := (hbel.cell (p := ⟨mb, k * 3 + 2, none⟩) hmb).trans c2
      have hili : (k : Int) < (xm.length : Int) := by omega
      simp only at m1 m2
      have hbA : Below w.heap.size w (wo.alloc (.cells #[.int .i64 mk1, .int .i64 mk2, .int .i64 mk3] 165)) := hbel.alloc hbel.size _
      have HMA := hide (Go.heap_alloc_new wo (.cells #[.int .i64 mk1, .int .i64 mk2, .int .i64 mk3] 165))
      have HBA : Hid ((wo.alloc (.cells #[.int .i64 mk1, .int .i64 mk2, .int .i64 mk3] 165)).heap[w.heap.size]? = some (.cells #[.int .u8 xb, .int .i64 xo, .slice (some ⟨mb, 0, none⟩) xm.length cap] 156 (0, 0))) := row_alloc' HB.out
      have HGA := hide (HBX.out.below hbA hgl)
      obtain ⟨q0, q1, q2, q3⟩ := HGA.out.cells
      have qm1 : (wo.alloc (.cells #[.int .i64 mk1, .int .i64 mk2, .int .i64 mk3] 165)).cell? ⟨wo.heap.size, 1, none⟩ = some (.int .i64 mk2) := by rw [cell_of_row _ _ _ _ _ _ HMA.out]; rfl
      have HL2 := hide (HLE.out mk2 _ m1 hbA.drew)
      clear hej c0 c1 c2 hne
      go_wp2_with fail
      first | (go_region_held (fun w' => w'.cell? ⟨wo.heap.size, 1, none⟩ = some (.int .i64 mk2) ∧ w'.cell? ⟨g, 0, none⟩ = some (.int .i64 c.labels) ∧ w'.cell? ⟨g, 1, none⟩ = some (.slice v.ea c.edges.length v.ec) ∧ w'.cell? ⟨g, 2, none⟩ = some (.slice v.ra c.rules.length v.rc) ∧ w'.cell? ⟨g, 3, none⟩ = some (.slice v.ga c.grants.length v.gc)) (go_keep) (first | (go_at_call 57; refine (HL2.out).mono ?_; rintro e w2 ⟨rfl, hb2⟩; have HG2 := hide (show RBox w2 g c v rv av from Below.row hb2 HGA.out HGA.out.lt); have HM2 := hide (Below.row hb2 HMA.out (lt_of_row HMA.out)); obtain ⟨s0, s1', s2', s3⟩ := HG2.out.cells; have s4 : w2.cell? ⟨wo.heap.size, 1, none⟩ = some (.int .i64 mk2) := by rw [cell_of_row _ _ _ _ _ _ HM2.out]; rfl))) | fail "no"
      have HB2 := hide (Below.row hb2 HBA.out (lt_of_row HBA.out))
      have hbel2 := hbA.drew.trans (hb2.mono hbA.drew.size)
      have e0 : w2.cell? ⟨wo.heap.size, 0, none⟩ = some (.int .i64 mk1) := by rw [cell_of_row _ _ _ _ _ _ HM2.out]; rfl
      have e2 : w2.cell? ⟨wo.heap.size, 2, none⟩ = some (.int .i64 mk3) := by rw [cell_of_row _ _ _ _ _ _ HM2.out]; rfl
      have f1 : w2.cell? ⟨w.heap.size, 1, none⟩ = some (.int .i64 xo) := by rw [cell_of_row _ _ _ _ _ _ HB2.out]; rfl
      clear hb2 qm1 q0 q1 q2 q3 b1 b2 d0 d1 d2
      rw [HST.out] at HS
      cases hle : c.le mk2 d
      · have HT := hide (show seenTo c xo d xm (k + 1) = (s1, s2) by rw [HS.out]; simp [seenS, hle])
        clear hle
        go_wp2
        go_roundw
        case rel => exact ⟨k + 1, s1, s2, by omega, by go_num, rfl, rfl, HT.out, hs1, HB2.out, hbel2⟩
        case measure => simp [intOf]; omega
      · cases h3 : ((mk1 : Int) == 3)
        · have h3' : (mk1 == 3) = false := by simpa using (show ¬ mk1 = 3 by have := h3; simp at this; omega)
          cases h4 : ((mk1 : Int) == 4)
          · have h4' : (mk1 == 4) = false := by simpa using (show ¬ mk1 = 4 by have := h4; simp at this; omega)
            have HT := hide (show seenTo c xo d xm (k + 1) = (s1, s2) by rw [HS.out]; simp [seenS, hle, h3', h4'])
            clear hle h3' h4'
            go_wp2
            go_roundw
            case rel => exact ⟨k + 1, s1, s2, by omega, by go_num, rfl, rfl, HT.out, hs1, HB2.out, hbel2⟩
            case measure => simp [intOf]; omega
          · have h4' : (mk1 == 4) = true := by simpa using (show mk1 = 4 by have := h4; simp at this; omega)
            have HT := hide (show seenTo c xo d xm (k + 1) = (xo, true) by rw [HS.out]; simp [seenS, hle, h3', h4'])
            clear hle h3' h4'
            go_wp2
            go_roundw
            case rel => exact ⟨k + 1, xo, true, by omega, by go_num, rfl, rfl, HT.out, HO.out, HB2.out, hbel2⟩
            case measure => simp [intOf]; omega
        · have h3' : (mk1 == 3) = true := by simpa using (show mk1 = 3 by have := h3; simp at this; omega)
          obtain ⟨j, hj, hjj⟩ := HJN.out s1 mk3 hs1 m2
          have HT := hide (show seenTo c xo d xm (k + 1) = (j, false) by rw [HS.out]; simp [seenS, hle, h3', hjj])
          have HJ2 := hide (HJO.out s1 mk3 w2.drew hs1 m2 hbel2.drew)
          rw [hjj] at HJ2
          clear hle h3' hjj
          go_wp2_with fail
          first | (go_region_held (fun w' => w'.cell? ⟨wo.heap.size, 2, none⟩ = some (.int .i64 mk3) ∧ w'.cell? ⟨g, 0, none⟩ = some (.int .i64 c.labels) ∧ w'.cell? ⟨g, 1, none⟩ = some (.slice v.ea c.edges.length v.ec) ∧ w'.cell? ⟨g, 2, none⟩ = some (.slice v.ra c.rules.length v.rc) ∧ w'.cell? ⟨g, 3, none⟩ = some (.slice v.ga c.grants.length v.gc)) (go_keep) (first | (go_at_call 58; refine (HJ2.out).mono ?_; rintro e w3 ⟨rfl, hb3⟩; obtain ⟨t0, t1, t2, t3⟩ := (show RBox w3 g c v rv av from Below.row hb3 HG2.out HG2.out.lt).cells; have t4 : w3.cell? ⟨wo.heap.size, 2, none⟩ = some (.int .i64 mk3) := by rw [cell_of_row _ _ _ _ _ _ (Below.row hb3 HM2.out (lt_of_row HM2.out))]; rfl))) | fail "no"
          have HB3 := hide (Below.row hb3 HB2.out (lt_of_row HB2.out))
          have hbel3 := hbel2.drew.trans (hb3.mono hbel2.drew.size)
          go_wp2
          go_roundw
          case rel => exact ⟨k + 1, j, false, by omega, by go_num, rfl, rfl, HT.out, hj, HB3.out, hbel3⟩
          case measure => simp [intOf]; omega
    · obtain rfl : k = xm.length := by omega
      have HR := hide (show seenF c ⟨xb, xo, xm⟩ d = (s1, s2) by rw [HSF.out, HST.out])
      go_wp2
      go_ret2
      exact ⟨by rw [HR.out]; rfl, hbel⟩
end Go.Proofs.YthgcpjdlcooncaaGreat
namespace Go.Proofs.YthgcpjdlcooncaaGreat
section
variable {P : Program} {ops : Array Oper} {Q : Exit → Act → World → Prop} {md : Region.Mode} {S : World → Prop} {fuel : Nat} {listed : Array Bool} {a : Act} {w : World}
theorem takeU (i : Nat) (d : Option Tmp) (hd : (ops[i]?).map (·.dst) = some d) (hw : ((ops[i]?).map fun o => Region.wanted o (yielded ops a.tmps)) = some false)
    (hs : Region.noSelect ops = true) (hf : Region.free md ops listed i = true) (hr : (Region.ready md ops listed).contains i = true)
    (hQ : ∀ c a w, Q (.panic c) (a.put d undef) w → Q (.panic c) a w) (hS : S w)
    (h : wpAnyH P md ops Q S fuel (listed.setIfInBounds i true) (a.put d undef) w) : wpAnyH P md ops Q S (fuel + 1) listed a w := by
  cases ho : ops[i]? with
  | none => rw [ho] at hd; cases hd
  | some o =>
    rw [ho] at hd hw
    obtain rfl := Option.some.inj hd
    exact wpAnyH_take ho hs hf hr hQ (Or.inr ⟨Option.some.inj hw, rfl⟩) hS h
theorem takeW (i : Nat) (d : Option Tmp) (v : Value) (hd : (ops[i]?).map (·.dst) = some d) (hw : ((ops[i]?).map fun o => Region.wanted o (yielded ops a.tmps)) = some true)
    (hs : Region.noSelect ops = true) (hf : Region.free md ops listed i = true) (hr : (Region.ready md ops listed).contains i = true)
    (hQ : ∀ c a w, Q (.panic c) (a.put d v) w → Q (.panic c) a w) (hy : ∀ o, ops[i]? = some o → ∀ w, S w → (execOp a.eval o).run P w = .ok (.value v) w) (hS : S w)
    (h : wpAnyH P md ops Q S fuel (listed.setIfInBounds i true) (a.put d v) w) : wpAnyH P md ops Q S (fuel + 1) listed a w := by
  cases ho : ops[i]? with
  | none => rw [ho] at hd; cases hd
  | some o =>
    rw [ho] at hd hw
    obtain rfl := Option.some.inj hd
    exact wpAnyH_take ho hs hf hr hQ (Or.inl ⟨Option.some.inj hw, hy o ho⟩) hS h
end
end Go.Proofs.YthgcpjdlcooncaaGreat
namespace Go.Proofs.YthgcpjdlcooncaaGreat
open Go.RowKit Veil
def kindN (b : Nat) : Nat := if 97 ≤ b ∧ b ≤ 122 then 97 else if 48 ≤ b ∧ b ≤ 57 then 48 else 0
set_option maxHeartbeats 400000 in
theorem rkind_any (b : Nat) (w : World) : Calls Tryz.prog 116 #[.int .u8 b] w fun e w' => e = .returned (.int .u8 (kindN b)) ∧ w = w' := by
  by_cases h1 : 97 ≤ b
  · by_cases h2 : b ≤ 122
    · have HK := hide (show kindN b = 97 by simp [kindN, h1, h2])
      have h1' : (97 : Int) ≤ (b : Int) := by omega
      have h2' : (b : Int) ≤ 122 := by omega
      clear h1 h2
      go_enter Tryz.func116, Tryz.ntmps116
      go_wp2
      go_ret
      exact ⟨by rw [HK.out]; rfl, rfl⟩
    · have HK := hide (show kindN b = 0 by unfold kindN; rw [if_neg (by omega), if_neg (by omega)])
      have h1' : (97 : Int) ≤ (b : Int) := by omega
      have h2' : (122 : Int) < (b : Int) := by omega
      have h3' : (48 : Int) ≤ (b : Int) := by omega
      have h4' : (57 : Int) < (b : Int) := by omega
      clear h1 h2
      go_enter Tryz.func116, Tryz.ntmps116
      go_wp2
      go_ret
      exact ⟨by rw [HK.out]; rfl, rfl⟩
  · have h1' : (b : Int) < 97 := by omega
    by_cases h3 : 48 ≤ b
    · have h3' : (48 : Int) ≤ (b : Int) := by omega
      by_cases h4 : b ≤ 57
      · have HK := hide (show kindN b = 48 by unfold kindN; rw [if_neg (by omega), if_pos (by omega)])
        have h4' : (b : Int) ≤ 57 := by omega
        clear h1 h3 h4
        go_enter Tryz.func116, Tryz.ntmps116
        go_wp2
        go_ret
        exact ⟨by rw [HK.out]; rfl, rfl⟩
      · have HK := hide (show kindN b = 0 by unfold kindN; rw [if_neg (by omega), if_neg (by omega)])
        have h4' : (57 : Int) < (b : Int) := by omega
        clear h1 h3 h4
        go_enter Tryz.func116, Tryz.ntmps116
        go_wp2
        go_ret
        exact ⟨by rw [HK.out]; rfl, rfl⟩
    · have HK := hide (show kindN b = 0 by unfold kindN; rw [if_neg (by omega), if_neg (by omega)])
      have h3' : (b : Int) < 48 := by omega
      clear h1 h3
      go_enter Tryz.func116, Tryz.ntmps116
      go_wp2
      go_ret
      exact ⟨by rw [HK.out]; rfl, rfl⟩
def strikes (c : Cfg) (text : ByteArray) (d : Nat) (r : ByteArray × Int) : Bool := cutB (bytes r.1) (bytes text) && !c.le r.2 d
def struckB (c : Cfg) (text : ByteArray) (d : Nat) : Bool := c.rules.any (strikes c text d)
set_option maxRecDepth 100000 in
set_option maxHeartbeats 8000000 in
theorem rstruck_any (c : Cfg) (v : CfgV) (rv av : Value) (g : Nat) (text : ByteArray) (d : Nat) (w : World) (hl : labelsB c = true) (hok : CfgOk c) (hat : CfgAt w c v) (hbox : RBox w g c v rv av) (hrl : ∀ r, r ∈ c.rules → okL c.labels r.2 = true) (hd : d < c.n) (ht : text.size ≤ 140737488355328) :
    Calls Tryz.prog 134 #[.pointer (some ⟨g, 0, none⟩), .string text, .int .i64 d] w fun e w' => e = .returned (.bool (struckB c text d)) ∧ Below w.heap.size w w' := by
  obtain ⟨_, _, _, _, hn, _, _⟩ := labels_of hl
  have HLE := hide (fun (a : Nat) (w' : World) (ha : a < c.n) (hb : Below w.heap.size w w') => rleq_any c v a d w' hl (hat.below hb) ha hd)
  have HMT := hide (fun (s : ByteArray) (w' : World) (hs : s.size ≤ 140737488355328) => rmatch_any s text w' (by simp only [maxLen]; omega) ht)
  have HTX := hide hok.texts
  have HRL := hide (fun r hr => okL_nat' hn (hrl r hr))
  have hRl := hok.rules
  obtain ⟨rb, ro, hra, hblt, hcells⟩ : ∃ rb ro, (c.rules = [] ∨ v.ra = some ⟨rb, ro, none⟩) ∧ (c.rules = [] ∨ rb < w.heap.size) ∧ ∀ i p, c.rules[i]? = some p → w.cell? ⟨rb, ro + i * 2, none⟩ = some (xR p) ∧ w.cell? ⟨rb, ro + i * 2 + 1, none⟩ = some (yR p) := by
    rcases hat.rules with h | ⟨b, off, h, h1, h2⟩
    · exact ⟨0, 0, Or.inl h, Or.inl h, fun i p hp => by rw [show c.rules = [] from h] at hp; simp at hp⟩
    · exact ⟨b, off, Or.inr h, Or.inr h1, h2⟩
  have HC := hide hcells
  have HA := hide hra
  have HBL := hide hblt
  have HBX := hide hbox
  have hgl := hbox.lt
  clear hl hok hat hbox hrl hra hblt hcells hn
  unfold cfgCells at *
  go_enter Tryz.func134, Tryz.ntmps134
  go_wp2
  go_loopw [7] (fun i wr => ∃ k : Nat, k ≤ c.rules.length ∧ i = .int .i64 k ∧ (c.rules.take k).any (strikes c text d) = false ∧ Below w.heap.size w wr) (fun i _ => c.rules.length - (intOf i).toNat)
  case atStart => exact ⟨0, Nat.zero_le _, rfl, rfl, Below.refl _ _⟩
  case round =>
    obtain ⟨wo, rfl⟩ : ∃ x, x = wr := ⟨_, rfl⟩
    obtain ⟨k, hk, rfl, hno, hbel⟩ := hrel
    have HNO := hide hno
    have hgo : g < wo.heap.size := Nat.lt_of_lt_of_le hgl hbel.size
    have HB := hide (HBX.out.below hbel hgl)
    obtain ⟨q0, q1, q2, q3⟩ := HB.out.cells
    clear hno
    by_cases hlt : k < c.rules.length
    · have hne : c.rules ≠ [] := fun e => by rw [e] at hlt; simp at hlt
      have hra : v.ra = some ⟨rb, ro, none⟩ := HA.out.resolve_left hne
      have hbl : rb < w.heap.size := HBL.out.resolve_left hne
      have hej : c.rules[k]? = some c.rules[k] := List.getElem?_eq_getElem hlt
      obtain ⟨c1, c2⟩ := HC.out k _ hej
      obtain ⟨y, hy0, hy⟩ := HRL.out _ (List.getElem_mem hlt)
      have htx := HTX.out _ (List.getElem_mem hlt)
      have HS := hide (any_snoc (strikes c text d) c.rules k _ hej)
      have HM := hide (any_mem (strikes c text d) c.rules k _ hej)
      generalize c.rules[k] = r at *
      obtain ⟨r1, r2⟩ := r
      simp only at hy0 htx
      subst hy0
      have d1 : wo.cell? ⟨rb, ro + k * 2, none⟩ = some (.string r1) := (hbel.cell (p := ⟨rb, ro + k * 2, none⟩) hbl).trans c1
      have d2 : wo.cell? ⟨rb, ro + k * 2 + 1, none⟩ = some (.int .i64 y) := (hbel.cell (p := ⟨rb, ro + k * 2 + 1, none⟩) hbl).trans c2
      have hili : (k : Int) < (c.rules.length : Int) := by omega
      rw [hra] at q2
      have hbA : Below w.heap.size w (wo.alloc (.cells #[.string r1, .int .i64 y] 96)) := hbel.alloc hbel.size _
      have HMA := hide (Go.heap_alloc_new wo (.cells #[.string r1, .int .i64 y] 96))
      have HGA := hide (HBX.out.below hbA hgl)
      have HMT2 := hide (HMT.out r1 (wo.alloc (.cells #[.string r1, .int .i64 y] 96)).drew htx)
      have HVR := hide hra
      clear hej c1 c2 hne hra htx
      cases hcut : cutB (bytes r1) (bytes text)
      · have HZ := hide (show (c.rules.take (k + 1)).any (strikes c text d) = false by rw [HS.out, HNO.out]; simp [strikes, hcut])
        rw [hcut] at HMT2
        clear hcut
        have qr0 : (wo.alloc (.cells #[.string r1, .int .i64 y] 96)).cell? ⟨wo.heap.size, 0, none⟩ = some (.string r1) := by rw [cell_of_row _ _ _ _ _ _ HMA.out]; rfl
        go_wp2_with fail
        refine wp_region_held_drew (S := fun w' => w'.cell? ⟨wo.heap.size, 0, none⟩ = some (.string r1)) (by kernel_rfl) ?_ (fun hHeld => ?_)
        · (try dsimp only); go_keep
        refine takeW 0 (some 27) ?_ rfl rfl (by kernel_rfl) (by kernel_rfl) (by kernel_rfl) (fun _ _ _ h => h) ?_ (by assumption) ?_
        rotate_left 1
        · (intro o ho w hSw; obtain rfl := Option.some.inj ho; clear ho; (try dsimp only at hSw); go_simp; try (with_reducible rfl))
        (try simp only [Act.put, List.setIfInBounds_toArray, List.set_cons_zero, List.set_cons_succ])
        refine takeW 1 (some 28) ?_ rfl rfl (by kernel_rfl) (by kernel_rfl) (by kernel_rfl) (fun _ _ _ h => h) ?_ (by assumption) ?_
        rotate_left 1
        · (intro o ho w hSw; obtain rfl := Option.some.inj ho; clear ho; (try dsimp only at hSw); go_simp; try (with_reducible rfl))
        (try simp only [Act.put, List.setIfInBounds_toArray, List.set_cons_zero, List.set_cons_succ])
        refine takeW 2 (some 29) ?_ rfl rfl (by kernel_rfl) (by kernel_rfl) (by kernel_rfl) (fun _ _ _ h => h) ?_ (by assumption) ?_
        rotate_left 1
        · (intro o ho w hSw; obtain rfl := Option.some.inj ho; clear ho; (try dsimp only at hSw); go_simp; try (with_reducible rfl))
        (try simp only [Act.put, List.setIfInBounds_toArray, List.set_cons_zero, List.set_cons_succ])
        refine wpAnyH_ready (rs := [3]) (by kernel_rfl) (by simp) ?_
        refine AllReadyH.cons rfl (fun K hK => ?_) AllReadyH.nil
        go_simp
        go_wp2_with (go_at_call 27; refine (HMT2.out).mono ?_; rintro e w2 ⟨rfl, hb2⟩; have s4 : w2.cell? ⟨wo.heap.size, 0, none⟩ = some (.string r1) := by rw [cell_of_row _ _ _ _ _ _ (Below.row hb2 HMA.out (lt_of_row HMA.out))]; rfl)
        refine hK.out _ _ ?_ (fun hHeld => ?_)
        · (try dsimp only); go_keep
        clear hK K
        refine takeW 4 (some 31) ?_ rfl rfl (by kernel_rfl) (by kernel_rfl) (by kernel_rfl) (fun _ _ _ h => h) ?_ (by assumption) ?_
        rotate_left 1
        · (intro o ho w hSw; obtain rfl := Option.some.inj ho; clear ho; (try dsimp only at hSw); go_simp; try (with_reducible rfl))
        (try simp only [Act.put, List.setIfInBounds_toArray, List.set_cons_zero, List.set_cons_succ])
        refine takeU 5 (some 32) rfl rfl (by kernel_rfl) (by kernel_rfl) (by kernel_rfl) (fun _ _ _ h => h) (by assumption) ?_
        (try simp only [Act.put, List.setIfInBounds_toArray, List.set_cons_zero, List.set_cons_succ])
        refine takeU 6 (some 33) rfl rfl (by kernel_rfl) (by kernel_rfl) (by kernel_rfl) (fun _ _ _ h => h) (by assumption) ?_
        (try simp only [Act.put, List.setIfInBounds_toArray, List.set_cons_zero, List.set_cons_succ])
        refine takeU 7 (some 34) rfl rfl (by kernel_rfl) (by kernel_rfl) (by kernel_rfl) (fun _ _ _ h => h) (by assumption) ?_
        (try simp only [Act.put, List.setIfInBounds_toArray, List.set_cons_zero, List.set_cons_succ])
        refine takeU 8 (some 35) rfl rfl (by kernel_rfl) (by kernel_rfl) (by kernel_rfl) (fun _ _ _ h => h) (by assumption) ?_
        (try simp only [Act.put, List.setIfInBounds_toArray, List.set_cons_zero, List.set_cons_succ])
        refine takeU 9 (some 36) rfl rfl (by kernel_rfl) (by kernel_rfl) (by kernel_rfl) (fun _ _ _ h => h) (by assumption) ?_
        (try simp only [Act.put, List.setIfInBounds_toArray, List.set_cons_zero, List.set_cons_succ])
        refine takeU 10 (some 37) rfl rfl (by kernel_rfl) (by kernel_rfl) (by kernel_rfl) (fun _ _ _ h => h) (by assumption) ?_
        (try simp only [Act.put, List.setIfInBounds_toArray, List.set_cons_zero, List.set_cons_succ])
        refine takeU 11 (some 38) rfl rfl (by kernel_rfl) (by kernel_rfl) (by kernel_rfl) (fun _ _ _ h => h) (by assumption) ?_
        (try simp only [Act.put, List.setIfInBounds_toArray, List.set_cons_zero, List.set_cons_succ])
        refine takeU 12 (some 39) rfl rfl (by kernel_rfl) (by kernel_rfl) (by kernel_rfl) (fun _ _ _ h => h) (by assumption) ?_
        (try simp only [Act.put, List.setIfInBounds_toArray, List.set_cons_zero, List.set_cons_succ])
        refine takeU 13 (some 40) rfl rfl (by kernel_rfl) (by kernel_rfl) (by kernel_rfl) (fun _ _ _ h => h) (by assumption) ?_
        (try simp only [Act.put, List.setIfInBounds_toArray, List.set_cons_zero, List.set_cons_succ])
        refine takeW 14 (some 41) ?_ rfl rfl (by kernel_rfl) (by kernel_rfl) (by kernel_rfl) (fun _ _ _ h => h) ?_ (by assumption) ?_
        rotate_left 1
        · (intro o ho w hSw; obtain rfl := Option.some.inj ho; clear ho; (try dsimp only at hSw); go_simp; try (with_reducible rfl))
        (try simp only [Act.put, List.setIfInBounds_toArray, List.set_cons_zero, List.set_cons_succ])
        refine wpAnyH_done (by kernel_rfl) ?_ _
        have hbel2 := hbA.drew.trans (hb2.mono hbA.drew.size)
        go_wp2
        go_roundw
        case rel => exact ⟨k + 1, by omega, by go_num, HZ.out, hbel2⟩
        case measure => simp [intOf]; omega
      · have HL2 := hide (fun (w' : World) (hb : Below w.heap.size w w') => HLE.out y w' hy hb)
        rw [hcut] at HMT2
        have HST := hide (show strikes c text d (r1, (y : Int)) = !c.le y d by simp [strikes, hcut])
        rw [HST.out] at HS HM
        clear hcut
        have qr0 : (wo.alloc (.cells #[.string r1, .int .i64 y] 96)).cell? ⟨wo.heap.size, 0, none⟩ = some (.string r1) := by rw [cell_of_row _ _ _ _ _ _ HMA.out]; rfl
        have qr1 : (wo.alloc (.cells #[.string r1, .int .i64 y] 96)).cell? ⟨wo.heap.size, 1, none⟩ = some (.int .i64 y) := by rw [cell_of_row _ _ _ _ _ _ HMA.out]; rfl
        obtain ⟨p0, p1, p2, p3⟩ := HGA.out.cells
        go_wp2_with fail
        refine wp_region_held_drew (S := fun w' => w'.cell? ⟨wo.heap.size, 0, none⟩ = some (.string r1) ∧ w'.cell? ⟨wo.heap.size, 1, none⟩ = some (.int .i64 y) ∧ w'.cell? ⟨g, 0, none⟩ = some (.int .i64 c.labels) ∧ w'.cell? ⟨g, 1, none⟩ = some (.slice v.ea c.edges.length v.ec) ∧ w'.cell? ⟨g, 2, none⟩ = some (.slice v.ra c.rules.length v.rc) ∧ w'.cell? ⟨g, 3, none⟩ = some (.slice v.ga c.grants.length v.gc)) (by kernel_rfl) ?_ (fun hHeld => ?_)
        · (try dsimp only); go_keep
        refine takeW 0 (some 27) ?_ rfl rfl (by kernel_rfl) (by kernel_rfl) (by kernel_rfl) (fun _ _ _ h => h) ?_ (by assumption) ?_
        rotate_left 1
        · (intro o ho w hSw; obtain rfl := Option.some.inj ho; clear ho; (try dsimp only at hSw); go_simp; try (with_reducible rfl))
        (try simp only [Act.put, List.setIfInBounds_toArray, List.set_cons_zero, List.set_cons_succ])
        refine takeW 1 (some 28) ?_ rfl rfl (by kernel_rfl) (by kernel_rfl) (by kernel_rfl) (fun _ _ _ h => h) ?_ (by assumption) ?_
        rotate_left 1
        · (intro o ho w hSw; obtain rfl := Option.some.inj ho; clear ho; (try dsimp only at hSw); go_simp; try (with_reducible rfl))
        (try simp only [Act.put, List.setIfInBounds_toArray, List.set_cons_zero, List.set_cons_succ])
        refine takeW 2 (some 29) ?_ rfl rfl (by kernel_rfl) (by kernel_rfl) (by kernel_rfl) (fun _ _ _ h => h) ?_ (by assumption) ?_
        rotate_left 1
        · (intro o ho w hSw; obtain rfl := Option.some.inj ho; clear ho; (try dsimp only at hSw); go_simp; try (with_reducible rfl))
        (try simp only [Act.put, List.setIfInBounds_toArray, List.set_cons_zero, List.set_cons_succ])
        refine wpAnyH_ready (rs := [3]) (by kernel_rfl) (by simp) ?_
        refine AllReadyH.cons rfl (fun K hK => ?_) AllReadyH.nil
        go_simp
        go_wp2_with (go_at_call 27; refine (HMT2.out).mono ?_; rintro e w2 ⟨rfl, hb2⟩; have HG2 := hide (show RBox w2 g c v rv av from Below.row hb2 HGA.out HGA.out.lt); have HM2 := hide (Below.row hb2 HMA.out (lt_of_row HMA.out)); obtain ⟨sa2, sb2, sc2, sd2⟩ := HG2.out.cells; have se2 : w2.cell? ⟨wo.heap.size, 0, none⟩ = some (.string r1) := (cell_of_row _ _ _ _ _ _ HM2.out).trans rfl; have sf2 : w2.cell? ⟨wo.heap.size, 1, none⟩ = some (.int .i64 y) := (cell_of_row _ _ _ _ _ _ HM2.out).trans rfl; have hbel2 := hbA.drew.trans (hb2.mono hbA.drew.size))
        refine hK.out _ _ ?_ (fun hHeld => ?_)
        · (try dsimp only); go_keep
        clear hK K
        refine takeW 4 (some 31) ?_ rfl rfl (by kernel_rfl) (by kernel_rfl) (by kernel_rfl) (fun _ _ _ h => h) ?_ (by assumption) ?_
        rotate_left 1
        · (intro o ho w hSw; obtain rfl := Option.some.inj ho; clear ho; (try dsimp only at hSw); go_simp; try (with_reducible rfl))
        (try simp only [Act.put, List.setIfInBounds_toArray, List.set_cons_zero, List.set_cons_succ])
        refine takeW 5 (some 32) ?_ rfl rfl (by kernel_rfl) (by kernel_rfl) (by kernel_rfl) (fun _ _ _ h => h) ?_ (by assumption) ?_
        rotate_left 1
        · (intro o ho w hSw; obtain rfl := Option.some.inj ho; clear ho; (try dsimp only at hSw); go_simp; try (with_reducible rfl))
        (try simp only [Act.put, List.setIfInBounds_toArray, List.set_cons_zero, List.set_cons_succ])
        refine takeW 6 (some 33) ?_ rfl rfl (by kernel_rfl) (by kernel_rfl) (by kernel_rfl) (fun _ _ _ h => h) ?_ (by assumption) ?_
        rotate_left 1
        · (intro o ho w hSw; obtain rfl := Option.some.inj ho; clear ho; (try dsimp only at hSw); go_simp; try (with_reducible rfl))
        (try simp only [Act.put, List.setIfInBounds_toArray, List.set_cons_zero, List.set_cons_succ])
        refine takeW 7 (some 34) ?_ rfl rfl (by kernel_rfl) (by kernel_rfl) (by kernel_rfl) (fun _ _ _ h => h) ?_ (by assumption) ?_
        rotate_left 1
        · (intro o ho w hSw; obtain rfl := Option.some.inj ho; clear ho; (try dsimp only at hSw); go_simp; try (with_reducible rfl))
        (try simp only [Act.put, List.setIfInBounds_toArray, List.set_cons_zero, List.set_cons_succ])
        refine takeW 8 (some 35) ?_ rfl rfl (by kernel_rfl) (by kernel_rfl) (by kernel_rfl) (fun _ _ _ h => h) ?_ (by assumption) ?_
        rotate_left 1
        · (intro o ho w hSw; obtain rfl := Option.some.inj ho; clear ho; (try dsimp only at hSw); go_simp; try (with_reducible rfl))
        (try simp only [Act.put, List.setIfInBounds_toArray, List.set_cons_zero, List.set_cons_succ])
        refine takeW 9 (some 36) ?_ rfl rfl (by kernel_rfl) (by kernel_rfl) (by kernel_rfl) (fun _ _ _ h => h) ?_ (by assumption) ?_
        rotate_left 1
        · (intro o ho w hSw; obtain rfl := Option.some.inj ho; clear ho; (try dsimp only at hSw); go_simp; try (with_reducible rfl))
        (try simp only [Act.put, List.setIfInBounds_toArray, List.set_cons_zero, List.set_cons_succ])
        refine takeW 10 (some 37) ?_ rfl rfl (by kernel_rfl) (by kernel_rfl) (by kernel_rfl) (fun _ _ _ h => h) ?_ (by assumption) ?_
        rotate_left 1
        · (intro o ho w hSw; obtain rfl := Option.some.inj ho; clear ho; (try dsimp only at hSw); go_simp; try (with_reducible rfl))
        (try simp only [Act.put, List.setIfInBounds_toArray, List.set_cons_zero, List.set_cons_succ])
        refine takeW 11 (some 38) ?_ rfl rfl (by kernel_rfl) (by kernel_rfl) (by kernel_rfl) (fun _ _ _ h => h) ?_ (by assumption) ?_
        rotate_left 1
        · (intro o ho w hSw; obtain rfl := Option.some.inj ho; clear ho; (try dsimp only at hSw); go_simp; try (with_reducible rfl))
        (try simp only [Act.put, List.setIfInBounds_toArray, List.set_cons_zero, List.set_cons_succ])
        refine wpAnyH_ready (rs := [12]) (by kernel_rfl) (by simp) ?_
        refine AllReadyH.cons rfl (fun K hK => ?_) AllReadyH.nil
        go_simp
        go_wp2_with (go_at_call 57; refine (HL2.out _ hbel2).mono ?_; rintro e w3 ⟨rfl, hb3⟩; have HG3 := hide (show RBox w3 g c v rv av from Below.row hb3 HG2.out HG2.out.lt); have HM3 := hide (Below.row hb3 HM2.out (lt_of_row HM2.out)); obtain ⟨sa3, sb3, sc3, sd3⟩ := HG3.out.cells; have se3 : w3.cell? ⟨wo.heap.size, 0, none⟩ = some (.string r1) := (cell_of_row _ _ _ _ _ _ HM3.out).trans rfl; have sf3 : w3.cell? ⟨wo.heap.size, 1, none⟩ = some (.int .i64 y) := (cell_of_row _ _ _ _ _ _ HM3.out).trans rfl; have hbel3 := hbel2.trans (hb3.mono hbel2.size))
        refine hK.out _ _ ?_ (fun hHeld => ?_)
        · (try dsimp only); go_keep
        clear hK K
        refine takeW 13 (some 40) ?_ rfl rfl (by kernel_rfl) (by kernel_rfl) (by kernel_rfl) (fun _ _ _ h => h) ?_ (by assumption) ?_
        rotate_left 1
        · (intro o ho w hSw; obtain rfl := Option.some.inj ho; clear ho; (try dsimp only at hSw); go_simp; try (with_reducible rfl))
        (try simp only [Act.put, List.setIfInBounds_toArray, List.set_cons_zero, List.set_cons_succ])
        refine takeW 14 (some 41) ?_ rfl rfl (by kernel_rfl) (by kernel_rfl) (by kernel_rfl) (fun _ _ _ h => h) ?_ (by assumption) ?_
        rotate_left 1
        · (intro o ho w hSw; obtain rfl := Option.some.inj ho; clear ho; (try dsimp only at hSw); go_simp; try (with_reducible rfl))
        (try simp only [Act.put, List.setIfInBounds_toArray, List.set_cons_zero, List.set_cons_succ])
        refine wpAnyH_done (by kernel_rfl) ?_ _
        cases hle : c.le y d
        · have HT := hide (HM.out (by rw [hle]; rfl))
          clear hle HS
          go_wp2
          go_ret
          exact ⟨ret_bool HT.out.symm, hbel3⟩
        · have HZ := hide (show (c.rules.take (k + 1)).any (strikes c text d) = false by rw [HS.out, HNO.out, hle]; rfl)
          clear hle HM
          go_wp2
          go_roundw
          case rel => exact ⟨k + 1, by omega, by go_num, HZ.out, hbel3⟩
          case measure => simp [intOf]; omega
    · obtain rfl : k = c.rules.length := by omega
      have HN := hide (show struckB c text d = false by have := HNO.out; rwa [List.take_length] at this)
      go_wp2
      go_ret
      exact ⟨ret_bool HN.out.symm, hbel⟩
end Go.Proofs.YthgcpjdlcooncaaGreat
