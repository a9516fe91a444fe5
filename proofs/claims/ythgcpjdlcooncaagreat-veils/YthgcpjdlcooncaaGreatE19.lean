/- View3, DocGr. -/
import Derived.Test.YthgcpjdlcooncaaGreatE18
import Derived.Deep.RegionHeldLaw
import Derived.Test.YthgcpjdlcooncaaGreatE13
namespace Go.Proofs.YthgcpjdlcooncaaGreat
open Go.RowKit Veil
theorem Tryz.infoPPlace : (Tryz.prog.info? 148).map (fun i => (i.zero, i.size, i.bytes)) = some (some (.agg #[.int .u8 0, .int .i64 0, .int .i64 0]), 3, 24) := by kernel_rfl
def seNum (S : List Se) (j : Nat) : Nat := (seAt S j).num
theorem joinTo_length (A M : Nat → Nat) : ∀ k, (joinTo A M k).length ≤ k
  | 0 => Nat.le_refl _
  | k + 1 => by
    have := joinTo_length A M k
    rw [joinTo]
    cases (lastB (joinTo A M k) && (M k == 35))
    · simp only [cond_false, List.length_append, List.length_singleton]; omega
    · simp only [cond_true, lastTo, List.length_modify]; omega
theorem lastB_at {l : List Pl} {n : Nat} {p : Pl} (hn : l.length = n + 1) (hp : l[n]? = some p) : lastB l = (p.b == 35) := by
  unfold lastB
  rw [List.getLast?_eq_getElem?, hn, Nat.add_sub_cancel, hp]
set_option maxRecDepth 100000 in
set_option maxHeartbeats 8000000 in
theorem vwJoin_any (S : List Se) (M : Nat → Nat) (vs : Value) (w : World) (hvs : SeqV 4 seV w vs S) (hS : S.length ≤ 1000000) (hM : ∀ j, M j < 256) :
    Calls Tryz.prog 144 #[vs, .string (textF M 0 S.length)] w fun e w' => ∃ vl, e = .returned vl ∧ OwnL 148 3 placeV w' w.heap.size vl (joinTo (seNum S) M S.length) ∧ Below w.heap.size w w' := by
  obtain ⟨ao, cap, gs, rfl, hao, hcs⟩ := hvs
  have HC := hide hcs
  have HAO := hide hao
  have hsz : (textF M 0 S.length).size = S.length := by rw [textF_size]; omega
  have HBT := hide (fun (j : Nat) (h : j < (textF M 0 S.length).size) => show ((textF M 0 S.length)[j]'h).toNat = M j by rw [← bt_get _ _ h]; exact bt_textF M _ j (by omega) (hM j))
  generalize textF M 0 S.length = s at *
  clear hcs hao hM
  go_enter Tryz.func144, Tryz.ntmps144
  go_wp2
  go_loopw [5, 6] (fun vl i wr => ∃ k : Nat, k ≤ S.length ∧ i = .int .i64 k ∧ OwnL 148 3 placeV wr w.heap.size vl (joinTo (seNum S) M k) ∧ Below w.heap.size w wr) (fun _ i _ => S.length - (intOf i).toNat)
  case atStart => exact ⟨0, Nat.zero_le _, rfl, OwnL.nil _ _ _ _ _, Below.refl _ _⟩
  case round =>
    obtain ⟨wo, rfl⟩ : ∃ x, x = wr := ⟨_, rfl⟩
    obtain ⟨k, hk, rfl, hvl, hbel⟩ := hrel
    have hpl := joinTo_length (seNum S) M k
    have HPS := hide (show joinTo (seNum S) M (k + 1) = bif lastB (joinTo (seNum S) M k) && (M k == 35) then lastTo (joinTo (seNum S) M k) (seNum S k) else joinTo (seNum S) M k ++ [⟨M k, seNum S k, seNum S k⟩] from rfl)
    generalize hPL : joinTo (seNum S) M k = PL at *
    have HPL := hide hPL
    have HVL := hide hvl
    clear hvl hPL
    by_cases hlt : k < S.length
    · have hki : (k : Int) < (S.length : Int) := by omega
      have hks : k < s.size := by omega
      have hksi : (k : Int) < (s.size : Int) := by omega
      have hne : S ≠ [] := fun e => by rw [e] at hlt; simp at hlt
      obtain ⟨rfl, hgs⟩ := HAO.out.resolve_left hne
      have hej : S[k]? = some S[k] := List.getElem?_eq_getElem hlt
      have c0 := HC.out k _ hej 0 (by omega)
      have hsa : seAt S k = S[k] := by simp [seAt, List.getD, hej]
      generalize S[k] = y at *
      obtain ⟨y1, y2, y3, y4⟩ := y
      have c0' : w.cell? ⟨gs, k * 4, none⟩ = some (.int .i64 y1) := c0
      have d0 : wo.cell? ⟨gs, k * 4, none⟩ = some (.int .i64 y1) := (hbel.cell (p := ⟨gs, k * 4, none⟩) hgs).trans c0'
      clear c0
      have hmk := HBT.out k hks
      have HMK := hide hmk
      clear hej hne
      by_cases hp0 : 0 < PL.length
      · obtain ⟨n1, hn1, hn2⟩ : ∃ n1 : Nat, (PL.length : Int) - 1 = (n1 : Int) ∧ PL.length = n1 + 1 := ⟨PL.length - 1, by omega, by omega⟩
        obtain ⟨gl, cl, hvl, hBl, hgll⟩ := HVL.out.form hp0
        subst hvl
        have hn3 : (n1 : Int) < (PL.length : Int) := by omega
        have hn0 : (0 : Int) ≤ (n1 : Int) := by omega
        have hpn : PL[n1]? = some (PL[n1]'(by omega)) := List.getElem?_eq_getElem (by omega)
        generalize (PL[n1]'(by omega)) = q at *
        have l0 : wo.cell? ⟨gl, n1 * 3, none⟩ = some (.int .u8 q.b) := HVL.out.cell (show ∀ a, (placeV a).length = 3 from fun _ => rfl) rfl hpn (j := 0) (by omega)
        have l2 : wo.cell? ⟨gl, n1 * 3 + 2, none⟩ = some (.int .i64 q.last) := HVL.out.cell (show ∀ a, (placeV a).length = 3 from fun _ => rfl) rfl hpn (j := 2) (by omega)
        have HLB := hide (lastB_at hn2 hpn)
        cases hq : ((q.b : Int) == 35)
        · have hq' : (q.b == 35) = false := by simp at hq ⊢; omega
          rw [hq'] at HLB
          have HN2 := hide hn2
          clear hn2 hpn hq'
          have HPT := hide (show joinTo (seNum S) M (k + 1) = PL ++ [⟨M k, (seAt S k).num, (seAt S k).num⟩] by rw [HPS.out]; rw [HLB.out]; rfl)
          rw [hsa] at HPT
          simp only at HPT
          have ho1 := hide (Go.heap_alloc_new wo.drew (.cells #[.int .u8 (M k), .int .i64 y1, .int .i64 y1] 148))
          have hbA : Below wo.heap.size wo (wo.drew.alloc (.cells #[.int .u8 (M k), .int .i64 y1, .int .i64 y1] 148)) := (below_drew wo).alloc (Nat.le_refl _) _
          have hbbA : Below w.heap.size w (wo.drew.alloc (.cells #[.int .u8 (M k), .int .i64 y1, .int .i64 y1] 148)) := hbel.trans (hbA.mono hbel.size)
          have HVLA := hide (HVL.out.below hbA)
          rw [← hmk] at ho1 hbA hbbA HVLA
          clear hsa hmk
          go_wp2_with fail
          go_region_held_law (fun w' => w'.cell? ⟨gs, k * 4, none⟩ = some (.int .i64 y1)) (go_keep) (first | (refine step_push rfl (.tmp 48) (.tmp 63) 145 rfl (.agg #[.int .u8 0, .int .i64 0, .int .i64 0]) 24 Tryz.underlying145 Tryz.infoPPlace rfl (by decide) rfl HVLA.out wo.heap.size 1 ⟨s[k].toNat, y1, y1⟩ rfl 148 (0, 0) ho1.out rfl (by intro u hu; simp [placeV] at hu; rcases hu with rfl | rfl | rfl <;> rfl) (by omega) (by decide) hbbA.size (wo.heap.size + 1) (by simp) ?_; intro gl6 cap6 w6 hown6 hgrow6 hat6 hlt6; have hbb7 := hbbA.trans (below_of_grown hgrow6 (fun b hb => (HVLA.out.lt hb).1) hbbA.size); have z1 := (hbb7.cell (p := ⟨gs, k * 4, none⟩) hgs).trans c0'))
          have hbb6 := hbbA.trans (below_of_grown hgrow6 (fun b hb => (HVLA.out.lt hb).1) hbbA.size)
          go_wp2
          go_roundw
          case rel => exact ⟨k + 1, by omega, by go_num, by rw [HPT.out, ← HMK.out]; exact hown6, hbb6⟩
          case measure => simp [intOf]; omega
        · have hq' : (q.b == 35) = true := by simp at hq ⊢; omega
          rw [hq'] at HLB
          cases hm35 : (((s[k].toNat : Nat) : Int) == 35)
          · have hm35' : (M k == 35) = false := by rw [← HMK.out]; simp at hm35 ⊢; omega
            have HM35 := hide hm35'
            have HN2 := hide hn2
            clear hn2 hpn hq' hm35'
            have HPT := hide (show joinTo (seNum S) M (k + 1) = PL ++ [⟨M k, (seAt S k).num, (seAt S k).num⟩] by rw [HPS.out]; rw [HLB.out, HM35.out]; rfl)
            rw [hsa] at HPT
            simp only at HPT
            have ho1 := hide (Go.heap_alloc_new wo.drew (.cells #[.int .u8 (M k), .int .i64 y1, .int .i64 y1] 148))
            have hbA : Below wo.heap.size wo (wo.drew.alloc (.cells #[.int .u8 (M k), .int .i64 y1, .int .i64 y1] 148)) := (below_drew wo).alloc (Nat.le_refl _) _
            have hbbA : Below w.heap.size w (wo.drew.alloc (.cells #[.int .u8 (M k), .int .i64 y1, .int .i64 y1] 148)) := hbel.trans (hbA.mono hbel.size)
            have HVLA := hide (HVL.out.below hbA)
            rw [← hmk] at ho1 hbA hbbA HVLA
            clear hsa hmk
            go_wp2_with fail
            go_region_held_law (fun w' => w'.cell? ⟨gs, k * 4, none⟩ = some (.int .i64 y1)) (go_keep) (first | (refine step_push rfl (.tmp 48) (.tmp 63) 145 rfl (.agg #[.int .u8 0, .int .i64 0, .int .i64 0]) 24 Tryz.underlying145 Tryz.infoPPlace rfl (by decide) rfl HVLA.out wo.heap.size 1 ⟨s[k].toNat, y1, y1⟩ rfl 148 (0, 0) ho1.out rfl (by intro u hu; simp [placeV] at hu; rcases hu with rfl | rfl | rfl <;> rfl) (by omega) (by decide) hbbA.size (wo.heap.size + 1) (by simp) ?_; intro gl6 cap6 w6 hown6 hgrow6 hat6 hlt6; have hbb7 := hbbA.trans (below_of_grown hgrow6 (fun b hb => (HVLA.out.lt hb).1) hbbA.size); have z1 := (hbb7.cell (p := ⟨gs, k * 4, none⟩) hgs).trans c0'))
            have hbb6 := hbbA.trans (below_of_grown hgrow6 (fun b hb => (HVLA.out.lt hb).1) hbbA.size)
            go_wp2
            go_roundw
            case rel => exact ⟨k + 1, by omega, by go_num, by rw [HPT.out, ← HMK.out]; exact hown6, hbb6⟩
            case measure => simp [intOf]; omega
          · have hm35' : (M k == 35) = true := by rw [← HMK.out]; simp at hm35 ⊢; omega
            obtain ⟨_, _, _, hrw, _⟩ := HVL.out.row (g := gl) rfl
            have fz : wo.frozen? ⟨gl, n1 * 3 + 2, none⟩ = false := frozen_of_row _ _ _ _ _ hrw
            have HSET := hide (HVL.out.set (show ∀ a, (placeV a).length = 3 from fun _ => rfl) (g := gl) rfl hpn (j := 2) (by omega) (u := .int .i64 y1) (a' := ⟨q.b, q.first, y1⟩) rfl)
            have HLS := hide (lastTo_set hn2 hpn y1)
            have HPT := hide (show joinTo (seNum S) M (k + 1) = lastTo PL (seNum S k) by rw [HPS.out, HLB.out, hm35']; rfl)
            have HSN := hide (show seNum S k = y1 by unfold seNum; rw [hsa])
            have HN2 := hide hn2
            clear hn2 hpn hq' hm35' hrw hsa hmk
            go_wp2
            go_roundw
            case rel => exact ⟨k + 1, by omega, by go_num, by rw [HPT.out, HSN.out, HLS.out]; exact HSET.out, hbel.setCell (by dsimp only; omega) _⟩
            case measure => simp [intOf]; omega
      · have hpz : PL = [] := List.eq_nil_of_length_eq_zero (by omega)
        subst hpz
        have hvn : ∃ c0, OwnL 148 3 placeV wo w.heap.size (.slice none 0 c0) ([] : List Pl) := ⟨0, OwnL.nil _ _ _ _ _⟩
        clear hvn
        obtain ⟨ao2, cap2, hvv⟩ := HVL.out.shape
        simp only [List.length_nil] at hvv
        subst hvv
        have HPT := hide (show joinTo (seNum S) M (k + 1) = [] ++ [⟨M k, (seAt S k).num, (seAt S k).num⟩] by rw [HPS.out]; rfl)
        rw [hsa] at HPT
        simp only at HPT
        have ho1 := hide (Go.heap_alloc_new wo.drew (.cells #[.int .u8 (M k), .int .i64 y1, .int .i64 y1] 148))
        have hbA : Below wo.heap.size wo (wo.drew.alloc (.cells #[.int .u8 (M k), .int .i64 y1, .int .i64 y1] 148)) := (below_drew wo).alloc (Nat.le_refl _) _
        have hbbA : Below w.heap.size w (wo.drew.alloc (.cells #[.int .u8 (M k), .int .i64 y1, .int .i64 y1] 148)) := hbel.trans (hbA.mono hbel.size)
        have HVLA := hide (HVL.out.below hbA)
        rw [← hmk] at ho1 hbA hbbA HVLA
        clear hsa hmk
        go_wp2_with fail
        go_region_held_law (fun w' => w'.cell? ⟨gs, k * 4, none⟩ = some (.int .i64 y1)) (go_keep) (first | (refine step_push rfl (.tmp 48) (.tmp 63) 145 rfl (.agg #[.int .u8 0, .int .i64 0, .int .i64 0]) 24 Tryz.underlying145 Tryz.infoPPlace rfl (by decide) rfl HVLA.out wo.heap.size 1 ⟨s[k].toNat, y1, y1⟩ rfl 148 (0, 0) ho1.out rfl (by intro u hu; simp [placeV] at hu; rcases hu with rfl | rfl | rfl <;> rfl) (by omega) (by decide) hbbA.size (wo.heap.size + 1) (by simp) ?_; intro gl6 cap6 w6 hown6 hgrow6 hat6 hlt6; have hbb7 := hbbA.trans (below_of_grown hgrow6 (fun b hb => (HVLA.out.lt hb).1) hbbA.size); have z1 := (hbb7.cell (p := ⟨gs, k * 4, none⟩) hgs).trans c0'))
        have hbb6 := hbbA.trans (below_of_grown hgrow6 (fun b hb => (HVLA.out.lt hb).1) hbbA.size)
        go_wp2
        go_roundw
        case rel => exact ⟨k + 1, by omega, by go_num, by rw [HPT.out, ← HMK.out]; exact hown6, hbb6⟩
        case measure => simp [intOf]; omega
    · obtain rfl : k = S.length := by omega
      have hkc : decide ((S.length : Int) < (S.length : Int)) = false := by simp
      go_wp2
      go_ret
      exact ⟨_, rfl, by rw [HPL.out]; exact HVL.out, hbel⟩

theorem maskedF_lt {S : List Se} {T : Nat → Nat} {L : List Sp} {j : Nat} (h : T j < 256) : maskedF S T L j < 256 := by
  unfold maskedF
  cases (L.any (fun x => inSp x j) && !(seAt S j).free)
  · exact h
  · exact (by decide : (35 : Nat) < 256)
theorem struckL_le (s : ByteArray) (ps : List ByteArray) (x : Sp) (hx : x ∈ struckL s ps) : x.lo ≤ x.hi ∧ x.hi ≤ s.size := by
  unfold struckL at hx
  obtain ⟨p, _, hx⟩ := List.mem_flatMap.1 hx
  exact spans_le s x (List.mem_filter.1 hx).1
set_option maxRecDepth 100000 in
set_option maxHeartbeats 8000000 in
theorem vwOf_any (S : List Se) (ps : List ByteArray) (vs va : Value) (w : World) (hvs : SeqV 4 seV w vs S) (hva : SeqV 1 strV w va ps) (hS : S.length ≤ 1000000) (hps : ps.length ≤ 8) (hb : ∀ x, x ∈ S → x.b < 256) (hv : ∀ p, p ∈ ps → validB p = true) :
    Calls Tryz.prog 129 #[vs, va] w fun e w' => ∃ vl, e = .returned vl ∧ OwnL 148 3 placeV w' w.heap.size vl (placesP S ps) ∧ Below w.heap.size w w' := by
  have hsz : (seeT S).size = S.length := by unfold seeT; rw [textF_size]; omega
  have H1 := hide (vwTextOf_any S vs w hvs hS hb)
  have H2 := hide (fun (w' : World) (hbw : Below w.heap.size w w') => vwStrike_any (seeT S) ps va w' (hva.below hbw) hps (by omega) hv)
  have hll : (struckL (seeT S) ps).length ≤ 100000000 := by
    have := struckTo_length (seeT S) ps ps.length
    rw [struckTo_all] at this
    have h2 : ps.length * (seeT S).size ≤ 8 * 1000000 := Nat.mul_le_mul hps (by omega)
    omega
  have H3 := hide (fun (w' : World) (vl : Value) (hbw : Below w.heap.size w w') (hvl : SeqV 3 spV w' vl (struckL (seeT S) ps)) => vwMask_any S (seeB S) (struckL (seeT S) ps) vs vl w' (hvs.below hbw) hvl hS hll (fun j => seeB_lt hb j) (fun x hx => by have := struckL_le (seeT S) ps x hx; omega))
  have H4 := hide (fun (w' : World) (hbw : Below w.heap.size w w') => vwJoin_any S (maskedF S (seeB S) (struckL (seeT S) ps)) vs w' (hvs.below hbw) hS (fun j => maskedF_lt (seeB_lt hb j)))
  have HPP := hide (show joinTo (seNum S) (maskedF S (seeB S) (struckL (seeT S) ps)) S.length = placesP S ps from rfl)
  rw [HPP.out] at H4
  rw [show textF (seeB S) 0 S.length = seeT S from rfl] at H3
  generalize textF (maskedF S (seeB S) (struckL (seeT S) ps)) 0 S.length = s2 at *
  generalize struckL (seeT S) ps = L at *
  generalize seeT S = s1 at *
  obtain ⟨ao, cap, gs, rfl, _, _⟩ := hvs
  obtain ⟨ao2, cap2, gs2, rfl, _, _⟩ := hva
  clear hb hv HPP
  go_enter Tryz.func129, Tryz.ntmps129
  go_wp2_with fail
  refine (H1.out).mono ?_
  rintro e w1 ⟨rfl, hb1⟩
  go_wp2_with fail
  refine (H2.out _ hb1).mono ?_
  rintro e w2 ⟨vl, rfl, hvl, hb2⟩
  have hbw2 := hb1.trans (hb2.mono hb1.size)
  have HS := hide (hvl.seqV (show ∀ a, (spV a).length = 3 from fun _ => rfl))
  obtain ⟨ao3, cap3, hvv⟩ := hvl.shape
  subst hvv
  go_wp2_with fail
  refine (H3.out _ _ hbw2 HS.out).mono ?_
  rintro e w3 ⟨rfl, hb3⟩
  have hbw3 := hbw2.trans (hb3.mono hbw2.size)
  go_wp2_with fail
  refine (H4.out _ hbw3).mono ?_
  rintro e w4 ⟨vp, rfl, hvp, hb4⟩
  go_wp2
  go_ret
  exact ⟨_, rfl, hvp.mono hbw3.size, hbw3.trans (hb4.mono hbw3.size)⟩
end Go.Proofs.YthgcpjdlcooncaaGreat
namespace Go.Proofs.YthgcpjdlcooncaaGreat
open Go.RowKit Veil
def grantIs (a b : Int) (p : Int × Int) : Bool := (p.1 == a) && (p.2 == b)
set_option maxRecDepth 100000 in
set_option maxHeartbeats 8000000 in
theorem rgranted_any (c : Cfg) (v : CfgV) (rv av : Value) (g : Nat) (a b : Int) (w : World) (hok : CfgOk c) (hat : CfgAt w c v) (hbox : RBox w g c v rv av) :
    Calls Tryz.prog 111 #[.pointer (some ⟨g, 0, none⟩), .int .i64 a, .int .i64 b] w fun e w' => e = .returned (.bool (c.grants.any (grantIs a b))) ∧ Below w.heap.size w w' := by
  have hGl := hok.grants
  obtain ⟨eb, eo, hea, hblt, hcells⟩ : ∃ eb eo, (c.grants = [] ∨ v.ga = some ⟨eb, eo, none⟩) ∧ (c.grants = [] ∨ eb < w.heap.size) ∧ ∀ i p, c.grants[i]? = some p → w.cell? ⟨eb, eo + i * 2, none⟩ = some (xE p) ∧ w.cell? ⟨eb, eo + i * 2 + 1, none⟩ = some (yE p) := by
    rcases hat.grants with h | ⟨b, off, h, h1, h2⟩
    · exact ⟨0, 0, Or.inl h, Or.inl h, fun i p hp => by rw [show c.grants = [] from h] at hp; simp at hp⟩
    · exact ⟨b, off, Or.inr h, Or.inr h1, h2⟩
  have HC := hide hcells
  have HA := hide hea
  have HBL := hide hblt
  have HBX := hide hbox
  have hgl := hbox.lt
  clear hok hat hbox hea hblt hcells
  go_enter Tryz.func111, Tryz.ntmps111
  go_wp2
  go_loopw [7] (fun i wr => ∃ k : Nat, k ≤ c.grants.length ∧ i = .int .i64 k ∧ (c.grants.take k).any (grantIs a b) = false ∧ Below w.heap.size w wr) (fun i _ => c.grants.length - (intOf i).toNat)
  case atStart => exact ⟨0, Nat.zero_le _, rfl, rfl, Below.refl _ _⟩
  case round =>
    obtain ⟨wo, rfl⟩ : ∃ x, x = wr := ⟨_, rfl⟩
    obtain ⟨k, hk, rfl, hno, hbel⟩ := hrel
    have HNO := hide hno
    clear hno
    obtain ⟨q0, q1, q2, q3⟩ := (HBX.out.below hbel hgl).cells
    by_cases hlt : k < c.grants.length
    · have hne : c.grants ≠ [] := fun e => by rw [e] at hlt; simp at hlt
      have hea : v.ga = some ⟨eb, eo, none⟩ := HA.out.resolve_left hne
      have hbl : eb < w.heap.size := HBL.out.resolve_left hne
      rw [hea] at q3
      have hej : c.grants[k]? = some c.grants[k] := List.getElem?_eq_getElem hlt
      obtain ⟨c1, c2⟩ := HC.out k _ hej
      have HS := hide (any_snoc (grantIs a b) c.grants k _ hej)
      have HM := hide (any_mem (grantIs a b) c.grants k _ hej)
      generalize c.grants[k] = p at *
      obtain ⟨x, y⟩ := p
      have d1 : wo.cell? ⟨eb, eo + k * 2, none⟩ = some (.int .i64 x) := (hbel.cell (p := ⟨eb, eo + k * 2, none⟩) hbl).trans c1
      have d2 : wo.cell? ⟨eb, eo + k * 2 + 1, none⟩ = some (.int .i64 y) := (hbel.cell (p := ⟨eb, eo + k * 2 + 1, none⟩) hbl).trans c2
      have hki : (k : Int) < (c.grants.length : Int) := by omega
      clear hej c1 c2 hea hne
      cases h1 : (x == a)
      · have HZ := hide (show (c.grants.take (k + 1)).any (grantIs a b) = false by rw [HS.out, HNO.out]; simp [grantIs, h1])
        go_wp2
        go_roundw
        case rel => exact ⟨k + 1, by omega, by go_num, HZ.out, hbel⟩
        case measure => simp [intOf]; omega
      · cases h2 : (y == b)
        · have HZ := hide (show (c.grants.take (k + 1)).any (grantIs a b) = false by rw [HS.out, HNO.out]; simp [grantIs, h1, h2])
          obtain rfl : x = a := by simpa using h1
          clear h1
          go_wp2
          go_roundw
          case rel => exact ⟨k + 1, by omega, by go_num, HZ.out, hbel⟩
          case measure => simp [intOf]; omega
        · have HT := hide (HM.out (by simp [grantIs, h1, h2]))
          obtain rfl : x = a := by simpa using h1
          obtain rfl : y = b := by simpa using h2
          clear h1 h2
          go_wp2
          go_ret
          exact ⟨ret_bool HT.out.symm, hbel⟩
    · obtain rfl : k = c.grants.length := by omega
      have hkc : decide ((c.grants.length : Int) < (c.grants.length : Int)) = false := by simp
      have HN := hide (show c.grants.any (grantIs a b) = false by have := HNO.out; rwa [List.take_length] at this)
      go_wp2
      go_ret
      exact ⟨ret_bool HN.out.symm, hbel⟩
end Go.Proofs.YthgcpjdlcooncaaGreat
