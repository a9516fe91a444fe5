/- Docd, Spoil2. -/
import Derived.Test.YthgcpjdlcooncaaGreatE38
import Derived.Test.YthgcpjdlcooncaaGreatE20
import Derived.Test.YthgcpjdlcooncaaGreatE06
namespace Go.Proofs.YthgcpjdlcooncaaGreat
open Go.RowKit Veil
set_option maxRecDepth 100000 in
set_option maxHeartbeats 4000000 in
theorem dcInsert_lv (g n : Nat) (f : Nat → Nat → Bool) (rv pv : Value) (GR : Nat → Nat → Bool) (I Lg : Nat → Nat) (level : Int) (a : Int) (s : ByteArray) (w : World) (hbox : PBox w g n f rv GR pv I Lg) (hlv : okL n level = false) :
    Calls Tryz.prog 70 #[.pointer (some ⟨g, 0, none⟩), .int .i64 level, .int .i64 a, .string s] w fun e w' => e = .returned (.int .i64 6) ∧ Below w.heap.size w w' := by
  have i0 := hbox.is
  have a0 := hbox.at
  have r0 := hbox.not
  have HQ := hide (has_any n f level w)
  rw [hlv] at HQ
  clear hlv hbox
  go_enter Tryz.func70, Tryz.ntmps70
  go_wp2_with fail
  refine (HQ.out).mono ?_
  rintro e w1 ⟨rfl, hb1⟩
  clear i0 a0 r0
  go_wp2
  go_ret
  exact ⟨rfl, hb1⟩
set_option maxRecDepth 100000 in
set_option maxHeartbeats 4000000 in
theorem dcInsert_at (c : Cfg) (row : List RC) (g n : Nat) (f : Nat → Nat → Bool) (rv pv : Value) (GR : Nat → Nat → Bool) (I Lg : Nat → Nat) (B : Nat) (lv : Nat) (a : Int) (text : ByteArray) (w : World) (hbox : PBox w g n f rv GR pv I Lg) (hrl : OwnL 96 2 ruleV w B rv c.rules) (hce : OwnL 188 20 (pcV c) w B pv row) (hn : n = c.n) (hf : f = tT c) (hR : CfgRight c) (hrow : RowGood c row) (hlv : lv < c.n) (hat : a < 0 ∨ ((placesR c row lv).length : Int) < a) :
    Calls Tryz.prog 70 #[.pointer (some ⟨g, 0, none⟩), .int .i64 lv, .int .i64 a, .string text] w fun e w' => e = .returned (.int .i64 7) ∧ Below w.heap.size w w' := by
  have HPL := hide (fun (w' : World) (hb : Below w.heap.size w w') => dcPlaces_any c row g n f rv pv GR I Lg B lv w' (hbox.below hb hbox.lt) (hrl.below hb) (hce.below hb) hn hf hR hrow hlv)
  have HBX := hide hbox
  have hgl := hbox.lt
  have i0 := hbox.is
  have a0 := hbox.at
  have r0 := hbox.not
  have HQ := hide (has_any n f lv w)
  rw [okL_lt (show lv < n by omega)] at HQ
  have hPl : (placesR c row lv).length ≤ 1200 := Nat.le_trans (placesR_ok c row lv (fun x hx => (hrow.cells x hx).1.byte)).1 hrow.length
  generalize placesR c row lv = P at *
  clear hbox hrl hce hn hf hR hrow hlv
  rcases hat with hat | hat
  · have had : decide (a < 0) = true := by simpa using hat
    go_enter Tryz.func70, Tryz.ntmps70
    go_wp2_with fail
    refine (HQ.out).mono ?_
    rintro e w1 ⟨rfl, hb1⟩
    clear i0 a0 r0
    go_wp2_with fail
    refine (HPL.out _ hb1).mono ?_
    rintro e w2 ⟨vl, rfl, hvl, hb2⟩
    have hbw := hb1.trans (hb2.mono hb1.size)
    have hw1s := hb1.size
    have HVL := hide hvl
    obtain ⟨ao, cap, hvv⟩ := hvl.shape
    subst hvv
    clear hb1 hb2 hvl
    go_wp2
    go_ret
    exact ⟨rfl, hbw⟩
  · have h0 : (0 : Int) ≤ a := by omega
    have had : decide ((P.length : Int) < a) = true := by simpa using hat
    go_enter Tryz.func70, Tryz.ntmps70
    go_wp2_with fail
    refine (HQ.out).mono ?_
    rintro e w1 ⟨rfl, hb1⟩
    clear i0 a0 r0
    go_wp2_with fail
    refine (HPL.out _ hb1).mono ?_
    rintro e w2 ⟨vl, rfl, hvl, hb2⟩
    have hbw := hb1.trans (hb2.mono hb1.size)
    have hw1s := hb1.size
    have HVL := hide hvl
    obtain ⟨ao, cap, hvv⟩ := hvl.shape
    subst hvv
    clear hb1 hb2 hvl
    go_wp2
    go_ret
    exact ⟨rfl, hbw⟩
set_option maxRecDepth 100000 in
set_option maxHeartbeats 4000000 in
theorem dcInsert_text (c : Cfg) (row : List RC) (g n : Nat) (f : Nat → Nat → Bool) (rv pv : Value) (GR : Nat → Nat → Bool) (I Lg : Nat → Nat) (B : Nat) (lv a : Nat) (text : ByteArray) (w : World) (hbox : PBox w g n f rv GR pv I Lg) (hrl : OwnL 96 2 ruleV w B rv c.rules) (hce : OwnL 188 20 (pcV c) w B pv row) (hn : n = c.n) (hf : f = tT c) (hR : CfgRight c) (hrow : RowGood c row) (hlv : lv < c.n) (hal : a ≤ (placesR c row lv).length) (hts : text.size ≤ 140737488355328) (htx : textOkB text = false) :
    Calls Tryz.prog 70 #[.pointer (some ⟨g, 0, none⟩), .int .i64 lv, .int .i64 a, .string text] w fun e w' => e = .returned (.int .i64 8) ∧ Below w.heap.size w w' := by
  have HPL := hide (fun (w' : World) (hb : Below w.heap.size w w') => dcPlaces_any c row g n f rv pv GR I Lg B lv w' (hbox.below hb hbox.lt) (hrl.below hb) (hce.below hb) hn hf hR hrow hlv)
  have HBX := hide hbox
  have hgl := hbox.lt
  have i0 := hbox.is
  have a0 := hbox.at
  have r0 := hbox.not
  have HQ := hide (has_any n f lv w)
  rw [okL_lt (show lv < n by omega)] at HQ
  have hPl : (placesR c row lv).length ≤ 1200 := Nat.le_trans (placesR_ok c row lv (fun x hx => (hrow.cells x hx).1.byte)).1 hrow.length
  generalize hP : placesR c row lv = P at *
  have HMY := hide (fun (w' : World) => dcMay_any text w' (by omega))
  rw [htx] at HMY
  have ha0 : (0 : Int) ≤ (a : Int) := by omega
  have ha1 : (a : Int) ≤ (P.length : Int) := by omega
  have ha2 : decide ((P.length : Int) < (a : Int)) = false := by simp; omega
  have ha3 : decide ((a : Int) < 0) = false := by simp
  clear hbox hrl hce hn hf hR hrow hlv
  clear htx hP hal
  go_enter Tryz.func70, Tryz.ntmps70
  go_wp2_with fail
  refine (HQ.out).mono ?_
  rintro e w1 ⟨rfl, hb1⟩
  clear i0 a0 r0
  go_wp2_with fail
  refine (HPL.out _ hb1).mono ?_
  rintro e w2 ⟨vl, rfl, hvl, hb2⟩
  have hbw := hb1.trans (hb2.mono hb1.size)
  have hw1s := hb1.size
  have HVL := hide hvl
  obtain ⟨ao, cap, hvv⟩ := hvl.shape
  subst hvv
  clear hb1 hb2 hvl
  go_wp2_with fail
  refine (HMY.out _).mono ?_
  rintro e w2' ⟨rfl, rfl⟩
  go_wp2
  go_ret
  exact ⟨rfl, hbw⟩
set_option maxRecDepth 100000 in
set_option maxHeartbeats 4000000 in
theorem dcInsert_full (c : Cfg) (row : List RC) (g n : Nat) (f : Nat → Nat → Bool) (rv pv : Value) (GR : Nat → Nat → Bool) (I Lg : Nat → Nat) (B : Nat) (lv a : Nat) (text : ByteArray) (w : World) (hbox : PBox w g n f rv GR pv I Lg) (hrl : OwnL 96 2 ruleV w B rv c.rules) (hce : OwnL 188 20 (pcV c) w B pv row) (hn : n = c.n) (hf : f = tT c) (hR : CfgRight c) (hrow : RowGood c row) (hlv : lv < c.n) (hal : a ≤ (placesR c row lv).length) (hts : text.size ≤ 40) (htx : textOkB text = true) (hI : I lv ≤ 200) (hq : 200 < I lv + text.size) :
    Calls Tryz.prog 70 #[.pointer (some ⟨g, 0, none⟩), .int .i64 lv, .int .i64 a, .string text] w fun e w' => e = .returned (.int .i64 9) ∧ Below w.heap.size w w' := by
  have hn6 : n ≤ 6 := by obtain ⟨_, _, _, _, _, h, _⟩ := labels_of hR.labels; omega
  have hli : (lv : Int) < 6 := by omega
  have hlv6 : lv < 6 := by omega
  have HPL := hide (fun (w' : World) (hb : Below w.heap.size w w') => dcPlaces_any c row g n f rv pv GR I Lg B lv w' (hbox.below hb hbox.lt) (hrl.below hb) (hce.below hb) hn hf hR hrow hlv)
  have HBX := hide hbox
  have hgl := hbox.lt
  have i0 := hbox.is
  have a0 := hbox.at
  have r0 := hbox.not
  have HQ := hide (has_any n f lv w)
  rw [okL_lt (show lv < n by omega)] at HQ
  have hPl : (placesR c row lv).length ≤ 1200 := Nat.le_trans (placesR_ok c row lv (fun x hx => (hrow.cells x hx).1.byte)).1 hrow.length
  generalize hP : placesR c row lv = P at *
  have HMY := hide (fun (w' : World) => dcMay_any text w' (by omega))
  rw [htx] at HMY
  have ha0 : (0 : Int) ≤ (a : Int) := by omega
  have ha1 : (a : Int) ≤ (P.length : Int) := by omega
  have ha2 : decide ((P.length : Int) < (a : Int)) = false := by simp; omega
  have ha3 : decide ((a : Int) < 0) = false := by simp
  clear hbox hrl hce hn hf hR hrow hlv
  clear htx hP hal
  go_enter Tryz.func70, Tryz.ntmps70
  go_wp2_with fail
  refine (HQ.out).mono ?_
  rintro e w1 ⟨rfl, hb1⟩
  clear i0 a0 r0
  go_wp2_with fail
  refine (HPL.out _ hb1).mono ?_
  rintro e w2 ⟨vl, rfl, hvl, hb2⟩
  have hbw := hb1.trans (hb2.mono hb1.size)
  have hw1s := hb1.size
  have HVL := hide hvl
  obtain ⟨ao, cap, hvv⟩ := hvl.shape
  subst hvv
  clear hb1 hb2 hvl
  go_wp2_with fail
  refine (HMY.out _).mono ?_
  rintro e w2' ⟨rfl, rfl⟩
  have c1 := (HBX.out.below hbw hgl).ins lv hlv6
  generalize I lv = il at c1 hI hq
  have hqi : (200 : Int) < (il : Int) + (text.size : Int) := by omega
  go_wp2
  go_ret
  exact ⟨rfl, hbw⟩
theorem Only.drew {F : Nat → Prop} {w w' : World} (h : Only F w w') : Only F w w'.drew := ⟨h.os, h.tape, h.output, h.size, h.block⟩
theorem OwnL.setOther {α : Type} {e : TypeId} {sz : Nat} {f : α → List Value} {w : World} {B : Nat} {v : Value} {l : List α} (h : OwnL e sz f w B v l) {g i : Nat} {u : Value} (hne : ∀ b, v.ownBlock = some b → b ≠ g) : OwnL e sz f (w.setCell ⟨g, i, none⟩ u) B v l :=
  h.kept (grown_setCell _ _ _) (fun b h1 h2 => hne b h1 (Option.some.inj h2).symm)
theorem behindR_at {P : List Pl} {a m : Nat} {p : Pl} (ha : a = m + 1) (hm : P[m]? = some p) : behindR P a = p.last + 1 := by
  subst ha; unfold behindR plAt; simp [List.getD, hm]
def insF (I : Nat → Nat) (lv k : Nat) : Nat → Nat := fun i => if i = lv then I lv + k else I i
theorem Only.setCell {F : Nat → Prop} {w w' : World} {a : Addr} {v : Value} (h : Only F w w') (hF : F a.block) : Only F w (w'.setCell a v) :=
  ⟨h.os, h.tape, h.output, by rw [show (w'.setCell a v).heap.size = w'.heap.size by simp [World.setCell]]; exact h.size, fun k hk hn => (heap_setCell_other _ a k v (fun e => hn (by rw [e]; exact hF))).trans (h.block k hk hn)⟩
set_option maxRecDepth 100000 in
set_option maxHeartbeats 8000000 in
theorem dcInsert_ok (c : Cfg) (row : List RC) (g n : Nat) (f : Nat → Nat → Bool) (rv pv : Value) (GR : Nat → Nat → Bool) (I Lg : Nat → Nat) (B : Nat) (lv a : Nat) (text : ByteArray) (w : World) (hbox : PBox w g n f rv GR pv I Lg) (hrl : OwnL 96 2 ruleV w B rv c.rules) (hce : OwnL 188 20 (pcV c) w B pv row) (hn : n = c.n) (hf : f = tT c) (hR : CfgRight c) (hrow : RowGood c row) (hlv : lv < c.n) (hal : a ≤ (placesR c row lv).length) (hts : text.size ≤ 40) (htx : textOkB text = true) (hq : I lv + text.size ≤ 200) :
    Calls Tryz.prog 70 #[.pointer (some ⟨g, 0, none⟩), .int .i64 lv, .int .i64 a, .string text] w fun e w' => e = .returned (.int .i64 0) ∧ ∃ v6, PBox w' g n f rv GR v6 (insF I lv text.size) Lg ∧ OwnL 188 20 (pcV c) w' w.heap.size v6 (putC row (newC text lv text.size) (behindR (placesR c row lv) a)) ∧ Only (fun k => k = g) w w' := by
  have hn6 : n ≤ 6 := by obtain ⟨_, _, _, _, _, h, _⟩ := labels_of hR.labels; omega
  have hli : (lv : Int) < 6 := by omega
  have hlv6 : lv < 6 := by omega
  have HRW := hide (fun (w' : World) (hb : Below w.heap.size w w') (k : Nat) (hk : k ≤ row.length) => rwInsert_any c row g 74 n f pv B lv k text w' (hce.below hb) (hbox.below hb hbox.lt).row hk (by omega) (by have := hrow.length; omega))
  have hrl1 := hrow.length
  have HPO := hide (placesR_ok c row lv (fun x hx => (hrow.cells x hx).1.byte)).2
  have HPL := hide (fun (w' : World) (hb : Below w.heap.size w w') => dcPlaces_any c row g n f rv pv GR I Lg B lv w' (hbox.below hb hbox.lt) (hrl.below hb) (hce.below hb) hn hf hR hrow hlv)
  have HBX := hide hbox
  have hgl := hbox.lt
  have i0 := hbox.is
  have a0 := hbox.at
  have r0 := hbox.not
  have HQ := hide (has_any n f lv w)
  rw [okL_lt (show lv < n by omega)] at HQ
  have hPl : (placesR c row lv).length ≤ 1200 := Nat.le_trans (placesR_ok c row lv (fun x hx => (hrow.cells x hx).1.byte)).1 hrow.length
  generalize hP : placesR c row lv = P at *
  have HMY := hide (fun (w' : World) => dcMay_any text w' (by omega))
  rw [htx] at HMY
  have ha0 : (0 : Int) ≤ (a : Int) := by omega
  have ha1 : (a : Int) ≤ (P.length : Int) := by omega
  have ha2 : decide ((P.length : Int) < (a : Int)) = false := by simp; omega
  have ha3 : decide ((a : Int) < 0) = false := by simp
  clear hbox hrl hce hn hf hR hrow hlv
  clear htx
  generalize hil : I lv = il at *
  have HIL := hide hil
  have hqi : (il : Int) + (text.size : Int) ≤ 200 := by omega
  clear hP hil
  go_enter Tryz.func70, Tryz.ntmps70
  go_wp2_with fail
  refine (HQ.out).mono ?_
  rintro e w1 ⟨rfl, hb1⟩
  clear i0 a0 r0
  go_wp2_with fail
  refine (HPL.out _ hb1).mono ?_
  rintro e w2 ⟨vl, rfl, hvl, hb2⟩
  have hbw := hb1.trans (hb2.mono hb1.size)
  have hw1s := hb1.size
  have HVL := hide hvl
  obtain ⟨ao, cap, hvv⟩ := hvl.shape
  subst hvv
  clear hb1 hb2 hvl
  go_wp2_with fail
  refine (HMY.out _).mono ?_
  rintro e w2' ⟨rfl, rfl⟩
  have c1 := (HBX.out.below hbw hgl).ins lv hlv6
  rw [HIL.out] at c1
  by_cases hap : 0 < a
  · obtain ⟨m, hm1, hm2⟩ : ∃ m : Nat, (a : Int) - 1 = (m : Int) ∧ a = m + 1 := ⟨a - 1, by omega, by omega⟩
    have hapi : (0 : Int) < (a : Int) := by omega
    have hmi : (m : Int) < (P.length : Int) := by omega
    obtain ⟨gp, cp, hvv, hgp0, hgp⟩ := HVL.out.form (by omega)
    simp only [Value.slice.injEq] at hvv
    obtain ⟨rfl, _, rfl⟩ := hvv
    have hem : P[m]? = some (P[m]'(by omega)) := List.getElem?_eq_getElem (by omega)
    have p2 := HVL.out.cell (show ∀ a, (placeV a).length = 3 from fun _ => rfl) rfl hem (j := 2) (by omega)
    have HBE := hide (behindR_at hm2 hem)
    have hpo := (HPO.out _ (List.getElem_mem (show m < P.length by omega))).lt
    generalize (P[m]'(by omega)) = pm at *
    obtain ⟨pm1, pm2, pm3⟩ := pm
    have p2' : w2.cell? ⟨gp, m * 3 + 2, none⟩ = some (.int .i64 pm3) := p2
    simp only at hpo HBE
    have hp3 : (pm3 : Int) ≤ 1200 := by omega
    have HRX := hide (HRW.out w2 hbw (pm3 + 1) (by omega))
    have hcast : ((pm3 + 1 : Nat) : Int) = (pm3 : Int) + 1 := by omega
    rw [hcast] at HRX
    have HM2 := hide hm2
    clear hem p2 hm2 hcast
    go_wp2_with fail
    refine (HRX.out).mono ?_
    rintro e w3 ⟨rfl, w6, v6, rfl, hb6, hown6⟩
    have HB6 := hide ((HBX.out.below (hbw.trans (hb6.mono hbw.size)) hgl).setCells v6)
    have c3 := HB6.out.ins lv hlv6
    have f3 := HB6.out.frozen (112 + lv)
    rw [HIL.out] at c3
    have HB7 : Hid (PBox ((w6.setCell ⟨g, 111, none⟩ v6).drew.setCell ⟨g, 112 + lv, none⟩ (.int .i64 ((il + text.size : Nat) : Int))) g n f rv GR v6 (insF I lv text.size) Lg) := PBox.setIns (w := (w6.setCell ⟨g, 111, none⟩ v6).drew) (x := il + text.size) HB6.out hlv6 (fun i _ => by unfold insF; by_cases hi : i = lv <;> simp [hi, HIL.out])
    have hne6 : ∀ b, v6.ownBlock = some b → b ≠ g := fun b h1 => by have := (hown6.lt h1).1; have := hbw.size; omega
    have HO7 : Hid (OwnL 188 20 (pcV c) ((w6.setCell ⟨g, 111, none⟩ v6).drew.setCell ⟨g, 112 + lv, none⟩ (.int .i64 ((il + text.size : Nat) : Int))) w2.heap.size v6 (putC row (newC text lv text.size) (pm3 + 1))) := OwnL.setOther (w := (w6.setCell ⟨g, 111, none⟩ v6).drew) (hown6.setOther hne6) hne6
    have HN7 : Hid (Only (fun k => k = g) w ((w6.setCell ⟨g, 111, none⟩ v6).drew.setCell ⟨g, 112 + lv, none⟩ (.int .i64 ((il + text.size : Nat) : Int)))) := ((Only.of_below (F := fun k => k = g) (hbw.trans (hb6.mono hbw.size))).setCell (a := ⟨g, 111, none⟩) (v := v6) rfl).drew.setCell (a := ⟨g, 112 + lv, none⟩) rfl
    have hnum : (il : Int) + (text.size : Int) = ((il + text.size : Nat) : Int) := by omega
    have hsb : w.heap.size ≤ w2.heap.size := hbw.size
    have HNUM := hide hnum
    have HWQ := hide (show IntKind.i64.wrap ((il : Int) + (text.size : Int)) = (il : Int) + (text.size : Int) by rw [IntKind.wrap_i64]; omega)
    clear hb6 hown6 hnum
    go_wp2_with fail
    refine wp_region_held_drew (S := (fun (_ : World) => True)) (by kernel_rfl) ?_ (fun hHeld => ?_)
    · exact trivial
    refine takeW 0 (some 58) ?_ rfl rfl (by kernel_rfl) (by kernel_rfl) (by kernel_rfl) (fun _ _ _ h => h) ?_ (by assumption) ?_
    rotate_left 1
    · (intro o ho w hSw; obtain rfl := Option.some.inj ho; clear ho; (try dsimp only at hSw); go_simp; try (with_reducible rfl))
    (try simp only [Act.put, List.setIfInBounds_toArray, List.set_cons_zero, List.set_cons_succ])
    refine takeW 1 (some 59) ?_ rfl rfl (by kernel_rfl) (by kernel_rfl) (by kernel_rfl) (fun _ _ _ h => h) ?_ (by assumption) ?_
    rotate_left 1
    · (intro o ho w hSw; obtain rfl := Option.some.inj ho; clear ho; (try dsimp only at hSw); go_simp; try (with_reducible rfl))
    (try simp only [Act.put, List.setIfInBounds_toArray, List.set_cons_zero, List.set_cons_succ])
    refine takeW 2 (some 60) ?_ rfl rfl (by kernel_rfl) (by kernel_rfl) (by kernel_rfl) (fun _ _ _ h => h) ?_ (by assumption) ?_
    rotate_left 1
    · (intro o ho w hSw; obtain rfl := Option.some.inj ho; clear ho; (try dsimp only at hSw); go_simp; try (with_reducible rfl))
    (try simp only [Act.put, List.setIfInBounds_toArray, List.set_cons_zero, List.set_cons_succ])
    refine takeW 3 (some 61) ?_ rfl rfl (by kernel_rfl) (by kernel_rfl) (by kernel_rfl) (fun _ _ _ h => h) ?_ (by assumption) ?_
    rotate_left 1
    · (intro o ho w hSw; obtain rfl := Option.some.inj ho; clear ho; (try dsimp only at hSw); go_simp; try (with_reducible rfl))
    (try simp only [Act.put, List.setIfInBounds_toArray, List.set_cons_zero, List.set_cons_succ])
    refine takeW 4 (some 62) ?_ rfl rfl (by kernel_rfl) (by kernel_rfl) (by kernel_rfl) (fun _ _ _ h => h) ?_ (by assumption) ?_
    rotate_left 1
    · (intro o ho w hSw; obtain rfl := Option.some.inj ho; clear ho; (try dsimp only at hSw); go_simp; try (with_reducible rfl))
    (try simp only [Act.put, List.setIfInBounds_toArray, List.set_cons_zero, List.set_cons_succ])
    refine takeW 6 (some 64) ?_ rfl rfl (by kernel_rfl) (by kernel_rfl) (by kernel_rfl) (fun _ _ _ h => h) ?_ (by assumption) ?_
    rotate_left 1
    · (intro o ho w hSw; obtain rfl := Option.some.inj ho; clear ho; (try dsimp only at hSw); go_simp; try (with_reducible rfl))
    (try simp only [Act.put, List.setIfInBounds_toArray, List.set_cons_zero, List.set_cons_succ])
    refine takeW 7 (some 65) ?_ rfl rfl (by kernel_rfl) (by kernel_rfl) (by kernel_rfl) (fun _ _ _ h => h) ?_ (by assumption) ?_
    rotate_left 1
    · (intro o ho w hSw; obtain rfl := Option.some.inj ho; clear ho; (try dsimp only at hSw); go_simp; try (with_reducible rfl))
    (try simp only [Act.put, List.setIfInBounds_toArray, List.set_cons_zero, List.set_cons_succ])
    refine takeW 9 (some 67) ?_ rfl rfl (by kernel_rfl) (by kernel_rfl) (by kernel_rfl) (fun _ _ _ h => h) ?_ (by assumption) ?_
    rotate_left 1
    · (intro o ho w hSw; obtain rfl := Option.some.inj ho; clear ho; (try dsimp only at hSw); go_simp; try (with_reducible rfl))
    (try simp only [Act.put, List.setIfInBounds_toArray, List.set_cons_zero, List.set_cons_succ])
    refine takeW 10 (some 68) ?_ rfl rfl (by kernel_rfl) (by kernel_rfl) (by kernel_rfl) (fun _ _ _ h => h) ?_ (by assumption) ?_
    rotate_left 1
    · (intro o ho w hSw; obtain rfl := Option.some.inj ho; clear ho; (try dsimp only at hSw); go_simp; try (with_reducible rfl))
    (try simp only [Act.put, List.setIfInBounds_toArray, List.set_cons_zero, List.set_cons_succ])
    refine wpAnyH_ready (rs := [5]) (by kernel_rfl) (by simp) ?_
    refine AllReadyH.cons rfl (fun K hK => ?_) AllReadyH.nil
    go_simp
    refine hK.out _ _ ?_ (fun hHeld => ?_)
    · exact trivial
    clear hK K
    refine takeW 8 (some 66) ?_ rfl rfl (by kernel_rfl) (by kernel_rfl) (by kernel_rfl) (fun _ _ _ h => h) ?_ (by assumption) ?_
    rotate_left 1
    · (intro o ho w hSw; obtain rfl := Option.some.inj ho; clear ho; (try dsimp only at hSw); go_simp; try (with_reducible rfl))
    (try simp only [Act.put, List.setIfInBounds_toArray, List.set_cons_zero, List.set_cons_succ])
    refine takeW 11 (some 69) ?_ rfl rfl (by kernel_rfl) (by kernel_rfl) (by kernel_rfl) (fun _ _ _ h => h) ?_ (by assumption) ?_
    rotate_left 1
    · (intro o ho w hSw; obtain rfl := Option.some.inj ho; clear ho; (try dsimp only at hSw); go_simp; try (with_reducible rfl))
    (try simp only [Act.put, List.setIfInBounds_toArray, List.set_cons_zero, List.set_cons_succ])
    refine wpAnyH_ready (rs := [12]) (by kernel_rfl) (by simp) ?_
    refine AllReadyH.cons rfl (fun K hK => ?_) AllReadyH.nil
    go_simp
    refine hK.out _ _ ?_ (fun hHeld => ?_)
    · exact trivial
    clear hK K
    refine wpAnyH_done (by kernel_rfl) ?_ _
    go_wp2
    go_ret
    rw [HWQ.out]
    exact ⟨rfl, v6, by rw [← HNUM.out] at HB7; exact HB7.out, by rw [← HNUM.out] at HO7; rw [HBE.out]; exact HO7.out.mono hsb, by rw [← HNUM.out] at HN7; exact HN7.out⟩
  · obtain rfl : a = 0 := by omega
    have HBE := hide (show behindR P 0 = 0 from rfl)
    have HRX := hide (HRW.out w2 hbw 0 (by omega))
    have hcast : ((0 : Nat) : Int) = 0 := rfl
    rw [hcast] at HRX
    clear hcast hap
    go_wp2_with fail
    refine (HRX.out).mono ?_
    rintro e w3 ⟨rfl, w6, v6, rfl, hb6, hown6⟩
    have HB6 := hide ((HBX.out.below (hbw.trans (hb6.mono hbw.size)) hgl).setCells v6)
    have c3 := HB6.out.ins lv hlv6
    have f3 := HB6.out.frozen (112 + lv)
    rw [HIL.out] at c3
    have HB7 : Hid (PBox ((w6.setCell ⟨g, 111, none⟩ v6).drew.setCell ⟨g, 112 + lv, none⟩ (.int .i64 ((il + text.size : Nat) : Int))) g n f rv GR v6 (insF I lv text.size) Lg) := PBox.setIns (w := (w6.setCell ⟨g, 111, none⟩ v6).drew) (x := il + text.size) HB6.out hlv6 (fun i _ => by unfold insF; by_cases hi : i = lv <;> simp [hi, HIL.out])
    have hne6 : ∀ b, v6.ownBlock = some b → b ≠ g := fun b h1 => by have := (hown6.lt h1).1; have := hbw.size; omega
    have HO7 : Hid (OwnL 188 20 (pcV c) ((w6.setCell ⟨g, 111, none⟩ v6).drew.setCell ⟨g, 112 + lv, none⟩ (.int .i64 ((il + text.size : Nat) : Int))) w2.heap.size v6 (putC row (newC text lv text.size) 0)) := OwnL.setOther (w := (w6.setCell ⟨g, 111, none⟩ v6).drew) (hown6.setOther hne6) hne6
    have HN7 : Hid (Only (fun k => k = g) w ((w6.setCell ⟨g, 111, none⟩ v6).drew.setCell ⟨g, 112 + lv, none⟩ (.int .i64 ((il + text.size : Nat) : Int)))) := ((Only.of_below (F := fun k => k = g) (hbw.trans (hb6.mono hbw.size))).setCell (a := ⟨g, 111, none⟩) (v := v6) rfl).drew.setCell (a := ⟨g, 112 + lv, none⟩) rfl
    have hnum : (il : Int) + (text.size : Int) = ((il + text.size : Nat) : Int) := by omega
    have hsb : w.heap.size ≤ w2.heap.size := hbw.size
    have HNUM := hide hnum
    have HWQ := hide (show IntKind.i64.wrap ((il : Int) + (text.size : Int)) = (il : Int) + (text.size : Int) by rw [IntKind.wrap_i64]; omega)
    clear hb6 hown6 hnum
    go_wp2_with fail
    refine wp_region_held_drew (S := (fun (_ : World) => True)) (by kernel_rfl) ?_ (fun hHeld => ?_)
    · exact trivial
    refine takeW 0 (some 58) ?_ rfl rfl (by kernel_rfl) (by kernel_rfl) (by kernel_rfl) (fun _ _ _ h => h) ?_ (by assumption) ?_
    rotate_left 1
    · (intro o ho w hSw; obtain rfl := Option.some.inj ho; clear ho; (try dsimp only at hSw); go_simp; try (with_reducible rfl))
    (try simp only [Act.put, List.setIfInBounds_toArray, List.set_cons_zero, List.set_cons_succ])
    refine takeW 1 (some 59) ?_ rfl rfl (by kernel_rfl) (by kernel_rfl) (by kernel_rfl) (fun _ _ _ h => h) ?_ (by assumption) ?_
    rotate_left 1
    · (intro o ho w hSw; obtain rfl := Option.some.inj ho; clear ho; (try dsimp only at hSw); go_simp; try (with_reducible rfl))
    (try simp only [Act.put, List.setIfInBounds_toArray, List.set_cons_zero, List.set_cons_succ])
    refine takeW 2 (some 60) ?_ rfl rfl (by kernel_rfl) (by kernel_rfl) (by kernel_rfl) (fun _ _ _ h => h) ?_ (by assumption) ?_
    rotate_left 1
    · (intro o ho w hSw; obtain rfl := Option.some.inj ho; clear ho; (try dsimp only at hSw); go_simp; try (with_reducible rfl))
    (try simp only [Act.put, List.setIfInBounds_toArray, List.set_cons_zero, List.set_cons_succ])
    refine takeW 3 (some 61) ?_ rfl rfl (by kernel_rfl) (by kernel_rfl) (by kernel_rfl) (fun _ _ _ h => h) ?_ (by assumption) ?_
    rotate_left 1
    · (intro o ho w hSw; obtain rfl := Option.some.inj ho; clear ho; (try dsimp only at hSw); go_simp; try (with_reducible rfl))
    (try simp only [Act.put, List.setIfInBounds_toArray, List.set_cons_zero, List.set_cons_succ])
    refine takeW 4 (some 62) ?_ rfl rfl (by kernel_rfl) (by kernel_rfl) (by kernel_rfl) (fun _ _ _ h => h) ?_ (by assumption) ?_
    rotate_left 1
    · (intro o ho w hSw; obtain rfl := Option.some.inj ho; clear ho; (try dsimp only at hSw); go_simp; try (with_reducible rfl))
    (try simp only [Act.put, List.setIfInBounds_toArray, List.set_cons_zero, List.set_cons_succ])
    refine takeW 6 (some 64) ?_ rfl rfl (by kernel_rfl) (by kernel_rfl) (by kernel_rfl) (fun _ _ _ h => h) ?_ (by assumption) ?_
    rotate_left 1
    · (intro o ho w hSw; obtain rfl := Option.some.inj ho; clear ho; (try dsimp only at hSw); go_simp; try (with_reducible rfl))
    (try simp only [Act.put, List.setIfInBounds_toArray, List.set_cons_zero, List.set_cons_succ])
    refine takeW 7 (some 65) ?_ rfl rfl (by kernel_rfl) (by kernel_rfl) (by kernel_rfl) (fun _ _ _ h => h) ?_ (by assumption) ?_
    rotate_left 1
    · (intro o ho w hSw; obtain rfl := Option.some.inj ho; clear ho; (try dsimp only at hSw); go_simp; try (with_reducible rfl))
    (try simp only [Act.put, List.setIfInBounds_toArray, List.set_cons_zero, List.set_cons_succ])
    refine takeW 9 (some 67) ?_ rfl rfl (by kernel_rfl) (by kernel_rfl) (by kernel_rfl) (fun _ _ _ h => h) ?_ (by assumption) ?_
    rotate_left 1
    · (intro o ho w hSw; obtain rfl := Option.some.inj ho; clear ho; (try dsimp only at hSw); go_simp; try (with_reducible rfl))
    (try simp only [Act.put, List.setIfInBounds_toArray, List.set_cons_zero, List.set_cons_succ])
    refine takeW 10 (some 68) ?_ rfl rfl (by kernel_rfl) (by kernel_rfl) (by kernel_rfl) (fun _ _ _ h => h) ?_ (by assumption) ?_
    rotate_left 1
    · (intro o ho w hSw; obtain rfl := Option.some.inj ho; clear ho; (try dsimp only at hSw); go_simp; try (with_reducible rfl))
    (try simp only [Act.put, List.setIfInBounds_toArray, List.set_cons_zero, List.set_cons_succ])
    refine wpAnyH_ready (rs := [5]) (by kernel_rfl) (by simp) ?_
    refine AllReadyH.cons rfl (fun K hK => ?_) AllReadyH.nil
    go_simp
    refine hK.out _ _ ?_ (fun hHeld => ?_)
    · exact trivial
    clear hK K
    refine takeW 8 (some 66) ?_ rfl rfl (by kernel_rfl) (by kernel_rfl) (by kernel_rfl) (fun _ _ _ h => h) ?_ (by assumption) ?_
    rotate_left 1
    · (intro o ho w hSw; obtain rfl := Option.some.inj ho; clear ho; (try dsimp only at hSw); go_simp; try (with_reducible rfl))
    (try simp only [Act.put, List.setIfInBounds_toArray, List.set_cons_zero, List.set_cons_succ])
    refine takeW 11 (some 69) ?_ rfl rfl (by kernel_rfl) (by kernel_rfl) (by kernel_rfl) (fun _ _ _ h => h) ?_ (by assumption) ?_
    rotate_left 1
    · (intro o ho w hSw; obtain rfl := Option.some.inj ho; clear ho; (try dsimp only at hSw); go_simp; try (with_reducible rfl))
    (try simp only [Act.put, List.setIfInBounds_toArray, List.set_cons_zero, List.set_cons_succ])
    refine wpAnyH_ready (rs := [12]) (by kernel_rfl) (by simp) ?_
    refine AllReadyH.cons rfl (fun K hK => ?_) AllReadyH.nil
    go_simp
    refine hK.out _ _ ?_ (fun hHeld => ?_)
    · exact trivial
    clear hK K
    refine wpAnyH_done (by kernel_rfl) ?_ _
    go_wp2
    go_ret
    rw [HWQ.out]
    exact ⟨rfl, v6, by rw [← HNUM.out] at HB7; exact HB7.out, by rw [← HNUM.out] at HO7; rw [HBE.out]; exact HO7.out.mono hsb, by rw [← HNUM.out] at HN7; exact HN7.out⟩
end Go.Proofs.YthgcpjdlcooncaaGreat
namespace Go.Proofs.YthgcpjdlcooncaaGreat
open Go.RowKit Veil
/-- The blocks of what was lent. -/
def lentF (g1 g2 g3 k : Nat) : Prop := k = g1 ∨ k = g2 ∨ k = g3
set_option maxRecDepth 100000 in
set_option maxHeartbeats 4000000 in
theorem spoil_only (c : Cfg) (v : CfgV) (g1 g2 g3 : Nat) (w : World) (hok : CfgOk c) (hn : CfgNil c v) (hl : LentAt w c g1 g2 g3) (h12 : g1 < g2) (h23 : g2 < g3) :
    Calls Tryz.prog 32 #[.agg (cfgCells c (lentV c v g1 g2 g3))] w fun e w' => e = .returned (.tuple #[]) ∧ Only (lentF g1 g2 g3) w w' := by
  have l1 := hl.edges.lt
  have l2 := hl.rules.lt
  have l3 := hl.grants.lt
  have k1 := hok.edges
  have k2 := hok.rules
  have k3 := hok.grants
  have hm0 : ∀ o, o = Obj.cells (cfgCells c (lentV c v g1 g2 g3)) 46 → SpoilMid (w.alloc o) w.heap.size c v g1 g2 g3 := fun o ho => by
    subst ho
    exact ⟨Go.heap_alloc_new _ _, ⟨_, by simp [pad_length], row_alloc' hl.edges⟩, ⟨_, by simp [pad_length], row_alloc' hl.rules⟩, ⟨_, by simp [pad_length], row_alloc' hl.grants⟩⟩
  have HM := hide hm0
  have HN := hide hn
  clear hm0 hn hl hok
  have e1 : 0 < c.edges.length → (lentV c v g1 g2 g3).ea = some ⟨g1, 0, none⟩ := fun h => by
    cases hv : v.ea with
    | none => have := (HN.out.edges hv).1; omega
    | some a => simp [lentV, hv]
  have e2 : 0 < c.rules.length → (lentV c v g1 g2 g3).ra = some ⟨g2, 0, none⟩ := fun h => by
    cases hv : v.ra with
    | none => have := (HN.out.rules hv).1; omega
    | some a => simp [lentV, hv]
  have e3 : 0 < c.grants.length → (lentV c v g1 g2 g3).ga = some ⟨g3, 0, none⟩ := fun h => by
    cases hv : v.ga with
    | none => have := (HN.out.grants hv).1; omega
    | some a => simp [lentV, hv]
  have E1 := hide e1
  have E2 := hide e2
  have E3 := hide e3
  clear e1 e2 e3
  generalize hV : lentV c v g1 g2 g3 = V at *
  have HV := hide hV
  clear hV
  obtain ⟨L, E, R, G⟩ := c
  obtain ⟨ea, ec, ra, rc, ga, gc⟩ := V
  simp only at k1 k2 k3
  unfold cfgCells
  go_enter Tryz.func32, Tryz.ntmps32
  go_wp2
  go_loopw [2] (fun i wr => ∃ k : Nat, k ≤ E.length ∧ i = .int .i64 k ∧ SpoilMid wr w.heap.size ⟨L, E, R, G⟩ v g1 g2 g3 ∧ Only (lentF g1 g2 g3) w wr) (fun i _ => E.length - (intOf i).toNat)
  case atStart => exact ⟨0, Nat.zero_le _, rfl, HM.out _ rfl, Only.of_below (below_box w _)⟩
  case round =>
    obtain ⟨k, hk, rfl, hm, hbel⟩ := hrel
    have HK := hide hm
    by_cases hlt : k < E.length
    · obtain ⟨l, hlen, hrow⟩ := hm.edges
      have hlen' : k < l.length := by rw [hlen]; dsimp only; omega
      obtain ⟨p1, p2⟩ := hrow.cell (List.getElem?_eq_getElem hlen')
      have f1 := hrow.frozen (k * 2)
      have f2 := hrow.frozen (k * 2 + 1)
      have c1 : wr.cell? ⟨w.heap.size, 1, none⟩ = some (.slice (some ⟨g1, 0, none⟩) E.length ec) := by
        have := hm.cfg
        rw [HV.out] at this
        rw [cell_of_row _ _ _ _ _ _ this]
        have e := E1.out (by omega)
        simp [cfgCells, e]
      generalize l[k] = q at *
      clear hm hrow hlen hlen'
      go_wp2
      go_roundw
      case rel => exact ⟨k + 1, by omega, by go_num, HK.out.stepE (0, 0) (by dsimp only; omega) h12 h23 l3, (hbel.setCell (by unfold lentF; simp)).setCell (by unfold lentF; simp)⟩
      case measure => simp [intOf]; omega
    · have c1 : wr.cell? ⟨w.heap.size, 1, none⟩ = some (.slice ea E.length ec) := by
        have := hm.cfg
        rw [HV.out] at this
        rw [cell_of_row _ _ _ _ _ _ this]; rfl
      clear hm
      go_wp2
      go_loopw [3] (fun i wr => ∃ k : Nat, k ≤ R.length ∧ i = .int .i64 k ∧ SpoilMid wr w.heap.size ⟨L, E, R, G⟩ v g1 g2 g3 ∧ Only (lentF g1 g2 g3) w wr) (fun i _ => R.length - (intOf i).toNat)
      case atStart => exact ⟨0, Nat.zero_le _, rfl, HK.out, hbel⟩
      case round =>
        obtain ⟨k, hk, rfl, hm, hbel⟩ := hrel
        have HK := hide hm
        by_cases hlt : k < R.length
        · obtain ⟨l, hlen, hrow⟩ := hm.rules
          have hlen' : k < l.length := by rw [hlen]; dsimp only; omega
          obtain ⟨p1, p2⟩ := hrow.cell (List.getElem?_eq_getElem hlen')
          have f1 := hrow.frozen (k * 2)
          have f2 := hrow.frozen (k * 2 + 1)
          have c1 : wr.cell? ⟨w.heap.size, 2, none⟩ = some (.slice (some ⟨g2, 0, none⟩) R.length rc) := by
            have := hm.cfg
            rw [HV.out] at this
            rw [cell_of_row _ _ _ _ _ _ this]
            have e := E2.out (by omega)
            simp [cfgCells, e]
          generalize l[k] = q at *
          clear hm hrow hlen hlen'
          go_wp2
          go_roundw
          case rel => exact ⟨k + 1, by omega, by go_num, HK.out.stepR (⟨#[42]⟩, 0) (by dsimp only; omega) h12 h23 l3, (hbel.setCell (by unfold lentF; simp)).setCell (by unfold lentF; simp)⟩
          case measure => simp [intOf]; omega
        · have c1 : wr.cell? ⟨w.heap.size, 2, none⟩ = some (.slice ra R.length rc) := by
            have := hm.cfg
            rw [HV.out] at this
            rw [cell_of_row _ _ _ _ _ _ this]; rfl
          clear hm
          go_wp2
          go_loopw [4] (fun i wr => ∃ k : Nat, k ≤ G.length ∧ i = .int .i64 k ∧ SpoilMid wr w.heap.size ⟨L, E, R, G⟩ v g1 g2 g3 ∧ Only (lentF g1 g2 g3) w wr) (fun i _ => G.length - (intOf i).toNat)
          case atStart => exact ⟨0, Nat.zero_le _, rfl, HK.out, hbel⟩
          case round =>
            obtain ⟨k, hk, rfl, hm, hbel⟩ := hrel
            have HK := hide hm
            by_cases hlt : k < G.length
            · obtain ⟨l, hlen, hrow⟩ := hm.grants
              have hlen' : k < l.length := by rw [hlen]; dsimp only; omega
              obtain ⟨p1, p2⟩ := hrow.cell (List.getElem?_eq_getElem hlen')
              have f1 := hrow.frozen (k * 2)
              have f2 := hrow.frozen (k * 2 + 1)
              have c1 : wr.cell? ⟨w.heap.size, 3, none⟩ = some (.slice (some ⟨g3, 0, none⟩) G.length gc) := by
                have := hm.cfg
                rw [HV.out] at this
                rw [cell_of_row _ _ _ _ _ _ this]
                have e := E3.out (by omega)
                simp [cfgCells, e]
              generalize l[k] = q at *
              clear hm hrow hlen hlen'
              go_wp2
              go_roundw
              case rel => exact ⟨k + 1, by omega, by go_num, HK.out.stepG (0, 0) (by dsimp only; omega) h12 h23 l3, (hbel.setCell (by unfold lentF; simp)).setCell (by unfold lentF; simp)⟩
              case measure => simp [intOf]; omega
            · have c1 : wr.cell? ⟨w.heap.size, 3, none⟩ = some (.slice ga G.length gc) := by
                have := hm.cfg
                rw [HV.out] at this
                rw [cell_of_row _ _ _ _ _ _ this]; rfl
              clear hm
              go_wp2
              go_end0
              exact ⟨rfl, hbel⟩
end Go.Proofs.YthgcpjdlcooncaaGreat
