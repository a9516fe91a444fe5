/- Row6, Row7. -/
import Derived.Test.YthgcpjdlcooncaaGreatE34
import Derived.Test.YthgcpjdlcooncaaGreatE18
namespace Go.Proofs.YthgcpjdlcooncaaGreat
open Go.RowKit Veil
theorem Tryz.infoPSeen : (Tryz.prog.info? 199).map (fun i => (i.zero, i.size, i.bytes)) = some (some (.agg #[.int .i64 0, .int .u8 0, .bool false, .bool false]), 4, 16) := by kernel_rfl
theorem firstTo_yes {c : Cfg} {row : List RC} {d k : Nat} (h : thereB c (cellAt row k) d = true) : firstTo c row d (k + 1) = firstTo c row d k ++ [seC c row d k] := by
  unfold firstTo; rw [atTo_yes h, List.map_append]; rfl
theorem firstTo_no {c : Cfg} {row : List RC} {d k : Nat} (h : thereB c (cellAt row k) d = false) : firstTo c row d (k + 1) = firstTo c row d k := by
  unfold firstTo; rw [atTo_no h]
theorem firstTo_length (c : Cfg) (row : List RC) (d k : Nat) : (firstTo c row d k).length ≤ k := by
  unfold firstTo; rw [List.length_map]; exact atTo_length c row d k
theorem seC_at {c : Cfg} {row : List RC} {d k : Nat} {x : RC} (h : row[k]? = some x) : seC c row d k = ⟨k, x.b, !c.le (labD c x d) d, freeD c x d⟩ := by
  have hc : cellAt row k = x := by simp [cellAt, List.getD, h]
  unfold seC byF hidR labD freeD; rw [hc]
set_option maxRecDepth 100000 in
set_option maxHeartbeats 8000000 in
theorem rwFirst_any (c : Cfg) (row : List RC) (g q n : Nat) (f : Nat → Nat → Bool) (pv : Value) (B lv : Nat) (w : World) (hown : OwnL 188 20 (pcV c) w B pv row) (hr : PRowAt w g q n f pv) (hn : n = c.n) (hf : f = tT c) (hl : labelsB c = true) (hlat : ¬ c.noLat) (hcl : ∀ x, x ∈ row → RCOk c x) (hlv : lv < c.n) (hq : 0 < q) (hlen : row.length ≤ 1000000) :
    Calls Tryz.prog 127 #[.pointer (some ⟨g, q, none⟩), .int .i64 lv] w fun e w' => ∃ vl, e = .returned vl ∧ OwnL 199 4 seV w' w.heap.size vl (firstTo c row lv row.length) ∧ Below w.heap.size w w' := by
  obtain ⟨_, _, _, _, _, hn6, _⟩ := labels_of hl
  have hn6' : n ≤ 6 := by omega
  have hlv6 : lv < 6 := by omega
  have hlvi : (lv : Int) < 6 := by omega
  have HTP := hide (fun (x : RC) (hx : RCOk c x) => show thereP n f x.origin (goneD c x) lv = thereB c x lv by
    subst hn; subst hf; exact thereP_there hl x hx lv)
  have HTH := hide (fun (x : RC) (pv : Value) (w' : World) (h : PRowAt w' g q n f pv) => isThere_any x.b x.origin (goneD c x) (labD c x) (freeD c x) g q n f pv lv w' h hn6' hq)
  have HLQ := hide (fun (x : RC) (hx : RCOk c x) (w' : World) => show Calls Tryz.prog 66 #[.agg (ordC n f), .int .i64 (labD c x lv), .int .i64 lv] w' fun e w'' => e = .returned (.bool (c.le (labD c x lv) lv)) ∧ Below w'.heap.size w' w'' from (oleq_any n f (labD c x lv) lv w' hn6').mono fun e w'' ⟨h1, h2⟩ => ⟨by
    rw [h1]; subst hn; subst hf
    exact ret_bool (leO_le hl _ _ (seenF_lt hlat hx lv) hlv), h2⟩)
  have HOWN := hide hown
  have HROW := hide hr
  have HCO := hide hcl
  have hgl := hr.lt
  obtain ⟨ao, cap, hpv⟩ := hown.shape
  subst hpv
  have d0 := hr.cells
  clear hown hr hl hlat hcl hn hf hlv hn6
  go_enter Tryz.func127, Tryz.ntmps127
  go_wp2
  clear d0
  go_loopw [5, 15] (fun vl i wr => ∃ k : Nat, k ≤ row.length ∧ i = .int .i64 k ∧ OwnL 199 4 seV wr w.heap.size vl (firstTo c row lv k) ∧ Below w.heap.size w wr) (fun _ i _ => row.length - (intOf i).toNat)
  case atStart => exact ⟨0, Nat.zero_le _, rfl, OwnL.nil _ _ _ _ _, Below.refl _ _⟩
  case round =>
    obtain ⟨wo, rfl⟩ : ∃ x, x = wr := ⟨_, rfl⟩
    obtain ⟨k, hk, rfl, hvl, hbel⟩ := hrel
    have HVL := hide hvl
    clear hvl
    by_cases hlt : k < row.length
    · have hki : (k : Int) < (row.length : Int) := by omega
      obtain ⟨rb, cp, hvv, _, hrbl⟩ := HOWN.out.form (by omega)
      simp only [Value.slice.injEq] at hvv
      obtain ⟨rfl, _, rfl⟩ := hvv
      have hej : row[k]? = some row[k] := List.getElem?_eq_getElem hlt
      have HOo := hide (HOWN.out.below (hbel.mono (Nat.le_refl _)))
      obtain ⟨p0, q0⟩ := HOo.out.part (pcV_length c) (g := rb) rfl hej
      have hx := HCO.out _ (List.getElem_mem hlt)
      have hcat : cellAt row k = row[k] := by simp [cellAt, List.getD, hej]
      have HT1 := hide (HTP.out row[k] hx)
      have HTX := hide (fun pv w' h => HTH.out row[k] pv w' h)
      have HQX := hide (fun w' => HLQ.out row[k] hx w')
      have HYES := hide (fun h => firstTo_yes (c := c) (row := row) (d := lv) (k := k) h)
      have HNO := hide (fun h => firstTo_no (c := c) (row := row) (d := lv) (k := k) h)
      have HSC := hide (seC_at (c := c) (d := lv) hej)
      have hfl := firstTo_length c row lv k
      rw [hcat] at HYES HNO
      generalize row[k] = x at *
      rw [HT1.out] at HTX
      have HA1 := hide (cell_new wo 0 0 noB noL noB)
      have i1 := HA1.out.is
      have k5 : okRow (pcV c x).toArray 20 := cellG_ok ..
      have HA2 : Hid (CellAt ((wo.alloc (.cells (cellG 0 0 noB noL noB).toArray 188)).setCells wo.heap.size 0 (pcV c x)) wo.heap.size x.b x.origin (goneD c x) (labD c x) (freeD c x)) := HA1.out.store _ (pcV_length c x)
      have hbA : Below wo.heap.size wo ((wo.alloc (.cells (cellG 0 0 noB noL noB).toArray 188)).setCells wo.heap.size 0 (pcV c x)) := below_setCells ((Below.refl _ _).alloc (Nat.le_refl _) _) (Nat.le_refl _) _ _
      have hbelA := hbel.trans (hbA.mono hbel.size)
      have i2 := HA2.out.is
      have a2 := HA2.out.at
      have HRA := hide (HROW.out.below hbelA hgl)
      have HTA := hide (HTX.out _ _ HRA.out)
      have HVA := hide (HVL.out.below hbA)
      rw [show cellG x.b x.origin (goneD c x) (labD c x) (freeD c x) = pcV c x from rfl] at HTA a2
      have hltA := HA2.out.lt
      generalize hwA : (wo.alloc (.cells (cellG 0 0 noB noL noB).toArray 188)).setCells wo.heap.size 0 (pcV c x) = wA at *
      clear hej hx hcat
      go_wp2_with (first | (refine wpList_alloc_cell rfl rfl ?_))
      refine (HTA.out).mono ?_
      rintro e w3 ⟨rfl, hb3⟩
      have hbel3 := hbelA.trans (hb3.mono hbelA.size)
      have HV3 := hide (HVA.out.below hb3)
      have HA3 := hide (HA2.out.below hb3 hltA)
      have HR3 := hide (HROW.out.below hbel3 hgl)
      clear i1 i2 a2 p0 q0 hwA hbA hb3
      cases hth : thereB c x lv
      · have HN1 := hide (HNO.out hth)
        go_wp2
        go_roundw
        case rel => exact ⟨k + 1, by omega, by go_num, by rw [HN1.out]; exact HV3.out, hbel3⟩
        case measure => simp [intOf]; omega
      · have HY1 := hide (HYES.out hth)
        rw [HSC.out] at HY1
        have g3 := HA3.out.gone lv hlv6
        have l3 := HA3.out.lab lv hlv6
        have f3 := HA3.out.free lv hlv6
        have b3 := HA3.out.byte
        generalize goneD c x lv = G0 at *
        generalize freeD c x lv = F0 at *
        generalize hL0 : labD c x lv = L0 at *
        generalize x.b = xb at *
        have hbB : Below w3.heap.size w3 (w3.alloc (.cells #[.bool G0, .int .i64 L0, .bool F0] 185)) := below_box _ _
        have hbelB := hbel3.trans (hbB.mono hbel3.size)
        have HRB := hide (show PRowAt (w3.alloc (.cells #[.bool G0, .int .i64 L0, .bool F0] 185)).drew g q n f _ from HROW.out.below hbelB.drew hgl)
        have HNB := hide (Go.heap_alloc_new w3 (.cells #[.bool G0, .int .i64 L0, .bool F0] 185))
        have hw3 : wo.heap.size < w3.heap.size := HA3.out.lt
        have iB := HRB.out.is
        have aB := HRB.out.at
        have s1 : (w3.alloc (.cells #[.bool G0, .int .i64 L0, .bool F0] 185)).cell? ⟨w3.heap.size, 1, none⟩ = some (.int .i64 L0) := by rw [cell_of_row _ _ _ _ _ _ HNB.out]; rfl
        have s2 : (w3.alloc (.cells #[.bool G0, .int .i64 L0, .bool F0] 185)).cell? ⟨w3.heap.size, 2, none⟩ = some (.bool F0) := by rw [cell_of_row _ _ _ _ _ _ HNB.out]; rfl
        have s3 : (w3.alloc (.cells #[.bool G0, .int .i64 L0, .bool F0] 185)).cell? ⟨wo.heap.size, 0, none⟩ = some (.int .u8 xb) := (hbB.cell (p := ⟨wo.heap.size, 0, none⟩) hw3).trans b3
        have HQB := hide (HQX.out (w3.alloc (.cells #[.bool G0, .int .i64 L0, .bool F0] 185)).drew)
        have HVB := hide (HV3.out.below hbB)
        have hsB : w3.heap.size < (w3.alloc (.cells #[.bool G0, .int .i64 L0, .bool F0] 185)).heap.size := by simp
        have hltB := HRB.out.lt
        clear hL0
        go_wp2_with fail
        refine wp_region_held_drew (S := (fun w' => ((partIs w' g q 37 ∧ partAt w' g q 37 = ordC n f) ∧ w'.cell? ⟨w3.heap.size, 1, none⟩ = some (.int .i64 L0)))) (by kernel_rfl) ?_ (fun hHeld => ?_)
        · exact ⟨⟨iB, aB⟩, s1⟩
        refine takeW 0 (some 28) ?_ rfl rfl (by kernel_rfl) (by kernel_rfl) (by kernel_rfl) (fun _ _ _ h => h) ?_ (by assumption) ?_
        rotate_left 1
        · (intro o ho w hSw; obtain rfl := Option.some.inj ho; clear ho; (try dsimp only at hSw); go_simp; try (with_reducible rfl))
        (try simp only [Act.put, List.setIfInBounds_toArray, List.set_cons_zero, List.set_cons_succ])
        refine takeW 1 (some 29) ?_ rfl rfl (by kernel_rfl) (by kernel_rfl) (by kernel_rfl) (fun _ _ _ h => h) ?_ (by assumption) ?_
        rotate_left 1
        · (intro o ho w hSw; obtain rfl := Option.some.inj ho; clear ho; (try dsimp only at hSw); go_simp; try (with_reducible rfl))
        (try simp only [Act.put, List.setIfInBounds_toArray, List.set_cons_zero, List.set_cons_succ])
        refine takeW 2 (some 30) ?_ rfl rfl (by kernel_rfl) (by kernel_rfl) (by kernel_rfl) (fun _ _ _ h => h) ?_ (by assumption) ?_
        rotate_left 1
        · (intro o ho w hSw; obtain rfl := Option.some.inj ho; clear ho; (try dsimp only at hSw); go_simp; try (with_reducible rfl))
        (try simp only [Act.put, List.setIfInBounds_toArray, List.set_cons_zero, List.set_cons_succ])
        refine takeW 3 (some 31) (.agg (ordC n f)) rfl rfl (by kernel_rfl) (by kernel_rfl) (by kernel_rfl) (fun _ _ _ h => h) ?_ (by assumption) ?_
        · (intro o ho w hSw; obtain rfl := Option.some.inj ho; clear ho; exact exec_load_ord rfl rfl hSw.1.1 hSw.1.2)
        (try simp only [Act.put, List.setIfInBounds_toArray, List.set_cons_zero, List.set_cons_succ])
        refine takeW 4 (some 32) ?_ rfl rfl (by kernel_rfl) (by kernel_rfl) (by kernel_rfl) (fun _ _ _ h => h) ?_ (by assumption) ?_
        rotate_left 1
        · (intro o ho w hSw; obtain rfl := Option.some.inj ho; clear ho; (try dsimp only at hSw); go_simp; try (with_reducible rfl))
        (try simp only [Act.put, List.setIfInBounds_toArray, List.set_cons_zero, List.set_cons_succ])
        refine takeW 5 (some 33) ?_ rfl rfl (by kernel_rfl) (by kernel_rfl) (by kernel_rfl) (fun _ _ _ h => h) ?_ (by assumption) ?_
        rotate_left 1
        · (intro o ho w hSw; obtain rfl := Option.some.inj ho; clear ho; (try dsimp only at hSw); go_simp; try (with_reducible rfl))
        (try simp only [Act.put, List.setIfInBounds_toArray, List.set_cons_zero, List.set_cons_succ])
        refine takeW 6 (some 34) ?_ rfl rfl (by kernel_rfl) (by kernel_rfl) (by kernel_rfl) (fun _ _ _ h => h) ?_ (by assumption) ?_
        rotate_left 1
        · (intro o ho w hSw; obtain rfl := Option.some.inj ho; clear ho; (try dsimp only at hSw); go_simp; try (with_reducible rfl))
        (try simp only [Act.put, List.setIfInBounds_toArray, List.set_cons_zero, List.set_cons_succ])
        refine wpAnyH_ready (rs := [7]) (by kernel_rfl) (by simp) ?_
        refine AllReadyH.cons rfl (fun K hK => ?_) AllReadyH.nil
        go_simp
        go_wp2_with (go_at_call 66; refine (HQB.out).mono ?_; rintro e w5 ⟨rfl, hb5⟩; have HR5 := hide (HRB.out.below hb5 hltB); have i5 := HR5.out.is; have a5 := HR5.out.at; have t1 := (hb5.cell (p := ⟨w3.heap.size, 1, none⟩) hsB).trans s1; have t2 := (hb5.cell (p := ⟨w3.heap.size, 2, none⟩) hsB).trans s2; have t3 := (hb5.cell (p := ⟨wo.heap.size, 0, none⟩) (Nat.lt_trans hw3 hsB)).trans s3)
        refine hK.out _ _ ?_ (fun hHeld => ?_)
        · exact ⟨⟨i5, a5⟩, t1⟩
        clear hK K
        refine takeW 8 (some 36) ?_ rfl rfl (by kernel_rfl) (by kernel_rfl) (by kernel_rfl) (fun _ _ _ h => h) ?_ (by assumption) ?_
        rotate_left 1
        · (intro o ho w hSw; obtain rfl := Option.some.inj ho; clear ho; (try dsimp only at hSw); go_simp; try (with_reducible rfl))
        (try simp only [Act.put, List.setIfInBounds_toArray, List.set_cons_zero, List.set_cons_succ])
        refine takeW 9 (some 9) ?_ rfl rfl (by kernel_rfl) (by kernel_rfl) (by kernel_rfl) (fun _ _ _ h => h) ?_ (by assumption) ?_
        rotate_left 1
        · (intro o ho w hSw; obtain rfl := Option.some.inj ho; clear ho; (try dsimp only at hSw); go_simp; try (with_reducible rfl))
        (try simp only [Act.put, List.setIfInBounds_toArray, List.set_cons_zero, List.set_cons_succ])
        refine wpAnyH_done (by kernel_rfl) ?_ _
        have hbel5 := hbelB.drew.trans (hb5.mono hbelB.drew.size)
        have HV5 := hide (show OwnL 199 4 seV w5 w.heap.size _ (firstTo c row lv k) from OwnL.below (w := (w3.alloc (.cells #[.bool G0, .int .i64 L0, .bool F0] 185)).drew) HVB.out hb5)
        generalize hH0 : c.le (↑L0) (↑lv) = H0 at *
        have hbC : Below w5.heap.size w5 (w5.alloc (.cells #[.int .i64 k, .int .u8 xb, .bool (!H0), .bool F0] 199)) := below_box _ _
        have hbelC := hbel5.trans (hbC.mono hbel5.size)
        have HVC := hide (HV5.out.below hbC)
        have HNC := hide (Go.heap_alloc_new w5 (.cells #[.int .i64 k, .int .u8 xb, .bool (!H0), .bool F0] 199))
        clear iB aB s1 s2 s3 i5 a5 t1 g3 l3 f3 b3 hH0
        go_wp2_with (at_builtin; refine wpList_push rfl (.tmp 37) (.tmp 45) 178 rfl (.agg #[.int .i64 0, .int .u8 0, .bool false, .bool false]) 16 Tryz.underlying178 Tryz.infoPSeen rfl (by decide) rfl HVC.out w5.heap.size 1 ⟨k, xb, !H0, F0⟩ rfl 199 (0, 0) HNC.out rfl (by intro u hu; simp [seV] at hu; rcases hu with rfl | rfl | rfl | rfl <;> rfl) (by omega) (by decide) hbelC.size (w5.heap.size + 1) (by simp) ?_; intro g6 cap6 w6 hown6 hgrow6 hat6 hlt6)
        have hb6 := hbelC.trans (below_of_grown hgrow6 (fun b hb => (HVC.out.lt hb).1) hbelC.size)
        go_roundw
        case rel => exact ⟨k + 1, by omega, by go_num, by rw [HY1.out]; exact hown6, hb6⟩
        case measure => simp [intOf]; omega
    · obtain rfl : k = row.length := by omega
      have hkc : decide ((row.length : Int) < (row.length : Int)) = false := by simp
      go_wp2
      go_ret
      exact ⟨_, rfl, HVL.out, hbel⟩
end Go.Proofs.YthgcpjdlcooncaaGreat
namespace Go.Proofs.YthgcpjdlcooncaaGreat
open Go.RowKit Veil
theorem allR_snoc (p : Nat → Bool) (k : Nat) : (List.range (k + 1)).all p = ((List.range k).all p && p k) := by rw [List.range_succ, List.all_append]; simp
theorem allR_false {p : Nat → Bool} {k m : Nat} (hk : k < m) (h : p k = false) : (List.range m).all p = false := by
  cases ha : (List.range m).all p
  · rfl
  · rw [List.all_eq_true] at ha
    have := ha k (List.mem_range.2 hk)
    rw [h] at this; cases this
def stemB (c : Cfg) (row : List RC) (lv first last tg i : Nat) : Bool := !meantB c row lv first last i || c.le (cellAt row i).origin tg
set_option maxRecDepth 100000 in
set_option maxHeartbeats 8000000 in
theorem rwStem_any (c : Cfg) (row : List RC) (g q n : Nat) (f : Nat → Nat → Bool) (pv : Value) (B lv first last tg : Nat) (w : World) (hown : OwnL 188 20 (pcV c) w B pv row) (hr : PRowAt w g q n f pv) (hn : n = c.n) (hf : f = tT c) (hl : labelsB c = true) (hcl : ∀ x, x ∈ row → RCOk c x) (htg : tg < c.n) (hq : 0 < q) (hlen : row.length ≤ 1000000) :
    Calls Tryz.prog 109 #[.pointer (some ⟨g, q, none⟩), .int .i64 lv, .int .i64 first, .int .i64 last, .int .i64 tg] w fun e w' => e = .returned (.bool ((List.range row.length).all (stemB c row lv first last tg))) ∧ Below w.heap.size w w' := by
  obtain ⟨_, _, _, _, _, hn6, _⟩ := labels_of hl
  have hn6' : n ≤ 6 := by omega
  have HMP := hide (fun (x : RC) (k : Nat) (hx : RCOk c x) (hk : row[k]? = some x) => show meantP n f x.origin (goneD c x) lv first last k = meantB c row lv first last k by
    subst hn; subst hf
    unfold meantP meantB thR
    rw [thereP_there hl x hx lv]
    have : cellAt row k = x := by simp [cellAt, List.getD, hk]
    rw [this])
  have HMT := hide (fun (x : RC) (rb m cap i : Nat) (w' : World) (h : PRowAt w' g q n f (.slice (some ⟨rb, 0, none⟩) m cap)) (hi : i < m) (hp : partIs w' rb (i * 20) 20) (ha : partAt w' rb (i * 20) 20 = (pcV c x).toArray) => isMeant_any x.b x.origin (goneD c x) (labD c x) (freeD c x) g q n f rb m cap i lv first last w' h hn6' hq hi hp ha)
  have HLQ := hide (fun (x : RC) (hx : RCOk c x) (w' : World) => show Calls Tryz.prog 66 #[.agg (ordC n f), .int .i64 x.origin, .int .i64 tg] w' fun e w'' => e = .returned (.bool (c.le x.origin tg)) ∧ Below w'.heap.size w' w'' from (oleq_any n f x.origin tg w' hn6').mono fun e w'' ⟨h1, h2⟩ => ⟨by
    rw [h1]; subst hn; subst hf
    exact ret_bool (leO_le hl _ _ hx.origin htg), h2⟩)
  have HOWN := hide hown
  have HROW := hide hr
  have HCO := hide hcl
  have hgl := hr.lt
  have HST := hide (show ∀ (k : Nat) (x : RC), row[k]? = some x → stemB c row lv first last tg k = (!meantB c row lv first last k || c.le x.origin tg) from fun k x hk => by
    have : cellAt row k = x := by simp [cellAt, List.getD, hk]
    unfold stemB; rw [this])
  generalize hpp : meantB c row lv first last = p at *
  generalize hss : stemB c row lv first last tg = st at *
  obtain ⟨ao, cap, hpv⟩ := hown.shape
  subst hpv
  clear hown hr hl hcl hn hf htg hn6 hpp hss
  go_enter Tryz.func109, Tryz.ntmps109
  go_wp2
  go_loopw [11] (fun i wr => ∃ k : Nat, k ≤ row.length ∧ i = .int .i64 k ∧ (List.range k).all st = true ∧ Below w.heap.size w wr) (fun i _ => row.length - (intOf i).toNat)
  case atStart => exact ⟨0, Nat.zero_le _, rfl, rfl, Below.refl _ _⟩
  case round =>
    obtain ⟨wo, rfl⟩ : ∃ x, x = wr := ⟨_, rfl⟩
    obtain ⟨k, hk, rfl, hall, hbel⟩ := hrel
    have HALL := hide hall
    clear hall
    have HRo := hide (HROW.out.below hbel hgl)
    have d0 := HRo.out.cells
    by_cases hlt : k < row.length
    · have hki : (k : Int) < (row.length : Int) := by omega
      obtain ⟨rb, cp, hvv, _, hrbl⟩ := HOWN.out.form (by omega)
      simp only [Value.slice.injEq] at hvv
      obtain ⟨rfl, _, rfl⟩ := hvv
      have hej : row[k]? = some row[k] := List.getElem?_eq_getElem hlt
      have HOo := hide (HOWN.out.below (hbel.mono (Nat.le_refl _)))
      obtain ⟨p0, q0⟩ := HOo.out.part (pcV_length c) (g := rb) rfl hej
      have c1 := HOo.out.cell (pcV_length c) (g := rb) rfl hej (j := 1) (by omega)
      have hx := HCO.out _ (List.getElem_mem hlt)
      have HPK := hide (HMP.out row[k] k hx hej)
      have HM1 := hide (HMT.out row[k] rb row.length cap k wo.drew HRo.out hlt p0 q0)
      have HQX := hide (fun w' => HLQ.out row[k] hx w')
      have HSX := hide (HST.out k _ hej)
      have HSN := hide (allR_snoc st k)
      have HSF := hide (fun h => allR_false (p := st) hlt h)
      have hrbo : rb < wo.heap.size := Nat.lt_of_lt_of_le hrbl hbel.size
      have hgo := HRo.out.lt
      have i0 := HRo.out.is
      have a0 := HRo.out.at
      generalize row[k] = x at *
      have c1' : wo.cell? ⟨rb, k * 20 + 1, none⟩ = some (.int .i64 x.origin) := c1
      rw [HPK.out] at HM1
      generalize x.origin = xo at *
      clear hej hx c1
      cases hpk : p k
      · rw [hpk] at HM1
        have HS1 := hide (show st k = true by rw [HSX.out, hpk]; rfl)
        clear hpk
        go_wp2_with fail
        refine wp_region_held_drew (S := (fun w' => ((partIs w' g q 37 ∧ partAt w' g q 37 = ordC n f) ∧ w'.cell? ⟨g, q + 37, none⟩ = some (.slice (some ⟨rb, 0, none⟩) row.length cap)) ∧ w'.cell? ⟨rb, k * 20 + 1, none⟩ = some (.int .i64 xo))) (by kernel_rfl) ?_ (fun hHeld => ?_)
        · exact ⟨⟨⟨i0, a0⟩, d0⟩, c1'⟩
        refine takeW 0 (some 21) ?_ rfl rfl (by kernel_rfl) (by kernel_rfl) (by kernel_rfl) (fun _ _ _ h => h) ?_ (by assumption) ?_
        rotate_left 1
        · (intro o ho w hSw; obtain rfl := Option.some.inj ho; clear ho; (try dsimp only at hSw); go_simp; try (with_reducible rfl))
        (try simp only [Act.put, List.setIfInBounds_toArray, List.set_cons_zero, List.set_cons_succ])
        refine takeW 1 (some 22) ?_ rfl rfl (by kernel_rfl) (by kernel_rfl) (by kernel_rfl) (fun _ _ _ h => h) ?_ (by assumption) ?_
        rotate_left 1
        · (intro o ho w hSw; obtain rfl := Option.some.inj ho; clear ho; (try dsimp only at hSw); go_simp; try (with_reducible rfl))
        (try simp only [Act.put, List.setIfInBounds_toArray, List.set_cons_zero, List.set_cons_succ])
        refine takeW 2 (some 23) ?_ rfl rfl (by kernel_rfl) (by kernel_rfl) (by kernel_rfl) (fun _ _ _ h => h) ?_ (by assumption) ?_
        rotate_left 1
        · (intro o ho w hSw; obtain rfl := Option.some.inj ho; clear ho; (try dsimp only at hSw); go_simp; try (with_reducible rfl))
        (try simp only [Act.put, List.setIfInBounds_toArray, List.set_cons_zero, List.set_cons_succ])
        refine takeW 3 (some 24) ?_ rfl rfl (by kernel_rfl) (by kernel_rfl) (by kernel_rfl) (fun _ _ _ h => h) ?_ (by assumption) ?_
        rotate_left 1
        · (intro o ho w hSw; obtain rfl := Option.some.inj ho; clear ho; (try dsimp only at hSw); go_simp; try (with_reducible rfl))
        (try simp only [Act.put, List.setIfInBounds_toArray, List.set_cons_zero, List.set_cons_succ])
        refine takeW 4 (some 25) ?_ rfl rfl (by kernel_rfl) (by kernel_rfl) (by kernel_rfl) (fun _ _ _ h => h) ?_ (by assumption) ?_
        rotate_left 1
        · (intro o ho w hSw; obtain rfl := Option.some.inj ho; clear ho; (try dsimp only at hSw); go_simp; try (with_reducible rfl))
        (try simp only [Act.put, List.setIfInBounds_toArray, List.set_cons_zero, List.set_cons_succ])
        refine wpAnyH_ready (rs := [5]) (by kernel_rfl) (by simp) ?_
        refine AllReadyH.cons rfl (fun K hK => ?_) AllReadyH.nil
        go_simp
        go_wp2_with (go_at_call 135; refine (HM1.out).mono ?_; rintro e w3 ⟨rfl, hb3⟩; have HR3 := hide (PRowAt.below (w := wo.drew) HRo.out hb3 hgo); have i3 := HR3.out.is; have a3 := HR3.out.at; have d3 := HR3.out.cells; have o3 := (hb3.cell (p := ⟨rb, k * 20 + 1, none⟩) hrbo).trans c1')
        refine hK.out _ _ ?_ (fun hHeld => ?_)
        · exact ⟨⟨⟨i3, a3⟩, d3⟩, o3⟩
        clear hK K
        refine takeW 6 (some 27) ?_ rfl rfl (by kernel_rfl) (by kernel_rfl) (by kernel_rfl) (fun _ _ _ h => h) ?_ (by assumption) ?_
        rotate_left 1
        · (intro o ho w hSw; obtain rfl := Option.some.inj ho; clear ho; (try dsimp only at hSw); go_simp; try (with_reducible rfl))
        (try simp only [Act.put, List.setIfInBounds_toArray, List.set_cons_zero, List.set_cons_succ])
        refine takeU 7 (some 28) rfl rfl (by kernel_rfl) (by kernel_rfl) (by kernel_rfl) (fun _ _ _ h => h) (by assumption) ?_
        (try simp only [Act.put, List.setIfInBounds_toArray, List.set_cons_zero, List.set_cons_succ])
        refine takeU 8 (some 29) rfl rfl (by kernel_rfl) (by kernel_rfl) (by kernel_rfl) (fun _ _ _ h => h) (by assumption) ?_
        (try simp only [Act.put, List.setIfInBounds_toArray, List.set_cons_zero, List.set_cons_succ])
        refine takeU 9 (some 30) rfl rfl (by kernel_rfl) (by kernel_rfl) (by kernel_rfl) (fun _ _ _ h => h) (by assumption) ?_
        (try simp only [Act.put, List.setIfInBounds_toArray, List.set_cons_zero, List.set_cons_succ])
        refine takeU 10 (some 31) rfl rfl (by kernel_rfl) (by kernel_rfl) (by kernel_rfl) (fun _ _ _ h => h) (by assumption) ?_
        (try simp only [Act.put, List.setIfInBounds_toArray, List.set_cons_zero, List.set_cons_succ])
        refine takeU 11 (some 32) rfl rfl (by kernel_rfl) (by kernel_rfl) (by kernel_rfl) (fun _ _ _ h => h) (by assumption) ?_
        (try simp only [Act.put, List.setIfInBounds_toArray, List.set_cons_zero, List.set_cons_succ])
        refine takeU 12 (some 33) rfl rfl (by kernel_rfl) (by kernel_rfl) (by kernel_rfl) (fun _ _ _ h => h) (by assumption) ?_
        (try simp only [Act.put, List.setIfInBounds_toArray, List.set_cons_zero, List.set_cons_succ])
        refine takeU 13 (some 34) rfl rfl (by kernel_rfl) (by kernel_rfl) (by kernel_rfl) (fun _ _ _ h => h) (by assumption) ?_
        (try simp only [Act.put, List.setIfInBounds_toArray, List.set_cons_zero, List.set_cons_succ])
        refine takeU 14 (some 35) rfl rfl (by kernel_rfl) (by kernel_rfl) (by kernel_rfl) (fun _ _ _ h => h) (by assumption) ?_
        (try simp only [Act.put, List.setIfInBounds_toArray, List.set_cons_zero, List.set_cons_succ])
        refine takeU 15 (some 36) rfl rfl (by kernel_rfl) (by kernel_rfl) (by kernel_rfl) (fun _ _ _ h => h) (by assumption) ?_
        (try simp only [Act.put, List.setIfInBounds_toArray, List.set_cons_zero, List.set_cons_succ])
        refine takeU 16 (some 37) rfl rfl (by kernel_rfl) (by kernel_rfl) (by kernel_rfl) (fun _ _ _ h => h) (by assumption) ?_
        (try simp only [Act.put, List.setIfInBounds_toArray, List.set_cons_zero, List.set_cons_succ])
        refine takeU 17 (some 38) rfl rfl (by kernel_rfl) (by kernel_rfl) (by kernel_rfl) (fun _ _ _ h => h) (by assumption) ?_
        (try simp only [Act.put, List.setIfInBounds_toArray, List.set_cons_zero, List.set_cons_succ])
        refine takeU 18 (some 39) rfl rfl (by kernel_rfl) (by kernel_rfl) (by kernel_rfl) (fun _ _ _ h => h) (by assumption) ?_
        (try simp only [Act.put, List.setIfInBounds_toArray, List.set_cons_zero, List.set_cons_succ])
        refine takeU 19 (some 40) rfl rfl (by kernel_rfl) (by kernel_rfl) (by kernel_rfl) (fun _ _ _ h => h) (by assumption) ?_
        (try simp only [Act.put, List.setIfInBounds_toArray, List.set_cons_zero, List.set_cons_succ])
        refine takeU 20 (some 41) rfl rfl (by kernel_rfl) (by kernel_rfl) (by kernel_rfl) (fun _ _ _ h => h) (by assumption) ?_
        (try simp only [Act.put, List.setIfInBounds_toArray, List.set_cons_zero, List.set_cons_succ])
        refine takeU 21 (some 42) rfl rfl (by kernel_rfl) (by kernel_rfl) (by kernel_rfl) (fun _ _ _ h => h) (by assumption) ?_
        (try simp only [Act.put, List.setIfInBounds_toArray, List.set_cons_zero, List.set_cons_succ])
        refine takeW 22 (some 43) ?_ rfl rfl (by kernel_rfl) (by kernel_rfl) (by kernel_rfl) (fun _ _ _ h => h) ?_ (by assumption) ?_
        rotate_left 1
        · (intro o ho w hSw; obtain rfl := Option.some.inj ho; clear ho; (try dsimp only at hSw); go_simp; try (with_reducible rfl))
        (try simp only [Act.put, List.setIfInBounds_toArray, List.set_cons_zero, List.set_cons_succ])
        refine wpAnyH_done (by kernel_rfl) ?_ _
        have hbel3 := hbel.drew.trans (hb3.mono hbel.drew.size)
        clear d0 p0 q0 i0 a0 c1'
        go_wp2
        go_roundw
        case rel => exact ⟨k + 1, by omega, by go_num, by rw [HSN.out, HALL.out, HS1.out]; rfl, hbel3⟩
        case measure => simp [intOf]; omega
      · rw [hpk] at HM1
        have HS1 := hide (show st k = c.le xo tg by rw [HSX.out, hpk]; rfl)
        clear hpk
        go_wp2_with fail
        refine wp_region_held_drew (S := (fun w' => ((partIs w' g q 37 ∧ partAt w' g q 37 = ordC n f) ∧ w'.cell? ⟨g, q + 37, none⟩ = some (.slice (some ⟨rb, 0, none⟩) row.length cap)) ∧ w'.cell? ⟨rb, k * 20 + 1, none⟩ = some (.int .i64 xo))) (by kernel_rfl) ?_ (fun hHeld => ?_)
        · exact ⟨⟨⟨i0, a0⟩, d0⟩, c1'⟩
        refine takeW 0 (some 21) ?_ rfl rfl (by kernel_rfl) (by kernel_rfl) (by kernel_rfl) (fun _ _ _ h => h) ?_ (by assumption) ?_
        rotate_left 1
        · (intro o ho w hSw; obtain rfl := Option.some.inj ho; clear ho; (try dsimp only at hSw); go_simp; try (with_reducible rfl))
        (try simp only [Act.put, List.setIfInBounds_toArray, List.set_cons_zero, List.set_cons_succ])
        refine takeW 1 (some 22) ?_ rfl rfl (by kernel_rfl) (by kernel_rfl) (by kernel_rfl) (fun _ _ _ h => h) ?_ (by assumption) ?_
        rotate_left 1
        · (intro o ho w hSw; obtain rfl := Option.some.inj ho; clear ho; (try dsimp only at hSw); go_simp; try (with_reducible rfl))
        (try simp only [Act.put, List.setIfInBounds_toArray, List.set_cons_zero, List.set_cons_succ])
        refine takeW 2 (some 23) ?_ rfl rfl (by kernel_rfl) (by kernel_rfl) (by kernel_rfl) (fun _ _ _ h => h) ?_ (by assumption) ?_
        rotate_left 1
        · (intro o ho w hSw; obtain rfl := Option.some.inj ho; clear ho; (try dsimp only at hSw); go_simp; try (with_reducible rfl))
        (try simp only [Act.put, List.setIfInBounds_toArray, List.set_cons_zero, List.set_cons_succ])
        refine takeW 3 (some 24) ?_ rfl rfl (by kernel_rfl) (by kernel_rfl) (by kernel_rfl) (fun _ _ _ h => h) ?_ (by assumption) ?_
        rotate_left 1
        · (intro o ho w hSw; obtain rfl := Option.some.inj ho; clear ho; (try dsimp only at hSw); go_simp; try (with_reducible rfl))
        (try simp only [Act.put, List.setIfInBounds_toArray, List.set_cons_zero, List.set_cons_succ])
        refine takeW 4 (some 25) ?_ rfl rfl (by kernel_rfl) (by kernel_rfl) (by kernel_rfl) (fun _ _ _ h => h) ?_ (by assumption) ?_
        rotate_left 1
        · (intro o ho w hSw; obtain rfl := Option.some.inj ho; clear ho; (try dsimp only at hSw); go_simp; try (with_reducible rfl))
        (try simp only [Act.put, List.setIfInBounds_toArray, List.set_cons_zero, List.set_cons_succ])
        refine wpAnyH_ready (rs := [5]) (by kernel_rfl) (by simp) ?_
        refine AllReadyH.cons rfl (fun K hK => ?_) AllReadyH.nil
        go_simp
        go_wp2_with (go_at_call 135; refine (HM1.out).mono ?_; rintro e w3 ⟨rfl, hb3⟩; have HR3 := hide (PRowAt.below (w := wo.drew) HRo.out hb3 hgo); have i3 := HR3.out.is; have a3 := HR3.out.at; have d3 := HR3.out.cells; have o3 := (hb3.cell (p := ⟨rb, k * 20 + 1, none⟩) hrbo).trans c1')
        refine hK.out _ _ ?_ (fun hHeld => ?_)
        · exact ⟨⟨⟨i3, a3⟩, d3⟩, o3⟩
        clear hK K
        refine takeW 6 (some 27) ?_ rfl rfl (by kernel_rfl) (by kernel_rfl) (by kernel_rfl) (fun _ _ _ h => h) ?_ (by assumption) ?_
        rotate_left 1
        · (intro o ho w hSw; obtain rfl := Option.some.inj ho; clear ho; (try dsimp only at hSw); go_simp; try (with_reducible rfl))
        (try simp only [Act.put, List.setIfInBounds_toArray, List.set_cons_zero, List.set_cons_succ])
        refine takeW 7 (some 28) ?_ rfl rfl (by kernel_rfl) (by kernel_rfl) (by kernel_rfl) (fun _ _ _ h => h) ?_ (by assumption) ?_
        rotate_left 1
        · (intro o ho w hSw; obtain rfl := Option.some.inj ho; clear ho; (try dsimp only at hSw); go_simp; try (with_reducible rfl))
        (try simp only [Act.put, List.setIfInBounds_toArray, List.set_cons_zero, List.set_cons_succ])
        refine takeW 8 (some 29) ?_ rfl rfl (by kernel_rfl) (by kernel_rfl) (by kernel_rfl) (fun _ _ _ h => h) ?_ (by assumption) ?_
        rotate_left 1
        · (intro o ho w hSw; obtain rfl := Option.some.inj ho; clear ho; (try dsimp only at hSw); go_simp; try (with_reducible rfl))
        (try simp only [Act.put, List.setIfInBounds_toArray, List.set_cons_zero, List.set_cons_succ])
        refine takeW 9 (some 30) ?_ rfl rfl (by kernel_rfl) (by kernel_rfl) (by kernel_rfl) (fun _ _ _ h => h) ?_ (by assumption) ?_
        rotate_left 1
        · (intro o ho w hSw; obtain rfl := Option.some.inj ho; clear ho; (try dsimp only at hSw); go_simp; try (with_reducible rfl))
        (try simp only [Act.put, List.setIfInBounds_toArray, List.set_cons_zero, List.set_cons_succ])
        refine takeW 10 (some 31) (.agg (ordC n f)) rfl rfl (by kernel_rfl) (by kernel_rfl) (by kernel_rfl) (fun _ _ _ h => h) ?_ (by assumption) ?_
        · (intro o ho w hSw; obtain rfl := Option.some.inj ho; clear ho; exact exec_load_ord rfl rfl hSw.1.1.1 hSw.1.1.2)
        (try simp only [Act.put, List.setIfInBounds_toArray, List.set_cons_zero, List.set_cons_succ])
        refine takeW 11 (some 32) ?_ rfl rfl (by kernel_rfl) (by kernel_rfl) (by kernel_rfl) (fun _ _ _ h => h) ?_ (by assumption) ?_
        rotate_left 1
        · (intro o ho w hSw; obtain rfl := Option.some.inj ho; clear ho; (try dsimp only at hSw); go_simp; try (with_reducible rfl))
        (try simp only [Act.put, List.setIfInBounds_toArray, List.set_cons_zero, List.set_cons_succ])
        refine takeW 12 (some 33) ?_ rfl rfl (by kernel_rfl) (by kernel_rfl) (by kernel_rfl) (fun _ _ _ h => h) ?_ (by assumption) ?_
        rotate_left 1
        · (intro o ho w hSw; obtain rfl := Option.some.inj ho; clear ho; (try dsimp only at hSw); go_simp; try (with_reducible rfl))
        (try simp only [Act.put, List.setIfInBounds_toArray, List.set_cons_zero, List.set_cons_succ])
        refine takeW 13 (some 34) ?_ rfl rfl (by kernel_rfl) (by kernel_rfl) (by kernel_rfl) (fun _ _ _ h => h) ?_ (by assumption) ?_
        rotate_left 1
        · (intro o ho w hSw; obtain rfl := Option.some.inj ho; clear ho; (try dsimp only at hSw); go_simp; try (with_reducible rfl))
        (try simp only [Act.put, List.setIfInBounds_toArray, List.set_cons_zero, List.set_cons_succ])
        refine takeW 14 (some 35) ?_ rfl rfl (by kernel_rfl) (by kernel_rfl) (by kernel_rfl) (fun _ _ _ h => h) ?_ (by assumption) ?_
        rotate_left 1
        · (intro o ho w hSw; obtain rfl := Option.some.inj ho; clear ho; (try dsimp only at hSw); go_simp; try (with_reducible rfl))
        (try simp only [Act.put, List.setIfInBounds_toArray, List.set_cons_zero, List.set_cons_succ])
        refine takeW 15 (some 36) ?_ rfl rfl (by kernel_rfl) (by kernel_rfl) (by kernel_rfl) (fun _ _ _ h => h) ?_ (by assumption) ?_
        rotate_left 1
        · (intro o ho w hSw; obtain rfl := Option.some.inj ho; clear ho; (try dsimp only at hSw); go_simp; try (with_reducible rfl))
        (try simp only [Act.put, List.setIfInBounds_toArray, List.set_cons_zero, List.set_cons_succ])
        refine takeW 16 (some 37) ?_ rfl rfl (by kernel_rfl) (by kernel_rfl) (by kernel_rfl) (fun _ _ _ h => h) ?_ (by assumption) ?_
        rotate_left 1
        · (intro o ho w hSw; obtain rfl := Option.some.inj ho; clear ho; (try dsimp only at hSw); go_simp; try (with_reducible rfl))
        (try simp only [Act.put, List.setIfInBounds_toArray, List.set_cons_zero, List.set_cons_succ])
        refine takeW 17 (some 38) ?_ rfl rfl (by kernel_rfl) (by kernel_rfl) (by kernel_rfl) (fun _ _ _ h => h) ?_ (by assumption) ?_
        rotate_left 1
        · (intro o ho w hSw; obtain rfl := Option.some.inj ho; clear ho; (try dsimp only at hSw); go_simp; try (with_reducible rfl))
        (try simp only [Act.put, List.setIfInBounds_toArray, List.set_cons_zero, List.set_cons_succ])
        refine takeW 18 (some 39) ?_ rfl rfl (by kernel_rfl) (by kernel_rfl) (by kernel_rfl) (fun _ _ _ h => h) ?_ (by assumption) ?_
        rotate_left 1
        · (intro o ho w hSw; obtain rfl := Option.some.inj ho; clear ho; (try dsimp only at hSw); go_simp; try (with_reducible rfl))
        (try simp only [Act.put, List.setIfInBounds_toArray, List.set_cons_zero, List.set_cons_succ])
        refine takeW 19 (some 40) ?_ rfl rfl (by kernel_rfl) (by kernel_rfl) (by kernel_rfl) (fun _ _ _ h => h) ?_ (by assumption) ?_
        rotate_left 1
        · (intro o ho w hSw; obtain rfl := Option.some.inj ho; clear ho; (try dsimp only at hSw); go_simp; try (with_reducible rfl))
        (try simp only [Act.put, List.setIfInBounds_toArray, List.set_cons_zero, List.set_cons_succ])
        refine wpAnyH_ready (rs := [20]) (by kernel_rfl) (by simp) ?_
        refine AllReadyH.cons rfl (fun K hK => ?_) AllReadyH.nil
        go_simp
        go_wp2_with (go_at_call 66; refine (HQX.out _).mono ?_; rintro e w5 ⟨rfl, hb5⟩; have HR5 := hide (HR3.out.below hb5 HR3.out.lt); have i5 := HR5.out.is; have a5 := HR5.out.at; have d5 := HR5.out.cells; have o5 := (hb5.cell (p := ⟨rb, k * 20 + 1, none⟩) (Nat.lt_of_lt_of_le hrbo hb3.size)).trans o3)
        refine hK.out _ _ ?_ (fun hHeld => ?_)
        · exact ⟨⟨⟨i5, a5⟩, d5⟩, o5⟩
        clear hK K
        refine takeW 21 (some 42) ?_ rfl rfl (by kernel_rfl) (by kernel_rfl) (by kernel_rfl) (fun _ _ _ h => h) ?_ (by assumption) ?_
        rotate_left 1
        · (intro o ho w hSw; obtain rfl := Option.some.inj ho; clear ho; (try dsimp only at hSw); go_simp; try (with_reducible rfl))
        (try simp only [Act.put, List.setIfInBounds_toArray, List.set_cons_zero, List.set_cons_succ])
        refine takeW 22 (some 43) ?_ rfl rfl (by kernel_rfl) (by kernel_rfl) (by kernel_rfl) (fun _ _ _ h => h) ?_ (by assumption) ?_
        rotate_left 1
        · (intro o ho w hSw; obtain rfl := Option.some.inj ho; clear ho; (try dsimp only at hSw); go_simp; try (with_reducible rfl))
        (try simp only [Act.put, List.setIfInBounds_toArray, List.set_cons_zero, List.set_cons_succ])
        refine wpAnyH_done (by kernel_rfl) ?_ _
        have hbel5 := (hbel.drew.trans (hb3.mono hbel.drew.size)).trans (hb5.mono (Nat.le_trans hbel.size hb3.size))
        clear d0 p0 q0 i0 a0 c1' i3 a3 d3 o3 i5 a5 d5 o5
        cases hle : c.le xo tg
        · have HF := hide (HSF.out (by rw [HS1.out, hle]))
          clear hle
          go_wp2
          go_ret
          exact ⟨ret_bool (by rw [HF.out]), hbel5⟩
        · rw [hle] at HS1
          clear hle
          go_wp2
          go_roundw
          case rel => exact ⟨k + 1, by omega, by go_num, by rw [HSN.out, HALL.out, HS1.out]; rfl, hbel5⟩
          case measure => simp [intOf]; omega
    · obtain rfl : k = row.length := by omega
      have hkc : decide ((row.length : Int) < (row.length : Int)) = false := by simp
      go_wp2
      go_ret
      exact ⟨ret_bool (by rw [HALL.out]), hbel⟩
end Go.Proofs.YthgcpjdlcooncaaGreat
