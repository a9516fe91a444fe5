/- Docb. -/
import Derived.Test.YthgcpjdlcooncaaGreatE36
namespace Go.Proofs.YthgcpjdlcooncaaGreat
open Go.RowKit Veil
set_option maxRecDepth 100000 in
set_option maxHeartbeats 4000000 in
theorem dcView_no (g n : Nat) (f : Nat → Nat → Bool) (rv pv : Value) (GR : Nat → Nat → Bool) (I Lg : Nat → Nat) (level : Int) (w : World) (hbox : PBox w g n f rv GR pv I Lg) (hlv : okL n level = false) :
    Calls Tryz.prog 88 #[.pointer (some ⟨g, 0, none⟩), .int .i64 level] w fun e w' => e = .returned (.tuple #[.string ByteArray.empty, .int .i64 6]) ∧ Below w.heap.size w w' := by
  have i0 := hbox.is
  have a0 := hbox.at
  have r0 := hbox.not
  have HQ := hide (has_any n f level w)
  rw [hlv] at HQ
  clear hlv hbox
  go_enter Tryz.func88, Tryz.ntmps88
  go_wp2_with fail
  refine (HQ.out).mono ?_
  rintro e w1 ⟨rfl, hb1⟩
  clear i0 a0 r0
  go_wp2
  go_ret2
  exact ⟨rfl, hb1⟩
set_option maxRecDepth 100000 in
set_option maxHeartbeats 4000000 in
theorem dcSpans_no (g n : Nat) (f : Nat → Nat → Bool) (rv pv : Value) (GR : Nat → Nat → Bool) (I Lg : Nat → Nat) (level : Int) (w : World) (hbox : PBox w g n f rv GR pv I Lg) (hlv : okL n level = false) :
    Calls Tryz.prog 41 #[.pointer (some ⟨g, 0, none⟩), .int .i64 level] w fun e w' => e = .returned (.tuple #[.slice none 0 0, .int .i64 6]) ∧ Below w.heap.size w w' := by
  have i0 := hbox.is
  have a0 := hbox.at
  have r0 := hbox.not
  have HQ := hide (has_any n f level w)
  rw [hlv] at HQ
  clear hlv hbox
  go_enter Tryz.func41, Tryz.ntmps41
  go_wp2_with fail
  refine (HQ.out).mono ?_
  rintro e w1 ⟨rfl, hb1⟩
  clear i0 a0 r0
  go_wp2
  go_ret2
  exact ⟨rfl, hb1⟩
set_option maxRecDepth 100000 in
set_option maxHeartbeats 4000000 in
theorem dcFind_no (g n : Nat) (f : Nat → Nat → Bool) (rv pv : Value) (GR : Nat → Nat → Bool) (I Lg : Nat → Nat) (level : Int) (p : ByteArray) (w : World) (hbox : PBox w g n f rv GR pv I Lg) (hlv : okL n level = false) :
    Calls Tryz.prog 44 #[.pointer (some ⟨g, 0, none⟩), .int .i64 level, .string p] w fun e w' => e = .returned (.tuple #[.slice none 0 0, .int .i64 6]) ∧ Below w.heap.size w w' := by
  have i0 := hbox.is
  have a0 := hbox.at
  have r0 := hbox.not
  have HQ := hide (has_any n f level w)
  rw [hlv] at HQ
  clear hlv hbox
  go_enter Tryz.func44, Tryz.ntmps44
  go_wp2_with fail
  refine (HQ.out).mono ?_
  rintro e w1 ⟨rfl, hb1⟩
  clear i0 a0 r0
  go_wp2
  go_ret2
  exact ⟨rfl, hb1⟩
set_option maxRecDepth 100000 in
set_option maxHeartbeats 4000000 in
theorem dcLeft_no (g n : Nat) (f : Nat → Nat → Bool) (rv pv : Value) (GR : Nat → Nat → Bool) (I Lg : Nat → Nat) (level : Int) (w : World) (hbox : PBox w g n f rv GR pv I Lg) (hlv : okL n level = false) :
    Calls Tryz.prog 89 #[.pointer (some ⟨g, 0, none⟩), .int .i64 level] w fun e w' => e = .returned (.tuple #[.int .i64 0, .int .i64 6]) ∧ Below w.heap.size w w' := by
  have i0 := hbox.is
  have a0 := hbox.at
  have r0 := hbox.not
  have HQ := hide (has_any n f level w)
  rw [hlv] at HQ
  clear hlv hbox
  go_enter Tryz.func89, Tryz.ntmps89
  go_wp2_with fail
  refine (HQ.out).mono ?_
  rintro e w1 ⟨rfl, hb1⟩
  clear i0 a0 r0
  go_wp2
  go_ret2
  exact ⟨rfl, hb1⟩
set_option maxRecDepth 100000 in
set_option maxHeartbeats 4000000 in
theorem dcLeft_ok (g n : Nat) (f : Nat → Nat → Bool) (rv pv : Value) (GR : Nat → Nat → Bool) (I Lg : Nat → Nat) (lv : Nat) (w : World) (hbox : PBox w g n f rv GR pv I Lg) (hn6 : n ≤ 6) (hlv : lv < n) (hI : I lv ≤ 200) :
    Calls Tryz.prog 89 #[.pointer (some ⟨g, 0, none⟩), .int .i64 lv] w fun e w' => e = .returned (.tuple #[.int .i64 (200 - (I lv : Int)), .int .i64 0]) ∧ Below w.heap.size w w' := by
  have HB := hide hbox
  have hgl := hbox.lt
  have i0 := hbox.is
  have a0 := hbox.at
  have r0 := hbox.not
  have HQ := hide (has_any n f lv w)
  rw [okL_lt hlv] at HQ
  have hli : (lv : Int) < 6 := by omega
  generalize hil : I lv = il at *
  have HIL := hide hil
  clear hbox hil
  go_enter Tryz.func89, Tryz.ntmps89
  go_wp2_with fail
  refine (HQ.out).mono ?_
  rintro e w1 ⟨rfl, hb1⟩
  have c1 := (HB.out.below hb1 hgl).ins lv (by omega)
  rw [HIL.out] at c1
  clear i0 a0 r0
  go_wp2
  go_ret2
  exact ⟨by go_num, hb1⟩
set_option maxRecDepth 100000 in
set_option maxHeartbeats 4000000 in
theorem dcView_ok (c : Cfg) (row : List RC) (g n : Nat) (f : Nat → Nat → Bool) (rv pv : Value) (GR : Nat → Nat → Bool) (I Lg : Nat → Nat) (B : Nat) (lv : Nat) (w : World) (hbox : PBox w g n f rv GR pv I Lg) (hrl : OwnL 96 2 ruleV w B rv c.rules) (hce : OwnL 188 20 (pcV c) w B pv row) (hn : n = c.n) (hf : f = tT c) (hR : CfgRight c) (hrow : RowGood c row) (hlv : lv < c.n) :
    Calls Tryz.prog 88 #[.pointer (some ⟨g, 0, none⟩), .int .i64 lv] w fun e w' => e = .returned (.tuple #[.string (viewT (placesR c row lv)), .int .i64 0]) ∧ Below w.heap.size w w' := by
  have HT := hide (fun (w' : World) (hb : Below w.heap.size w w') => dcText_any c row g n f rv pv GR I Lg B lv w' (hbox.below hb hbox.lt) (hrl.below hb) (hce.below hb) hn hf hR hrow hlv)
  have i0 := hbox.is
  have a0 := hbox.at
  have r0 := hbox.not
  have HQ := hide (has_any n f lv w)
  rw [okL_lt (show lv < n by omega)] at HQ
  generalize viewT (placesR c row lv) = s at *
  clear hbox hrl hce hn hf hR hrow hlv
  go_enter Tryz.func88, Tryz.ntmps88
  go_wp2_with fail
  refine (HQ.out).mono ?_
  rintro e w1 ⟨rfl, hb1⟩
  clear i0 a0 r0
  go_wp2_with fail
  refine (HT.out _ hb1).mono ?_
  rintro e w2 ⟨rfl, hb2⟩
  go_wp2
  go_ret2
  exact ⟨rfl, hb1.trans (hb2.mono hb1.size)⟩
theorem viewT_len (c : Cfg) (row : List RC) (lv : Nat) (hrow : RowGood c row) : (viewT (placesR c row lv)).size ≤ 1200 := by
  have h1 := (placesR_ok c row lv (fun x hx => (hrow.cells x hx).1.byte)).1
  have h2 := hrow.length
  rw [viewT_size]; omega
set_option maxRecDepth 100000 in
set_option maxHeartbeats 4000000 in
theorem dcSpans_ok (c : Cfg) (row : List RC) (g n : Nat) (f : Nat → Nat → Bool) (rv pv : Value) (GR : Nat → Nat → Bool) (I Lg : Nat → Nat) (B : Nat) (lv : Nat) (w : World) (hbox : PBox w g n f rv GR pv I Lg) (hrl : OwnL 96 2 ruleV w B rv c.rules) (hce : OwnL 188 20 (pcV c) w B pv row) (hn : n = c.n) (hf : f = tT c) (hR : CfgRight c) (hrow : RowGood c row) (hlv : lv < c.n) :
    Calls Tryz.prog 41 #[.pointer (some ⟨g, 0, none⟩), .int .i64 lv] w fun e w' => ∃ vl, e = .returned (.tuple #[vl, .int .i64 0]) ∧ OwnL 57 3 spV w' w.heap.size vl (spansTo (viewT (placesR c row lv)) (viewT (placesR c row lv)).size) ∧ Below w.heap.size w w' := by
  have HT := hide (fun (w' : World) (hb : Below w.heap.size w w') => dcText_any c row g n f rv pv GR I Lg B lv w' (hbox.below hb hbox.lt) (hrl.below hb) (hce.below hb) hn hf hR hrow hlv)
  have hsz := viewT_len c row lv hrow
  have i0 := hbox.is
  have a0 := hbox.at
  have r0 := hbox.not
  have HQ := hide (has_any n f lv w)
  rw [okL_lt (show lv < n by omega)] at HQ
  generalize viewT (placesR c row lv) = s at *
  have HS := hide (fun (w' : World) => spOf_any s w' (by omega))
  clear hbox hrl hce hn hf hR hrow hlv
  go_enter Tryz.func41, Tryz.ntmps41
  go_wp2_with fail
  refine (HQ.out).mono ?_
  rintro e w1 ⟨rfl, hb1⟩
  clear i0 a0 r0
  go_wp2_with fail
  refine (HT.out _ hb1).mono ?_
  rintro e w2 ⟨rfl, hb2⟩
  have hbw := hb1.trans (hb2.mono hb1.size)
  go_wp2_with fail
  refine (HS.out _).mono ?_
  rintro e w3 ⟨vl, rfl, hvl, hb3⟩
  obtain ⟨ao, cap, hvv⟩ := hvl.shape
  subst hvv
  go_wp2
  go_ret2
  exact ⟨_, rfl, hvl.mono hbw.size, hbw.trans (hb3.mono hbw.size)⟩
set_option maxRecDepth 100000 in
set_option maxHeartbeats 4000000 in
theorem dcFind_text (g n : Nat) (f : Nat → Nat → Bool) (rv pv : Value) (GR : Nat → Nat → Bool) (I Lg : Nat → Nat) (lv : Nat) (p : ByteArray) (w : World) (hbox : PBox w g n f rv GR pv I Lg) (hlv : lv < n) (hp : validB p = false) (hps : p.size ≤ maxLen) :
    Calls Tryz.prog 44 #[.pointer (some ⟨g, 0, none⟩), .int .i64 lv, .string p] w fun e w' => e = .returned (.tuple #[.slice none 0 0, .int .i64 8]) ∧ Below w.heap.size w w' := by
  have HV := hide (fun (w' : World) => valid_any p w' hps)
  rw [hp] at HV
  have i0 := hbox.is
  have a0 := hbox.at
  have r0 := hbox.not
  have HQ := hide (has_any n f lv w)
  rw [okL_lt hlv] at HQ
  clear hbox hlv hp hps
  go_enter Tryz.func44, Tryz.ntmps44
  go_wp2_with fail
  refine (HQ.out).mono ?_
  rintro e w1 ⟨rfl, hb1⟩
  clear i0 a0 r0
  go_wp2_with fail
  refine (HV.out _).mono ?_
  rintro e w2 ⟨rfl, rfl⟩
  go_wp2
  go_ret2
  exact ⟨rfl, hb1⟩
set_option maxRecDepth 100000 in
set_option maxHeartbeats 4000000 in
theorem dcFind_ok (c : Cfg) (row : List RC) (g n : Nat) (f : Nat → Nat → Bool) (rv pv : Value) (GR : Nat → Nat → Bool) (I Lg : Nat → Nat) (B : Nat) (lv : Nat) (p : ByteArray) (w : World) (hbox : PBox w g n f rv GR pv I Lg) (hrl : OwnL 96 2 ruleV w B rv c.rules) (hce : OwnL 188 20 (pcV c) w B pv row) (hn : n = c.n) (hf : f = tT c) (hR : CfgRight c) (hrow : RowGood c row) (hlv : lv < c.n) (hp : validB p = true) :
    Calls Tryz.prog 44 #[.pointer (some ⟨g, 0, none⟩), .int .i64 lv, .string p] w fun e w' => ∃ vl, e = .returned (.tuple #[vl, .int .i64 0]) ∧ OwnL 57 3 spV w' w.heap.size vl (findTo (viewT (placesR c row lv)) p (spansTo (viewT (placesR c row lv)) (viewT (placesR c row lv)).size) (spansTo (viewT (placesR c row lv)) (viewT (placesR c row lv)).size).length) ∧ Below w.heap.size w w' := by
  have HT := hide (fun (w' : World) (hb : Below w.heap.size w w') => dcText_any c row g n f rv pv GR I Lg B lv w' (hbox.below hb hbox.lt) (hrl.below hb) (hce.below hb) hn hf hR hrow hlv)
  have hsz := viewT_len c row lv hrow
  obtain ⟨hp1, hp2⟩ := validB_size hp
  have HV := hide (fun (w' : World) => valid_any p w' (by simp only [maxLen]; omega))
  rw [hp] at HV
  have i0 := hbox.is
  have a0 := hbox.at
  have r0 := hbox.not
  have HQ := hide (has_any n f lv w)
  rw [okL_lt (show lv < n by omega)] at HQ
  generalize viewT (placesR c row lv) = s at *
  have HS := hide (fun (w' : World) => spFind_any s p w' (by omega) hp)
  clear hbox hrl hce hn hf hR hrow hlv hp hp1 hp2
  go_enter Tryz.func44, Tryz.ntmps44
  go_wp2_with fail
  refine (HQ.out).mono ?_
  rintro e w1 ⟨rfl, hb1⟩
  clear i0 a0 r0
  go_wp2_with fail
  refine (HV.out _).mono ?_
  rintro e w1' ⟨rfl, rfl⟩
  go_wp2_with fail
  refine (HT.out _ hb1).mono ?_
  rintro e w2 ⟨rfl, hb2⟩
  have hbw := hb1.trans (hb2.mono hb1.size)
  go_wp2_with fail
  refine (HS.out _).mono ?_
  rintro e w3 ⟨vl, rfl, hvl, hb3⟩
  obtain ⟨ao, cap, hvv⟩ := hvl.shape
  subst hvv
  go_wp2
  go_ret2
  exact ⟨_, rfl, hvl.mono hbw.size, hbw.trans (hb3.mono hbw.size)⟩
/-- Are the places from a up to b some of m? -/
def pieceB (a b : Int) (m : Nat) : Bool := decide (0 ≤ a) && decide (a < b) && decide (b ≤ m)
set_option maxRecDepth 100000 in
set_option maxHeartbeats 4000000 in
theorem dcPiece_any (a b : Int) (m : Nat) (w : World) : Calls Tryz.prog 103 #[.int .i64 a, .int .i64 b, .int .i64 m] w fun e w' => e = .returned (.bool (pieceB a b m)) ∧ w = w' := by
  have HD := hide (show pieceB a b m = (decide (0 ≤ a) && decide (a < b) && decide (b ≤ m)) from rfl)
  by_cases h1 : 0 ≤ a
  · by_cases h2 : a < b
    · go_enter Tryz.func103, Tryz.ntmps103
      go_wp2
      go_ret
      exact ⟨ret_bool (by rw [HD.out]; simp [h1, h2]), rfl⟩
    · have h2' : b ≤ a := by omega
      have h2d : decide (a < b) = false := by simpa using h2
      clear h2
      go_enter Tryz.func103, Tryz.ntmps103
      go_wp2
      go_ret
      exact ⟨ret_bool (by rw [HD.out, h2d]; simp), rfl⟩
  · have h1' : a < 0 := by omega
    have h1d : decide (0 ≤ a) = false := by simpa using h1
    clear h1
    go_enter Tryz.func103, Tryz.ntmps103
    go_wp2
    go_ret
    exact ⟨ret_bool (by rw [HD.out, h1d]; simp), rfl⟩
set_option maxRecDepth 100000 in
set_option maxHeartbeats 4000000 in
theorem dcMay_any (s : ByteArray) (w : World) (hs : s.size ≤ 140737488355328) : Calls Tryz.prog 100 #[.string s] w fun e w' => e = .returned (.bool (textOkB s)) ∧ w = w' := by
  have HD := hide (show textOkB s = (okTo s s.size && decide (1 ≤ s.size) && decide (s.size ≤ 40)) from rfl)
  have HSU := hide (fun k h => okTo_succ s k h)
  have HFA := hide (fun k h h' => okTo_bad s k h h')
  by_cases h1 : s.size < 1
  · have h1i : (s.size : Int) < 1 := by omega
    go_enter Tryz.func100, Tryz.ntmps100
    go_wp2
    go_ret
    exact ⟨ret_bool (by rw [HD.out]; simp; omega), rfl⟩
  by_cases h2 : 40 < s.size
  · have h1i : (1 : Int) ≤ (s.size : Int) := by omega
    have h2i : (40 : Int) < (s.size : Int) := by omega
    go_enter Tryz.func100, Tryz.ntmps100
    go_wp2
    go_ret
    exact ⟨ret_bool (by rw [HD.out]; simp; omega), rfl⟩
  have h1i : (1 : Int) ≤ (s.size : Int) := by omega
  have h2i : (s.size : Int) ≤ 40 := by omega
  have HE := hide (show textOkB s = okTo s s.size by rw [HD.out]; simp [show 1 ≤ s.size by omega, show s.size ≤ 40 by omega])
  clear h1 h2 HD
  go_enter Tryz.func100, Tryz.ntmps100
  go_wp2
  go_loopw [3] (fun i wr => ∃ k : Nat, k ≤ s.size ∧ i = .int .i64 k ∧ okTo s k = true ∧ w = wr) (fun i _ => s.size - (intOf i).toNat)
  case atStart => exact ⟨0, Nat.zero_le _, rfl, rfl, rfl⟩
  case round =>
    obtain ⟨k, hk, rfl, hok, rfl⟩ := hrel
    have HOK := hide hok
    clear hok
    by_cases hlt : k < s.size
    · have hki : (k : Int) < (s.size : Int) := by omega
      have HS1 := hide (HSU.out k hlt)
      have HF1 := hide (HFA.out k hlt)
      by_cases b1 : s[k].toNat < 32
      · have b1' : ((s[k].toNat : Nat) : Int) < 32 := by omega
        have HB := hide (show okByte s[k].toNat = false by unfold okByte; simp; omega)
        have HT := hide (HF1.out HB.out)
        clear b1
        go_wp2
        go_ret
        exact ⟨ret_bool (by rw [HT.out]), rfl⟩
      · have b1' : (32 : Int) ≤ ((s[k].toNat : Nat) : Int) := by omega
        by_cases b2 : 126 < s[k].toNat
        · have b2' : (126 : Int) < ((s[k].toNat : Nat) : Int) := by omega
          have HB := hide (show okByte s[k].toNat = false by unfold okByte; simp; omega)
          have HT := hide (HF1.out HB.out)
          clear b1 b2
          go_wp2
          go_ret
          exact ⟨ret_bool (by rw [HT.out]), rfl⟩
        · have b2' : ((s[k].toNat : Nat) : Int) ≤ 126 := by omega
          cases b3 : (((s[k].toNat : Nat) : Int) == 35)
          · have HB := hide (show okByte s[k].toNat = true by unfold okByte; simp at b3 ⊢; omega)
            clear b1 b2
            go_wp2
            go_roundw
            case rel => exact ⟨k + 1, by omega, by go_num, by rw [HS1.out, HOK.out, HB.out]; rfl, trivial⟩
            case measure => simp [intOf]; omega
          · have HB := hide (show okByte s[k].toNat = false by unfold okByte; simp at b3 ⊢; omega)
            have HT := hide (HF1.out HB.out)
            clear b1 b2
            go_wp2
            go_ret
            exact ⟨ret_bool (by rw [HT.out]), rfl⟩
    · obtain rfl : k = s.size := by omega
      have hkc : decide ((s.size : Int) < (s.size : Int)) = false := by simp
      go_wp2
      go_ret
      exact ⟨ret_bool (by rw [HE.out, HOK.out]), rfl⟩
end Go.Proofs.YthgcpjdlcooncaaGreat
