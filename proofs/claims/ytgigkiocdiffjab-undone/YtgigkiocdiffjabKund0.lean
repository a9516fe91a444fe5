/- P18: a text of signs, inserted and deleted again; veilkeep.signs. -/
import Derived.Test.YtgigkiocdiffjabKuno4
import Derived.Test.YtgigkiocdiffjabUKundo2
import Derived.Test.YtgigkiocdiffjabKshowx
import Derived.Test.YtgigkiocdiffjabUKeepP
import Derived.Test.YtgigkiocdiffjabUKown
namespace Go.Proofs.Ytgigkiocdiffjab
open Go.RowKit Veil
def txtU (l : List Nat) : ByteArray := textF (fun j => l.getD j 0) 0 l.length
theorem bytes_inj {a b : ByteArray} (h : bytes a = bytes b) : a = b := by
  unfold bytes at h
  exact ByteArray.ext (Array.toList_inj.1 h)
theorem bytes_app (a b : ByteArray) : bytes (a ++ b) = bytes a ++ bytes b := by
  simp [bytes]
theorem bytes_cutb (s : ByteArray) (i j : Nat) : bytes (s.extract i j) = ((bytes s).drop i).take (j - i) := by
  simp only [bytes, ByteArray.data_extract, Array.toList_extract, List.extract_eq_take_drop]
theorem bytes_txtU (l : List Nat) : bytes (txtU l) = l.map UInt8.ofNat := by
  unfold txtU textF bytes
  apply List.ext_getElem?
  intro i
  simp only [Nat.sub_zero, List.getElem?_map]
  by_cases h : i < l.length
  · simp [h]
  · simp [h]
theorem new_bytes (t : ByteArray) (lv : Nat) : ∀ k, k ≤ t.size → ((newC t lv k).map (·.b)).map UInt8.ofNat = (bytes t).take k
  | 0, _ => by simp [newC_zero]
  | k + 1, h => by
    rw [newC_succ t lv k (by omega), List.map_append, List.map_append, new_bytes t lv k (by omega), take_snoc t k (by omega)]
    simp
theorem view_bytesU (P : List Pl) : bytes (viewT P) = (P.map (·.b)).map UInt8.ofNat := by
  unfold viewT textF bytes
  apply List.ext_getElem?
  intro i
  simp only [Nat.sub_zero, List.getElem?_map]
  by_cases h : i < P.length
  · simp [h, plB]
  · simp [h]
/-- The signs. -/
def signsT (i : Nat) : ByteArray := (⟨#[43, 45, 47, 61]⟩ : ByteArray).extract 0 (1 + i)
theorem signs_is (i : Nat) (h : i < 4) : textOkB (signsT i) = true ∧ (signsT i).size = 1 + i := by
  have : i = 0 ∨ i = 1 ∨ i = 2 ∨ i = 3 := by omega
  rcases this with rfl | rfl | rfl | rfl <;> exact ⟨by decide, by decide⟩
section
variable {c : Cfg} {s : PSt} {lv a : Nat} {t : ByteArray}
theorem und_ins (hn : (c.n : Int) = c.labels) (hlv : lv < c.n) (ha : a ≤ (placesR c s.row lv).length) (ht : textOkB t = true) : insCode c s.row lv a t = bif decide (200 < ownC s.row lv + t.size) then 9 else 0 := by
  have hok : okL c.labels (lv : Int) = true := by
    rw [← hn]
    simp [okL]
    omega
  unfold insCode
  rw [hok, Int.toNat_natCast, ht, show decide ((a : Int) < 0) = false by simp, show decide (((placesR c s.row lv).length : Int) < (a : Int)) = false by simp; omega]
  rfl
theorem und_res (h0 : insCode c s.row lv a t = 0) : insRes c s lv a t = insSt c s lv a t := by
  unfold insRes
  rw [h0]
  rfl
structure UndOk (c : Cfg) (s s1 : PSt) (lv a : Nat) (t : ByteArray) : Prop where
  view : viewT (placesR c s1.row lv) = (viewT (placesR c s.row lv)).extract 0 a ++ t ++ (viewT (placesR c s.row lv)).extract a (viewT (placesR c s.row lv)).size
  del : delCode c s1.row lv a ((a + t.size : Nat) : Int) = 0
  back : RowGood c (delRes c s1 lv a ((a + t.size : Nat) : Int)).row → ∀ d, viewT (placesR c (delRes c s1 lv a ((a + t.size : Nat) : Int)).row d) = viewT (placesR c s.row d)
theorem und_ok (hr : c.rules = []) (hn : (c.n : Int) = c.labels) (hlv : lv < c.n) (hle : c.le lv lv = true) (hg : RowGood c s.row) (ha : a ≤ (placesR c s.row lv).length) (ht1 : 1 ≤ t.size) (hg1 : RowGood c (insSt c s lv a t).row) : UndOk c s (insSt c s lv a t) lv a t := by
  have hN : (newC t lv t.size).length = t.size := newC_length t lv t.size
  have hu : Undo c s.row lv a (newC t lv t.size) (insSt c s lv a t).row := undo_is hr hle hg ha (newC t lv t.size) (fun x hx => new_form hx) (by omega) hg1
  have hok : okL c.labels (lv : Int) = true := by
    rw [← hn]
    simp [okL]
    omega
  have hlen : (placesR c (insSt c s lv a t).row lv).length = (placesR c s.row lv).length + t.size := by
    have := congrArg List.length hu.bytes
    simp only [List.length_map, List.length_append, List.length_take, List.length_drop, hN] at this
    omega
  have hd : delCode c (insSt c s lv a t).row lv a ((a + t.size : Nat) : Int) = 0 := by
    unfold delCode
    rw [hok, Int.toNat_natCast, hlen]
    have : pieceB (a : Int) ((a + t.size : Nat) : Int) ((placesR c s.row lv).length + t.size) = true := by
      unfold pieceB
      simp only [Bool.and_eq_true, decide_eq_true_eq]
      omega
    rw [this]
    rfl
  refine ⟨?_, hd, fun hg2 d => ?_⟩
  · apply bytes_inj
    have htk : (bytes t).take t.size = bytes t := List.take_of_length_le (by rw [bytes_length]; exact Nat.le_refl _)
    rw [bytes_app, bytes_app, bytes_cutb, bytes_cutb, view_bytesU, view_bytesU, hu.bytes, viewT_size, List.map_append, List.map_append, new_bytes _ _ _ (Nat.le_refl _), htk, List.map_take, List.map_drop, Nat.sub_zero, List.drop_zero]
    congr 1
    rw [List.take_of_length_le (by simp)]
  · have e : delRes c (insSt c s lv a t) lv a ((a + t.size : Nat) : Int) = markSt c (insSt c s lv a t) lv a (a + t.size) lv ⟨2, lv, 0⟩ := by
      unfold delRes
      rw [hd, Int.toNat_natCast, Int.toNat_natCast, Int.toNat_natCast]
      rfl
    rw [e] at hg2 ⊢
    apply view_eqb
    rw [places_bytes hr hg2, places_bytes hr hg]
    have := hu.back d
    rw [hN] at this
    exact congrArg colL this
end
set_option maxRecDepth 100000 in
set_option maxHeartbeats 1000000 in
theorem ksigns_any (n : Int) (i : Nat) (w : World) (hn : -9223372036854775808 ≤ n ∧ n ≤ 9223372036854775807) (hi : pickK n 4 = i) (hi4 : i < 4) :
    Calls Try.prog 11 #[.int .i64 n] w fun e w' => e = .returned (.string (signsT i)) ∧ w = w' := by
  have hP := kpick_any n 4 w hn (by decide) (by decide)
  rw [show ((4 : Nat) : Int) = 4 from rfl, hi] at hP
  have HP := hide hP
  clear hP hi hn
  unfold signsT
  go_enter Try.func11, Try.ntmps11
  go_wp2_with fail
  refine (HP.out).mono ?_
  rintro e wz ⟨rfl, rfl⟩
  have h1 : (1 : Int) + (i : Int) ≤ 4 := by omega
  go_wp2
  go_ret
  exact ⟨rfl, rfl⟩
end Go.Proofs.Ytgigkiocdiffjab
