/- A configuration, as data and in memory. -/
import Derived.Test.YtgigkiocdiffjaaGreatSeq
import Derived.Test.YtgigkiocdiffjaaGreatSpec
import Derived.Laws.MakeOwn
namespace Go.Proofs.YtgigkiocdiffjaaGreat
open Go.RowKit Veil
def xE (p : Int × Int) : Value := .int .i64 p.1
def yE (p : Int × Int) : Value := .int .i64 p.2
def xR (r : ByteArray × Int) : Value := .string r.1
def yR (r : ByteArray × Int) : Value := .int .i64 r.2
/-- Where its lists begin, and their capacities. -/
structure CfgV where
  ea : Option Addr
  ec : Nat
  ra : Option Addr
  rc : Nat
  ga : Option Addr
  gc : Nat
def cfgCells (c : Cfg) (v : CfgV) : Array Value := #[.int .i64 c.labels, .slice v.ea c.edges.length v.ec, .slice v.ra c.rules.length v.rc, .slice v.ga c.grants.length v.gc]
/-- The sizes that the reading gives. -/
structure CfgOk (c : Cfg) : Prop where
  edges : c.edges.length ≤ 8796093022208
  rules : c.rules.length ≤ 8796093022208
  grants : c.grants.length ≤ 8796093022208
  texts : ∀ r, r ∈ c.rules → r.1.size ≤ 140737488355328
structure CfgAt (w : World) (c : Cfg) (v : CfgV) : Prop where
  edges : SeqAt xE yE w v.ea c.edges
  rules : SeqAt xR yR w v.ra c.rules
  grants : SeqAt xE yE w v.ga c.grants
/-- A list that is nil has nothing in it. -/
structure CfgNil (c : Cfg) (v : CfgV) : Prop where
  edges : v.ea = none → c.edges.length = 0 ∧ v.ec = 0
  rules : v.ra = none → c.rules.length = 0 ∧ v.rc = 0
  grants : v.ga = none → c.grants.length = 0 ∧ v.gc = 0
theorem CfgAt.below {w w' : World} {c : Cfg} {v : CfgV} (h : CfgAt w c v) (hb : Below w.heap.size w w') : CfgAt w' c v := ⟨h.edges.below hb, h.rules.below hb, h.grants.below hb⟩

theorem Tryz.infoEdge : (Tryz.prog.info? 169).map (fun i => (i.zero, i.size, i.bytes)) = some (some (.agg #[.int .i64 0, .int .i64 0]), 2, 16) := by kernel_rfl
theorem Tryz.infoRule : (Tryz.prog.info? 163).map (fun i => (i.zero, i.size, i.bytes)) = some (some (.agg #[.string ByteArray.empty, .int .i64 0]), 2, 24) := by kernel_rfl
theorem Tryz.infoGrant : (Tryz.prog.info? 166).map (fun i => (i.zero, i.size, i.bytes)) = some (some (.agg #[.int .i64 0, .int .i64 0]), 2, 16) := by kernel_rfl
theorem made_two {α : Type} (x y : α → Value) (z : α) (n : Nat) : madeCells #[x z, y z] (n * 2) = (two x y (List.replicate n z)).toArray := by
  apply Array.ext_getElem?
  intro i
  by_cases hi : i < n * 2
  · have e : i = (i / 2) * 2 ∨ i = (i / 2) * 2 + 1 := by omega
    have hg := two_get x y (List.replicate n z) (i / 2)
    have hr : (List.replicate n z)[i / 2]? = some z := by rw [List.getElem?_replicate, if_pos (by omega)]
    rw [hr] at hg
    simp only [madeCells, Array.getElem?_map, Array.getElem?_range, hi]
    rcases e with e | e
    · rw [← e] at hg
      have : i % 2 = 0 := by omega
      simp [this, hg.1]
    · rw [← e] at hg
      have : i % 2 = 1 := by omega
      simp [this, hg.2]
  · rw [Array.getElem?_eq_none (by rw [size_madeCells]; omega), Array.getElem?_eq_none (by simp [two_length]; omega)]
theorem run_make_two {α : Type} (x y : α → Value) (z : α) (t e : TypeId) (bytes : Nat) (ht : Tryz.prog.underlying t = some (.slice e)) (hinfo : (Tryz.prog.info? e).map (fun i => (i.zero, i.size, i.bytes)) = some (some (.agg #[x z, y z]), 2, bytes))
    (n : Nat) (hb : bytes ≤ 24) (hn : n ≤ 10000000000000) (w : World) :
    (Instr.makeSlice t (.int .i64 (n : Int)) (.int .i64 (n : Int))).run Tryz.prog w = .ok (.slice (some ⟨w.heap.size, 0, none⟩) n n) (w.alloc (.cells (two x y (List.replicate n z)).toArray e)) := by
  obtain ⟨i, hi, hzz⟩ := Option.map_eq_some_iff.1 hinfo
  simp only [Prod.mk.injEq] at hzz
  obtain ⟨hz, hs, hby⟩ := hzz
  have hmul : i.bytes * n ≤ 24 * n := Nat.mul_le_mul_right n (by omega)
  have hbi : (i.bytes : Int) * (n : Int) ≤ 281474976710656 := by
    have h : ((i.bytes * n : Nat) : Int) ≤ 281474976710656 := by omega
    rwa [Int.natCast_mul] at h
  have hr := run_make (P := Tryz.prog) w t e i _ ht hi hz .i64 .i64 n n (by omega) (Int.le_refl _) hbi (by omega)
  simp only [Int.toNat_natCast, hs] at hr
  rw [hr]
  have : (Value.agg #[x z, y z]).cells = #[x z, y z] := rfl
  rw [this, made_two]
/-- Nothing but one block has turned. -/
structure OnlyAt (g : Nat) (w w' : World) : Prop where
  os : w'.os = w.os
  tape : w'.tape = w.tape
  output : w'.output = w.output
  size : w'.heap.size = w.heap.size
  block : ∀ k, k ≠ g → w'.heap[k]? = w.heap[k]?
theorem OnlyAt.row {g k : Nat} {w w' : World} {o : Obj} (h : OnlyAt g w w') (hk : k ≠ g) (ho : w.heap[k]? = some o) : w'.heap[k]? = some o := (h.block k hk).trans ho
theorem OnlyAt.below {g B : Nat} {w w' : World} (h : OnlyAt g w w') (hB : B ≤ g) : Below B w w' := ⟨h.os, h.tape, h.output, by rw [h.size]; exact Nat.le_refl _, fun k hk => h.block k (by omega)⟩
theorem onlyAt_setRow (g : Nat) (w : World) (cs : Array Value) : OnlyAt g w (w.setRow g cs) := ⟨rfl, rfl, rfl, by simp, fun k hk => setRow_other w g k cs hk⟩
/-- So many of one thing; a name that the walk leaves standing. -/
def pad {α : Type} (m : Nat) (z : α) : List α := List.replicate m z
theorem pad_length {α : Type} (m : Nat) (z : α) : (pad m z).length = m := by simp [pad]
/-- 'copy(fresh, l)'. -/
theorem wpList_copy_two {α : Type} {x y : α → Value} {P : Program} {w : World} {ops : Array Oper} {rest : List Oper} {o : Oper} {a : Act} {Q : Exit → Act → World → Prop} (hgd : o.guard = none) (d s : Operand) (dT : TypeId)
    (ho : o.op = .call { callee := .builtin .copy, args := #[d, s], argTypes := #[dT, dT] }) (elem : TypeId) (hu : P.underlying dT = some (.slice elem)) (hsz : (P.info? elem).map (·.size) = some 2)
    (g n m : Nat) (sp : Option Addr) (sCap : Nat) (l : List α) (z : α) (hd : a.eval d = .slice (some ⟨g, 0, none⟩) n n) (hs : a.eval s = .slice sp l.length sCap) (hn : n = l.length + m)
    (hg : RowAt x y w g elem (List.replicate n z)) (hsrc : SeqAt x y w sp l) (h1 : ∀ a : α, (x a).oneCell' = true ∧ (y a).oneCell' = true)
    (h : ∀ w', RowAt x y w' g elem (l ++ pad m z) → OnlyAt g w w' → wpList P ops Q rest (a.put o.dst (goInt l.length)) w') : wpList P ops Q (o :: rest) a w := by
  subst hn
  refine wpList_copy_rows hgd d s dT dT ho elem 2 hu hsz g _ _ sp l.length sCap hd hs (two x y (List.replicate (l.length + m) z)) elem hg (two x y l) (by omega) (two_length x y l) ?_ (by rw [two_length, two_length]; simp; omega) ?_ ?_
  · rcases hsrc with rfl | ⟨b, off, rfl, _, hc⟩
    · exact Or.inl ⟨rfl, rfl⟩
    · exact Or.inr ⟨_, rfl, fun j v hj => by
        have : (⟨b, off, none⟩ : Addr).add j = ⟨b, off + j, none⟩ := by unfold Addr.add; split <;> simp_all
        rw [this]; exact SeqAt.cells hc j v hj⟩
  · intro v hv
    simp only [two, List.mem_flatMap] at hv
    obtain ⟨a, _, hv⟩ := hv
    simp only [List.mem_cons, List.not_mem_nil, or_false] at hv
    rcases hv with rfl | rfl
    · exact (h1 a).1
    · exact (h1 a).2
  · refine h _ ?_ (onlyAt_setRow _ _ _)
    unfold RowAt
    rw [setRow_heap _ _ _ _ _ _ hg, two_append]
    congr 3
    unfold pad
    rw [← List.replicate_append_replicate, two_append, List.drop_left' (by rw [two_length, two_length]; simp)]
theorem one_E (p : Int × Int) : (xE p).oneCell' = true ∧ (yE p).oneCell' = true := ⟨rfl, rfl⟩
theorem one_R (r : ByteArray × Int) : (xR r).oneCell' = true ∧ (yR r).oneCell' = true := ⟨rfl, rfl⟩
end Go.Proofs.YtgigkiocdiffjaaGreat
