/-
  taskmillref.Marking: how it lies; Has.
  taskmillref.Marking: shade, roots.
-/
import Derived.Test.YtmkehjncnaokoaaCo
namespace Go.Proofs.Ytmkehjncnaokoaa
open Go.RowKit

/-- Is an object black? -/
def blkB (m : Mk) (x : Nat) : Bool := !m.wh x && !m.ln.contains x
/-- What is in line is there once, and met. -/
structure NodG (m : Mk) : Prop where
  nd : m.ln.Nodup
  nw : ∀ x, x ∈ m.ln → m.wh x = false
/-- A marking, and its heap: blocks of its own, each with its mark. -/
structure RfL (lo : Nat) (w : World) (lab : Nat → Nat) (b : Nat) (oa : Option Addr) (n co : Nat) (ar : Option Addr) (nr cr wb cw : Nat) (vl : Value) (g : Gm) : Prop where
  hn : g.os.length = n
  hr : g.rs.length = nr
  blk : w.heap[b]? = some (.cells #[.slice oa n co, .slice ar nr cr, .slice (some ⟨wb, 0, none⟩) n cw, vl] 65 (0, 0))
  obj : (oa = none ∧ n = 0 ∧ co = 0) ∨ ∃ bo, oa = some ⟨bo, 0, none⟩ ∧ w.there bo 0 co ∧ n ≤ co ∧ bo < w.heap.size ∧ lo ≤ bo ∧ lab bo = 6
  row : ∀ f, f < n → ∃ bo a c, oa = some ⟨bo, 0, none⟩ ∧ w.cell? ⟨bo, f, none⟩ = some (.slice a (g.os.getD f []).length c) ∧ OwnO lo w (.slice a (g.os.getD f []).length c) (g.os.getD f []) ∧ ∀ k, (Value.slice a (g.os.getD f []).length c).ownBlock = some k → lab k = 7 + f
  reg : OwnO lo w (.slice ar nr cr) g.rs
  rlb : ∀ k, (Value.slice ar nr cr).ownBlock = some k → lab k = 5
  bth : w.there wb 0 cw
  bwl : wb < w.heap.size
  bwe : n ≤ cw
  bla : ∀ x, x < n → w.cell? ⟨wb, x, none⟩ = some (.bool (blkB g.mm x))
  lin : OwnO lo w vl (ixL g.mm.ln)
  llb : ∀ k, vl.ownBlock = some k → lab k = 4
  lbs : lab b = 2 ∧ lab wb = 3
  low : lo ≤ b ∧ lo ≤ wb
theorem RfL.blt {lo : Nat} {w : World} {lab : Nat → Nat} {b : Nat} {oa : Option Addr} {n co : Nat} {ar : Option Addr} {nr cr wb cw : Nat} {vl : Value} {g : Gm} (h : RfL lo w lab b oa n co ar nr cr wb cw vl g) : b < w.heap.size := size_of h.blk
theorem RfL.olo {lo : Nat} {w : World} {lab : Nat → Nat} {b : Nat} {oa : Option Addr} {n co : Nat} {ar : Option Addr} {nr cr wb cw : Nat} {vl : Value} {g : Gm} (h : RfL lo w lab b oa n co ar nr cr wb cw vl g) {bo : Nat} (e : oa = some ⟨bo, 0, none⟩) : w.there bo 0 co ∧ n ≤ co ∧ bo < w.heap.size ∧ lo ≤ bo ∧ lab bo = 6 := by
  rcases h.obj with ⟨q, _⟩ | ⟨bo', q, q2⟩
  · rw [e] at q; cases q
  · rw [e] at q; cases q; exact q2
/-- All blocks that bear marks are as they were. -/
theorem RfL.same {lo : Nat} {w w' : World} {lab : Nat → Nat} {b : Nat} {oa : Option Addr} {n co : Nat} {ar : Option Addr} {nr cr wb cw : Nat} {vl : Value} {g : Gm} (h : RfL lo w lab b oa n co ar nr cr wb cw vl g) (hs : w.heap.size ≤ w'.heap.size) (hk : ∀ k, k < w.heap.size → 2 ≤ lab k → w'.heap[k]? = w.heap[k]?) : RfL lo w' lab b oa n co ar nr cr wb cw vl g := by
  have hl := h.lbs
  refine ⟨h.hn, h.hr, (hk b h.blt (by omega)).trans h.blk, ?_, fun f hf => ?_, h.reg.keep hs (fun k q => hk k (h.reg.lt k q).2 (by have := h.rlb k q; omega)), h.rlb, there_keep h.bth (hk wb h.bwl (by omega)), Nat.lt_of_lt_of_le h.bwl hs, h.bwe, fun x hx => cell_of (h.bla x hx) (hk wb h.bwl (by omega)), h.lin.keep hs (fun k q => hk k (h.lin.lt k q).2 (by have := h.llb k q; omega)), h.llb, hl, h.low⟩
  · rcases h.obj with q | ⟨bo, q1, q2, q3, q4, q5, q6⟩
    · exact Or.inl q
    · exact Or.inr ⟨bo, q1, there_keep q2 (hk bo q4 (by omega)), q3, Nat.lt_of_lt_of_le q4 hs, q5, q6⟩
  · obtain ⟨bo, a, c, p1, p2, p3, p4⟩ := h.row f hf
    obtain ⟨_, _, o1, _, o2⟩ := h.olo p1
    exact ⟨bo, a, c, p1, cell_of p2 (hk bo o1 (by omega)), p3.keep hs (fun k q => hk k (p3.lt k q).2 (by have := p4 k q; omega)), p4⟩
theorem RfL.keep {lo : Nat} {w w' : World} {lab : Nat → Nat} {b : Nat} {oa : Option Addr} {n co : Nat} {ar : Option Addr} {nr cr wb cw : Nat} {vl : Value} {g : Gm} (h : RfL lo w lab b oa n co ar nr cr wb cw vl g) (hb : Below w.heap.size w w') : RfL lo w' lab b oa n co ar nr cr wb cw vl g := h.same hb.size (fun k hk _ => hb.block k hk)
theorem RfL.relab {lo : Nat} {w : World} {lab lab' : Nat → Nat} {b : Nat} {oa : Option Addr} {n co : Nat} {ar : Option Addr} {nr cr wb cw : Nat} {vl : Value} {g : Gm} (h : RfL lo w lab b oa n co ar nr cr wb cw vl g) (hl : ∀ k, k < w.heap.size → lab' k = lab k) : RfL lo w lab' b oa n co ar nr cr wb cw vl g := by
  refine ⟨h.hn, h.hr, h.blk, ?_, fun f hf => ?_, h.reg, fun k q => (hl k (h.reg.lt k q).2).trans (h.rlb k q), h.bth, h.bwl, h.bwe, h.bla, h.lin, fun k q => (hl k (h.lin.lt k q).2).trans (h.llb k q), ⟨(hl b h.blt).trans h.lbs.1, (hl wb h.bwl).trans h.lbs.2⟩, h.low⟩
  · rcases h.obj with q | ⟨bo, q1, q2, q3, q4, q5, q6⟩
    · exact Or.inl q
    · exact Or.inr ⟨bo, q1, q2, q3, q4, q5, (hl bo q4).trans q6⟩
  · obtain ⟨bo, a, c, p1, p2, p3, p4⟩ := h.row f hf
    exact ⟨bo, a, c, p1, p2, p3, fun k q => (hl k (p3.lt k q).2).trans (p4 k q)⟩
/-- A new block's mark is 0. -/
theorem RfL.fresh {lo : Nat} {w : World} {lab : Nat → Nat} {b : Nat} {oa : Option Addr} {n co : Nat} {ar : Option Addr} {nr cr wb cw : Nat} {vl : Value} {g : Gm} (h : RfL lo w lab b oa n co ar nr cr wb cw vl g) (o : Obj) : RfL lo (w.alloc o) (fun k => if k = w.heap.size then 0 else lab k) b oa n co ar nr cr wb cw vl g :=
  (h.relab (fun k hk => if_neg (by omega))).keep ((Below.refl _ _).alloc (Nat.le_refl _) _)
/-- A register's cell. -/
theorem RfL.regAt {lo : Nat} {w : World} {lab : Nat → Nat} {b : Nat} {oa : Option Addr} {n co : Nat} {ar : Option Addr} {nr cr wb cw : Nat} {vl : Value} {g : Gm} (h : RfL lo w lab b oa n co ar nr cr wb cw vl g) {i : Nat} (hi : i < nr) : ∃ rb ro, ar = some ⟨rb, ro, none⟩ ∧ w.cell? ⟨rb, ro + i, none⟩ = some (.int .i64 (g.rs.getD i 0)) ∧ w.frozen? ⟨rb, ro + i, none⟩ = false ∧ lab rb = 5 ∧ lo ≤ rb ∧ rb < w.heap.size := by
  have hr := h.hr
  rcases h.reg with ⟨q1, q2⟩ | ⟨rb, ro, cap, q1, q2, q3, q4, q5, q6⟩
  · rw [q2] at hr; simp at hr; omega
  · cases q1
    refine ⟨rb, ro, rfl, q5 i (by omega), (q6 i (by omega)).2, h.rlb rb rfl, q2, q3⟩
/-- A slot's cell. -/
theorem RfL.slotAt {lo : Nat} {w : World} {lab : Nat → Nat} {b : Nat} {oa : Option Addr} {n co : Nat} {ar : Option Addr} {nr cr wb cw : Nat} {vl : Value} {g : Gm} (h : RfL lo w lab b oa n co ar nr cr wb cw vl g) {f s m : Nat} (hf : f < n) (hm : (g.os.getD f []).length = m) (hs : s < m) : ∃ bo rb ro c, oa = some ⟨bo, 0, none⟩ ∧ w.cell? ⟨bo, f, none⟩ = some (.slice (some ⟨rb, ro, none⟩) m c) ∧ w.cell? ⟨rb, ro + s, none⟩ = some (.int .i64 ((g.os.getD f []).getD s 0)) ∧ w.frozen? ⟨rb, ro + s, none⟩ = false ∧ lab rb = 7 + f ∧ lo ≤ rb ∧ rb < w.heap.size := by
  obtain ⟨bo, a, c, h0, h1, h2, h3⟩ := h.row f hf
  rcases h2 with ⟨q1, q2⟩ | ⟨rb, ro, cap, q1, q2, q3, q4, q5, q6⟩
  · rw [q2] at hm; simp at hm; omega
  · cases q1
    rw [hm] at h1
    exact ⟨bo, rb, ro, c, h0, h1, q5 s (by omega), (q6 s (by omega)).2, h3 rb rfl, q2, q3⟩
theorem RfL.setSlot {lo : Nat} {w : World} {lab : Nat → Nat} {b : Nat} {oa : Option Addr} {n co : Nat} {ar : Option Addr} {nr cr wb cw : Nat} {vl : Value} {g : Gm} (h : RfL lo w lab b oa n co ar nr cr wb cw vl g) {f s bo rb ro m c : Nat} (hf : f < n) (hm : (g.os.getD f []).length = m) (hs : s < m) (ho : oa = some ⟨bo, 0, none⟩) (hc : w.cell? ⟨bo, f, none⟩ = some (.slice (some ⟨rb, ro, none⟩) m c)) (v : Int) : RfL lo (w.setCell ⟨rb, ro + s, none⟩ (.int .i64 v)) lab b oa n co ar nr cr wb cw vl ⟨g.os.set f ((g.os.getD f []).set s v), g.rs, g.mm⟩ ∧ lo ≤ rb ∧ lab rb = 7 + f := by
  obtain ⟨bo', rb', ro', c', e1, e2, _, _, hl, hlo, hlt⟩ := h.slotAt hf hm hs
  rw [ho] at e1
  cases e1
  rw [hc] at e2
  cases e2
  have hb := h.lbs
  have hk : ∀ k, k ≠ rb → (w.setCell ⟨rb, ro + s, none⟩ (.int .i64 v)).heap[k]? = w.heap[k]? := fun k q => Below.heap_setCell _ _ _ _ q
  have hk2 : ∀ k, lab k ≠ 7 + f → (w.setCell ⟨rb, ro + s, none⟩ (.int .i64 v)).heap[k]? = w.heap[k]? := fun k q => hk k (fun e => q (by rw [e]; exact hl))
  have hz : w.heap.size ≤ (w.setCell ⟨rb, ro + s, none⟩ (.int .i64 v)).heap.size := by rw [size_set]; exact Nat.le_refl _
  obtain ⟨o0, o1, o2, o3, o4⟩ := h.olo ho
  refine ⟨⟨by show (g.os.set f _).length = n; rw [List.length_set]; exact h.hn, h.hr, (hk2 b (by omega)).trans h.blk, Or.inr ⟨bo, ho, there_set o0 _, o1, Nat.lt_of_lt_of_le o2 hz, o3, o4⟩, fun f' hf' => ?_, h.reg.keep hz (fun k q => hk2 k (by have := h.rlb k q; omega)), h.rlb, there_set h.bth _, Nat.lt_of_lt_of_le h.bwl hz, h.bwe, fun x hx => cell_of (h.bla x hx) (hk2 wb (by omega)), h.lin.keep hz (fun k q => hk2 k (by have := h.llb k q; omega)), h.llb, hb, h.low⟩, hlo, hl⟩
  show ∃ bo a c, oa = some ⟨bo, 0, none⟩ ∧ World.cell? _ ⟨bo, f', none⟩ = some (.slice a ((g.os.set f ((g.os.getD f []).set s v)).getD f' []).length c) ∧ OwnO lo _ (.slice a ((g.os.set f ((g.os.getD f []).set s v)).getD f' []).length c) ((g.os.set f ((g.os.getD f []).set s v)).getD f' []) ∧ ∀ k, (Value.slice a ((g.os.set f ((g.os.getD f []).set s v)).getD f' []).length c).ownBlock = some k → lab k = 7 + f'
  rw [getD_set]
  by_cases e : f = f'
  · subst e
    rw [if_pos ⟨rfl, by rw [h.hn]; exact hf⟩]
    obtain ⟨bo2, a0, c0, p0, p1, p2, p3⟩ := h.row f hf
    rw [ho] at p0
    cases p0
    rw [hm, hc] at p1
    cases p1
    rw [hm] at p2 p3
    rw [List.length_set, hm]
    exact ⟨bo, _, _, ho, cell_of hc (hk2 bo (by omega)), p2.put hm hs v, p3⟩
  · rw [if_neg (fun q => e q.1)]
    obtain ⟨bo2, a0, c0, p0, p1, p2, p3⟩ := h.row f' hf'
    rw [ho] at p0
    cases p0
    exact ⟨bo, a0, c0, ho, cell_of p1 (hk2 bo (by omega)), p2.keep hz (fun k q => hk2 k (by have := p3 k q; omega)), p3⟩
theorem RfL.setReg {lo : Nat} {w : World} {lab : Nat → Nat} {b : Nat} {oa : Option Addr} {n co : Nat} {ar : Option Addr} {nr cr wb cw : Nat} {vl : Value} {g : Gm} (h : RfL lo w lab b oa n co ar nr cr wb cw vl g) {i rb ro : Nat} (hi : i < nr) (ha : ar = some ⟨rb, ro, none⟩) (v : Int) : RfL lo (w.setCell ⟨rb, ro + i, none⟩ (.int .i64 v)) lab b oa n co ar nr cr wb cw vl ⟨g.os, g.rs.set i v, g.mm⟩ ∧ lo ≤ rb ∧ lab rb = 5 := by
  obtain ⟨rb', ro', ear, _, _, hl, hlo, hlt⟩ := h.regAt hi
  rw [ha] at ear
  cases ear
  subst ha
  have hb := h.lbs
  have hk2 : ∀ k, lab k ≠ 5 → (w.setCell ⟨rb, ro + i, none⟩ (.int .i64 v)).heap[k]? = w.heap[k]? := fun k q => Below.heap_setCell _ _ _ _ (fun e => q (by show lab k = 5; have e2 : k = rb := e; rw [e2]; exact hl))
  have hz : w.heap.size ≤ (w.setCell ⟨rb, ro + i, none⟩ (.int .i64 v)).heap.size := by rw [size_set]; exact Nat.le_refl _
  refine ⟨⟨h.hn, by show (g.rs.set i v).length = nr; rw [List.length_set]; exact h.hr, (hk2 b (by omega)).trans h.blk, ?_, fun f' hf' => ?_, h.reg.put h.hr hi v, h.rlb, there_set h.bth _, Nat.lt_of_lt_of_le h.bwl hz, h.bwe, fun x hx => cell_of (h.bla x hx) (hk2 wb (by omega)), h.lin.keep hz (fun k q => hk2 k (by have := h.llb k q; omega)), h.llb, hb, h.low⟩, hlo, hl⟩
  · rcases h.obj with q | ⟨bo, q1, q2, q3, q4, q5, q6⟩
    · exact Or.inl q
    · exact Or.inr ⟨bo, q1, there_set q2 _, q3, Nat.lt_of_lt_of_le q4 hz, q5, q6⟩
  · obtain ⟨bo, a0, c0, p0, p1, p2, p3⟩ := h.row f' hf'
    obtain ⟨_, _, _, _, o4⟩ := h.olo p0
    exact ⟨bo, a0, c0, p0, cell_of p1 (hk2 bo (by omega)), p2.keep hz (fun k q => hk2 k (by have := p3 k q; omega)), p3⟩
/-- The line changes, and nothing else that is read. -/
theorem RfL.line {lo : Nat} {w w' : World} {lab : Nat → Nat} {b : Nat} {oa : Option Addr} {n co : Nat} {ar : Option Addr} {nr cr wb cw : Nat} {vl vl' : Value} {g : Gm} {s' : Mk} (h : RfL lo w lab b oa n co ar nr cr wb cw vl g) (hs : w.heap.size ≤ w'.heap.size) (hb : w'.heap[b]? = some (.cells #[.slice oa n co, .slice ar nr cr, .slice (some ⟨wb, 0, none⟩) n cw, vl'] 65 (0, 0))) (hk : ∀ k, k < w.heap.size → 3 ≤ lab k → lab k ≠ 4 → w'.heap[k]? = w.heap[k]?) (hl : OwnO lo w' vl' (ixL s'.ln)) (hv : ∀ k, vl'.ownBlock = some k → vl.ownBlock = some k ∨ w.heap.size ≤ k) (hbl : ∀ x, x < n → blkB s' x = blkB g.mm x) : ∃ lab', RfL lo w' lab' b oa n co ar nr cr wb cw vl' ⟨g.os, g.rs, s'⟩ ∧ ∀ k, k < w.heap.size → lab' k = lab k := by
  have hlb := h.lbs
  have hlt : ∀ k, k < w.heap.size → (if w.heap.size ≤ k then 4 else lab k) = lab k := fun k hk => if_neg (by omega)
  refine ⟨fun k => if w.heap.size ≤ k then 4 else lab k, ⟨h.hn, h.hr, hb, ?_, fun f hf => ?_, h.reg.keep hs (fun k q => hk k (h.reg.lt k q).2 (by have := h.rlb k q; omega) (by have := h.rlb k q; omega)), fun k q => (hlt k (h.reg.lt k q).2).trans (h.rlb k q), there_keep h.bth (hk wb h.bwl (by omega) (by omega)), Nat.lt_of_lt_of_le h.bwl hs, h.bwe, fun x hx => ?_, hl, fun k q => ?_, ⟨(hlt b h.blt).trans hlb.1, (hlt wb h.bwl).trans hlb.2⟩, h.low⟩, hlt⟩
  · rcases h.obj with q | ⟨bo, q1, q2, q3, q4, q5, q6⟩
    · exact Or.inl q
    · exact Or.inr ⟨bo, q1, there_keep q2 (hk bo q4 (by omega) (by omega)), q3, Nat.lt_of_lt_of_le q4 hs, q5, (hlt bo q4).trans q6⟩
  · obtain ⟨bo, a, c, p1, p2, p3, p4⟩ := h.row f hf
    obtain ⟨_, _, o1, _, o2⟩ := h.olo p1
    exact ⟨bo, a, c, p1, cell_of p2 (hk bo o1 (by omega) (by omega)), p3.keep hs (fun k q => hk k (p3.lt k q).2 (by have := p4 k q; omega) (by have := p4 k q; omega)), fun k q => (hlt k (p3.lt k q).2).trans (p4 k q)⟩
  · show w'.cell? ⟨wb, x, none⟩ = some (.bool (blkB s' x))
    rw [hbl x hx]
    exact cell_of (h.bla x hx) (hk wb h.bwl (by omega) (by omega))
  · by_cases e : w.heap.size ≤ k
    · exact if_pos e
    · refine (if_neg e).trans ?_
      rcases hv k q with q2 | q2
      · exact h.llb k q2
      · exact absurd q2 e
theorem contains_ix (l : List Nat) (x : Nat) : (ixL l).contains (x : Int) = l.contains x := by
  rw [Bool.eq_iff_iff, List.contains_iff_mem, List.contains_iff_mem]
  unfold ixL
  rw [List.mem_map]
  constructor
  · rintro ⟨y, hy, e⟩
    have : y = x := by omega
    rw [← this]; exact hy
  · intro h
    exact ⟨x, h, rfl⟩
theorem take_contains {xs : List Int} {x : Int} {i : Nat} (hi : i < xs.length) : (xs.take (i + 1)).contains x = ((xs.take i).contains x || decide (xs.getD i 0 = x)) := by
  have e : xs.take (i + 1) = xs.take i ++ [xs.getD i 0] := by
    rw [List.take_add_one, List.getElem?_eq_getElem hi]
    simp [List.getElem?_eq_getElem hi]
  rw [Bool.eq_iff_iff, Bool.or_eq_true, decide_eq_true_eq, List.contains_iff_mem, List.contains_iff_mem, e, List.mem_append, List.mem_singleton]
  exact or_congr Iff.rfl eq_comm

/-- Is a number in a list? -/
def hasIn (xs : List Int) (x : Int) : Bool := xs.contains x

set_option maxRecDepth 100000 in
set_option maxHeartbeats 4000000 in
theorem refHas_any (w : World) (a : Option Addr) (n c : Nat) (xs : List Int) (x : Int) (h : IsL KI w (.slice a n c) xs) (hn : n ≤ 1000000) :
    Calls Try.prog 50 #[.slice a n c, .int .i64 x] w fun e w' => e = .returned (.bool (hasIn xs x)) ∧ Below w.heap.size w w' := by
  have hl := h.len
  have HO := hide (h.opens ki hl)
  have HL := hide hl
  have HX : Hid (Below w.heap.size w w) := Below.refl _ _
  have HT0 : Hid (hasIn (xs.take 0) x = false) := rfl
  clear h hl
  go_enter Try.func50, Try.ntmps50
  go_wp2_with fail
  go_loopw [5] (fun s5 wr => ∃ i : Nat, i ≤ n ∧ s5 = .int .i64 (i : Int) ∧ Hid (hasIn (xs.take i) x = false) ∧ Hid (Below w.heap.size w wr)) (fun s5 _ => n - (intOf s5).toNat)
  case atStart => exact ⟨0, Nat.zero_le _, rfl, HT0, HX⟩
  case round =>
    obtain ⟨i, hi, rfl, HT, HB⟩ := hrel
    clear HT0 HX
    by_cases hin : i < n
    · have i6 : (0 : Int) ≤ (i : Int) := by omega
      have i7 : (i : Int) < (n : Int) := by omega
      have hw1 : IntKind.i64.wrap ((i : Int) + 1) = (i : Int) + 1 := wrapi (by omega) (by omega)
      obtain ⟨b, o, rfl, hb, hli⟩ := unhide HO (by omega)
      have c0 := (hli.below (unhide HB) hb).ints (j := i) (by rw [unhide HL]; exact hin)
      have HTC := hide (take_contains (x := x) (i := i) (by rw [unhide HL]; exact hin))
      obtain ⟨y, ey⟩ : ∃ y, xs.getD i 0 = y := ⟨_, rfl⟩
      have HEY := hide ey
      rw [ey] at c0
      clear hli ey
      by_cases hxy : y = x
      · have x1 : (y == x) = true := by simpa using hxy
        have HXY := hide hxy
        have hall : hasIn xs x = true := by
          unfold hasIn
          have h_ := unhide HTC
          rw [unhide HEY, decide_eq_true (unhide HXY), Bool.or_true] at h_
          rw [List.contains_iff_mem] at h_ ⊢
          exact List.mem_of_mem_take h_
        have HALL := hide hall
        clear hxy hall
        go_wp2_with fail
        exact bodyPost_ret (v := .bool true) (by simp [results, Try.results50]) rfl ⟨by rw [unhide HALL], unhide HB⟩
      · have x1 : (y == x) = false := by simpa using hxy
        have HT2 : Hid (hasIn (xs.take (i + 1)) x = false) := by
          have h_ := unhide HTC
          have h2 := unhide HT
          unfold hasIn at h2 ⊢
          rw [unhide HEY, decide_eq_false hxy, Bool.or_false, h2] at h_
          exact hide h_
        clear hxy
        go_wp2_with fail
        go_roundw
        case rel => exact ⟨i + 1, by omega, by go_num, HT2, HB⟩
        case measure => simp [intOf]; omega
    · obtain rfl : i = n := by omega
      have i7 : ¬ (i : Int) < (i : Int) := by omega
      have HE : Hid (hasIn xs x = false) := by
        have h_ := unhide HT
        rwa [List.take_of_length_le (by rw [unhide HL]; exact Nat.le_refl _)] at h_
      go_wp2_with fail
      exact bodyPost_ret (v := .bool false) (by simp [results, Try.results50]) rfl ⟨by rw [unhide HE], unhide HB⟩


/-- A marking; the marks of what was there stay. -/
def RfS (lo : Nat) (w : World) (lab : Nat → Nat) (sz b : Nat) (oa : Option Addr) (n co : Nat) (ar : Option Addr) (nr cr wb cw : Nat) (g : Gm) : Prop := ∃ lab' vl', RfL lo w lab' b oa n co ar nr cr wb cw vl' g ∧ ∀ k, k < sz → lab' k = lab k
theorem NodG.shade1 {m : Mk} (h : NodG m) (o : Int) : NodG (shade1 m o) := by
  unfold Go.Proofs.Ytmkehjncnaokoaa.shade1
  split
  · next h1 =>
    refine ⟨?_, fun x hx => ?_⟩
    · refine List.nodup_append.2 ⟨h.nd, by simp, fun a ha b hb e => ?_⟩
      rw [List.mem_singleton.1 hb] at e
      have := h.nw a ha
      rw [e] at this
      rw [h1.2] at this
      cases this
    · dsimp only at hx ⊢
      split
      · rfl
      · next h2 =>
        rcases List.mem_append.1 hx with q | q
        · exact h.nw x q
        · exact absurd (List.mem_singleton.1 q) h2
  · exact h
theorem NodG.shadeL {m : Mk} (h : NodG m) : ∀ os : List Int, NodG (shadeL m os)
  | [] => h
  | o :: r => by rw [shadeL_cons]; exact (h.shade1 o).shadeL r
theorem blkB_shade1 {m : Mk} {x : Nat} (hx : m.wh x = true) (hn : m.ln.contains x = false) (y : Nat) : blkB (shade1 m (x : Int)) y = blkB m y := by
  rw [shade1_white hx]
  unfold blkB
  dsimp only
  by_cases e : y = x
  · subst e
    rw [if_pos rfl, hx]
    simp
  · rw [if_neg e]
    congr 1
    rw [List.contains_eq_mem, List.contains_eq_mem]
    congr 1
    simp [e]

set_option maxRecDepth 100000 in
set_option maxHeartbeats 4000000 in
theorem rsh_none {lo : Nat} {w : World} {lab : Nat → Nat} {b : Nat} {oa : Option Addr} {n co : Nat} {ar : Option Addr} {nr cr wb cw : Nat} {vl : Value} {g : Gm} (h : RfL lo w lab b oa n co ar nr cr wb cw vl g)  :
    Calls Try.prog 47 #[.pointer (some ⟨b, 0, none⟩), .int .i64 (-1)] w fun e w' => e = .returned (.tuple #[]) ∧ RfS lo w' lab w.heap.size b oa n co ar nr cr wb cw ⟨g.os, g.rs, g.mm⟩ ∧ (∀ k, k < w.heap.size → lab k ≠ 2 → lab k ≠ 4 → w'.heap[k]? = w.heap[k]?) ∧ Below lo w w' := by
  have HR := hide h
  obtain ⟨⟨m0, m1, m2, m3⟩, ⟨mf0, mf1, mf2, mf3⟩, ml⟩ := block4 h.blk
  clear h
  go_enter Try.func47, Try.ntmps47
  go_wp2_with fail
  exact bodyPost_end (v := .tuple #[]) (by simp [results, Try.results47]) rfl ⟨rfl, ⟨lab, vl, unhide HR, fun _ _ => rfl⟩, fun _ _ _ _ => rfl, Below.refl _ _⟩

set_option maxRecDepth 100000 in
set_option maxHeartbeats 4000000 in
theorem rsh_black {lo : Nat} {w : World} {lab : Nat → Nat} {b : Nat} {oa : Option Addr} {n co : Nat} {ar : Option Addr} {nr cr wb cw : Nat} {vl : Value} {g : Gm} (h : RfL lo w lab b oa n co ar nr cr wb cw vl g) (x : Nat) (hx : x < n) (hb : blkB g.mm x = true) :
    Calls Try.prog 47 #[.pointer (some ⟨b, 0, none⟩), .int .i64 (x : Int)] w fun e w' => e = .returned (.tuple #[]) ∧ RfS lo w' lab w.heap.size b oa n co ar nr cr wb cw ⟨g.os, g.rs, g.mm⟩ ∧ (∀ k, k < w.heap.size → lab k ≠ 2 → lab k ≠ 4 → w'.heap[k]? = w.heap[k]?) ∧ Below lo w w' := by
  have HR := hide h
  obtain ⟨⟨m0, m1, m2, m3⟩, ⟨mf0, mf1, mf2, mf3⟩, ml⟩ := block4 h.blk
  have q0 := h.bla x hx
  have i1 : (0 : Int) ≤ (x : Int) := by omega
  have i2 : (x : Int) < (n : Int) := by omega
  rw [hb] at q0
  clear h hb
  go_enter Try.func47, Try.ntmps47
  go_wp2_with fail
  exact bodyPost_end (v := .tuple #[]) (by simp [results, Try.results47]) rfl ⟨rfl, ⟨lab, vl, unhide HR, fun _ _ => rfl⟩, fun _ _ _ _ => rfl, Below.refl _ _⟩

set_option maxRecDepth 100000 in
set_option maxHeartbeats 4000000 in
theorem rsh_grey {lo : Nat} {w : World} {lab : Nat → Nat} {b : Nat} {oa : Option Addr} {n co : Nat} {ar : Option Addr} {nr cr wb cw : Nat} {vl : Value} {g : Gm} (h : RfL lo w lab b oa n co ar nr cr wb cw vl g) (x : Nat) (hx : x < n) (hl : g.mm.ln.length ≤ 900000) (hb : blkB g.mm x = false) (hc : g.mm.ln.contains x = true) :
    Calls Try.prog 47 #[.pointer (some ⟨b, 0, none⟩), .int .i64 (x : Int)] w fun e w' => e = .returned (.tuple #[]) ∧ RfS lo w' lab w.heap.size b oa n co ar nr cr wb cw ⟨g.os, g.rs, g.mm⟩ ∧ (∀ k, k < w.heap.size → lab k ≠ 2 → lab k ≠ 4 → w'.heap[k]? = w.heap[k]?) ∧ Below lo w w' := by
  have HR := hide h
  obtain ⟨⟨m0, m1, m2, m3⟩, ⟨mf0, mf1, mf2, mf3⟩, ml⟩ := block4 h.blk
  have q0 := h.bla x hx
  have i1 : (0 : Int) ≤ (x : Int) := by omega
  have i2 : (x : Int) < (n : Int) := by omega
  rw [hb] at q0
  obtain ⟨a, c, evl⟩ := h.lin.form
  subst evl
  have HHS := hide (refHas_any w a (ixL g.mm.ln).length c (ixL g.mm.ln) (x : Int) h.lin.isl (by rw [ixL_len]; omega))
  have HIN : Hid (hasIn (ixL g.mm.ln) (x : Int) = true) := by unfold hasIn; rw [contains_ix]; exact hide hc
  have HLO : Hid (lo ≤ w.heap.size) := Nat.le_trans h.low.1 (Nat.le_of_lt h.blt)
  obtain ⟨N, eN⟩ : ∃ N, (ixL g.mm.ln).length = N := ⟨_, rfl⟩
  rw [eN] at m3 HHS HR
  clear h hb hc eN
  go_enter Try.func47, Try.ntmps47
  go_wp2_with (go_at_call 50; (with_reducible refine Calls.mono (unhide HHS) ?_); rintro e w2 ⟨rfl, hb2⟩; rw [unhide HIN]; have HB2 := hide hb2; have HR2 := hide ((unhide HR).keep hb2); clear hb2)
  exact bodyPost_end (v := .tuple #[]) (by simp [results, Try.results47]) rfl ⟨rfl, ⟨lab, _, unhide HR2, fun _ _ => rfl⟩, fun k k1 _ _ => (unhide HB2).block k k1, (unhide HB2).mono (unhide HLO)⟩

set_option maxRecDepth 100000 in
set_option maxHeartbeats 4000000 in
theorem rsh_white {lo : Nat} {w : World} {lab : Nat → Nat} {b : Nat} {oa : Option Addr} {n co : Nat} {ar : Option Addr} {nr cr wb cw : Nat} {vl : Value} {g : Gm} (h : RfL lo w lab b oa n co ar nr cr wb cw vl g) (x : Nat) (hx : x < n) (hl : g.mm.ln.length ≤ 900000) (hb : blkB g.mm x = false) (hw : g.mm.wh x = true) (hc : g.mm.ln.contains x = false) :
    Calls Try.prog 47 #[.pointer (some ⟨b, 0, none⟩), .int .i64 (x : Int)] w fun e w' => e = .returned (.tuple #[]) ∧ RfS lo w' lab w.heap.size b oa n co ar nr cr wb cw ⟨g.os, g.rs, shade1 g.mm (x : Int)⟩ ∧ (∀ k, k < w.heap.size → lab k ≠ 2 → lab k ≠ 4 → w'.heap[k]? = w.heap[k]?) ∧ Below lo w w' := by
  have HR := hide h
  obtain ⟨⟨m0, m1, m2, m3⟩, ⟨mf0, mf1, mf2, mf3⟩, ml⟩ := block4 h.blk
  have q0 := h.bla x hx
  have i1 : (0 : Int) ≤ (x : Int) := by omega
  have i2 : (x : Int) < (n : Int) := by omega
  rw [hb] at q0
  obtain ⟨a, c, evl⟩ := h.lin.form
  subst evl
  have HHS := hide (refHas_any w a (ixL g.mm.ln).length c (ixL g.mm.ln) (x : Int) h.lin.isl (by rw [ixL_len]; omega))
  have HIN : Hid (hasIn (ixL g.mm.ln) (x : Int) = false) := by unfold hasIn; rw [contains_ix]; exact hide hc
  have hlo : lo ≤ w.heap.size := Nat.le_trans h.low.1 (Nat.le_of_lt h.blt)
  have HLO := hide hlo
  have hs1 := shade1_white hw
  have HBL := hide (blkB_shade1 hw hc)
  rw [hs1] at HBL
  rw [hs1]
  obtain ⟨N, eN⟩ : ∃ N, (ixL g.mm.ln).length = N := ⟨_, rfl⟩
  have hNb : N ≤ 1000000 := by rw [← eN, ixL_len]; omega
  have HEN := hide eN
  rw [eN] at m3 HHS HR
  clear h hb hc eN hs1 hw hlo
  go_enter Try.func47, Try.ntmps47
  go_upto_region 1 with (go_at_call 50; (with_reducible refine Calls.mono (unhide HHS) ?_); rintro e w2 ⟨rfl, hb2⟩; rw [unhide HIN]; have HB2 := hide hb2; have HR2 := hide ((unhide HR).keep hb2); clear hb2)
  have hb3 : Below w2.heap.size w2 (w2.alloc (.cells #[.int .i64 (x : Int)] 3)) := (Below.refl _ _).alloc (Nat.le_refl _) _
  have HR3 := hide ((unhide HR2).keep hb3)
  have HB3 := hide (Below.next (unhide HB2) hb3 (Nat.le_refl _))
  have HNB := hide (block1 (new_block w2 (.cells #[.int .i64 (x : Int)] 3))).1
  clear m0 m1 m2 m3 mf0 mf1 mf2 mf3 ml q0
  obtain ⟨⟨m0, m1, m2, m3⟩, ⟨mf0, mf1, mf2, mf3⟩, ml⟩ := block4 (unhide HR2).blk
  have hmk3 : ∀ (a' : Option Addr) (m' c' : Nat) W, Gr lo (.slice a N c) (.slice a' m' c') (w2.alloc (.cells #[.int .i64 (x : Int)] 3)) W → W.heap[b]? = some (.cells #[.slice oa n co, .slice ar nr cr, .slice (some ⟨wb, 0, none⟩) n cw, .slice a N c] 65 (0, 0)) := fun a' m' c' W hg => (hg.keep b (unhide HR3).blt (fun q => by have h1 := (unhide HR3).llb b q; have h2 := (unhide HR3).lbs.1; omega)).trans (unhide HR3).blk
  have HMK3 := hide hmk3
  clear hb3 hmk3
  go_wp2_with (refine wpList_append_o rfl (.tmp 29) (.tmp 31) rfl lo (.slice a N c) (ixL g.mm.ln) rfl (unhide HR3).lin _ (x : Int) rfl (unhide HNB) N (unhide HEN) hNb (Nat.le_trans (unhide HLO) (unhide HB3).size) ?_; intro a7 c7 w7 ho7 hg7; obtain ⟨⟨y0, y1, y2, y3⟩, ⟨yf0, yf1, yf2, yf3⟩, yl⟩ := block4 (unhide HMK3 a7 _ c7 w7 hg7); have HO7 := hide ho7; have HG7 := hide hg7; clear ho7 hg7)
  have hg7 := unhide HG7
  have hb7 := unhide HMK3 a7 _ c7 w7 hg7
  have hr3 := unhide HR3
  have hnb : ∀ k, k < (w2.alloc (.cells #[.int .i64 (x : Int)] 3)).heap.size → lab k ≠ 2 → lab k ≠ 4 → (w7.setCell ⟨b, 3, none⟩ (.slice a7 (N + 1) c7)).heap[k]? = (w2.alloc (.cells #[.int .i64 (x : Int)] 3)).heap[k]? := fun k k1 k2 k3 => (Below.heap_setCell _ _ _ _ (fun e => k2 (by have e2 : k = b := e; rw [e2]; exact hr3.lbs.1))).trans (hg7.keep k k1 (fun q => k3 (hr3.llb k q)))
  obtain ⟨lab', h8, h9⟩ := hr3.line (s' := ⟨fun y => if y = x then false else g.mm.wh y, g.mm.ln ++ [x]⟩) (by rw [size_set]; exact hg7.below.size) (set4_block hb7) (fun k k1 k2 k3 => hnb k k1 (by omega) k3) (by rw [ixL_add]; exact (unhide HO7).keep (by rw [size_set]; exact Nat.le_refl _) (fun k hk => Below.heap_setCell _ _ _ _ (fun e => by
    have e2 : k = b := e
    rcases hg7.new k hk with q | q
    · have h1 := hr3.llb k q; have h2 := hr3.lbs.1; rw [e2] at h1; omega
    · have := hr3.blt; omega))) hg7.new (fun y hy => unhide HBL y)
  exact bodyPost_end (v := .tuple #[]) (by simp [results, Try.results47]) rfl ⟨rfl, ⟨lab', _, h8, fun k hk => h9 k (Nat.lt_of_lt_of_le hk (unhide HB3).size)⟩, fun k k1 k2 k3 => (hnb k (Nat.lt_of_lt_of_le k1 (unhide HB3).size) k2 k3).trans ((unhide HB3).block k k1), (((unhide HB3).mono (unhide HLO)).trans hg7.below).setCell (p := ⟨b, 3, none⟩) hr3.low.1 _⟩

theorem rshade_k {lo : Nat} {w : World} {lab : Nat → Nat} {b : Nat} {oa : Option Addr} {n co : Nat} {ar : Option Addr} {nr cr wb cw : Nat} {vl : Value} {g : Gm} (h : RfL lo w lab b oa n co ar nr cr wb cw vl g) (hnd : NodG g.mm) (hl : g.mm.ln.length ≤ 900000) (o : Int) (ho : -1 ≤ o ∧ o < (n : Int)) :
    Calls Try.prog 47 #[.pointer (some ⟨b, 0, none⟩), .int .i64 o] w fun e w' => e = .returned (.tuple #[]) ∧ RfS lo w' lab w.heap.size b oa n co ar nr cr wb cw ⟨g.os, g.rs, shade1 g.mm o⟩ ∧ (∀ k, k < w.heap.size → lab k ≠ 2 → lab k ≠ 4 → w'.heap[k]? = w.heap[k]?) ∧ Below lo w w' := by
  by_cases e : o = -1
  · subst e
    rw [shade1_none]
    exact rsh_none h
  · obtain ⟨x, rfl⟩ : ∃ x : Nat, o = (x : Int) := ⟨o.toNat, by omega⟩
    have hx : x < n := by omega
    cases hb : blkB g.mm x with
    | true =>
      have hw : g.mm.wh x = false := by
        unfold blkB at hb
        cases q : g.mm.wh x with
        | false => rfl
        | true => rw [q] at hb; cases hb
      rw [shade1_grey hw]
      exact rsh_black h x hx hb
    | false =>
      cases hc : g.mm.ln.contains x with
      | true =>
        have hw : g.mm.wh x = false := hnd.nw x (List.contains_iff_mem.1 hc)
        rw [shade1_grey hw]
        exact rsh_grey h x hx hl hb hc
      | false =>
        have hw : g.mm.wh x = true := by
          unfold blkB at hb
          rw [hc] at hb
          cases q : g.mm.wh x with
          | false => rw [q] at hb; cases hb
          | true => rfl
        exact rsh_white h x hx hl hb hw hc
theorem rshade_any {lo : Nat} {w : World} {lab : Nat → Nat} {b : Nat} {oa : Option Addr} {n co : Nat} {ar : Option Addr} {nr cr wb cw : Nat} {vl : Value} {g : Gm} (h : RfL lo w lab b oa n co ar nr cr wb cw vl g) (hnd : NodG g.mm) (hl : g.mm.ln.length ≤ 900000) (o : Int) (ho : -1 ≤ o ∧ o < (n : Int)) :
    Calls Try.prog 47 #[.pointer (some ⟨b, 0, none⟩), .int .i64 o] w fun e w' => e = .returned (.tuple #[]) ∧ RfS lo w' lab w.heap.size b oa n co ar nr cr wb cw ⟨g.os, g.rs, shade1 g.mm o⟩ ∧ (∀ k, k < w.heap.size → lab k = 0 → w'.heap[k]? = w.heap[k]?) ∧ Below lo w w' :=
  (rshade_k h hnd hl o ho).mono fun _ _ ⟨h1, h2, h3, h4⟩ => ⟨h1, h2, fun k k1 k2 => h3 k k1 (by omega) (by omega), h4⟩
end Go.Proofs.Ytmkehjncnaokoaa
