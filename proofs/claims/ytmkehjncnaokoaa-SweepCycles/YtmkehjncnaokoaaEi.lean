/-
  taskmillref.Marking.act: what is new.
  taskmillref.Marking.act: what is new.
-/
import Derived.Test.YtmkehjncnaokoaaEg
namespace Go.Proofs.Ytmkehjncnaokoaa
open Go.RowKit

/-- What one element more leaves, beside a block that is written. -/
structure PA (w w' : World) (b : Nat) (oa : Option Addr) (n g' cap' : Nat) (vs : List Value) : Prop where
  cells : ∀ j u, vs[j]? = some u → w'.cell? ⟨g', j, none⟩ = some u
  th : w'.there g' 0 cap'
  le : n + 1 ≤ cap'
  lt : g' < w'.heap.size
  src : oa = some ⟨g', 0, none⟩ ∨ w.heap.size ≤ g'
  keep : ∀ k, k < w.heap.size → k ≠ b → (∀ g, oa = some ⟨g, 0, none⟩ → k ≠ g) → w'.heap[k]? = w.heap[k]?
  size : w.heap.size ≤ w'.heap.size
  below : ∀ lo, lo ≤ b → (∀ g, oa = some ⟨g, 0, none⟩ → lo ≤ g) → lo ≤ w.heap.size → Below lo w w'
/-- Behind new blocks, and a store into the block that is written. -/
theorem PA.after {w0 w w' : World} {b : Nat} {oa : Option Addr} {n g' cap' o : Nat} {vs : List Value} {v : Value} (h : PA w w' b oa n g' cap' vs) (hb : Below w0.heap.size w0 w) (hg : b < w0.heap.size) (hbg : ∀ g, oa = some ⟨g, 0, none⟩ → b ≠ g) : PA w0 (w'.setCell ⟨b, o, none⟩ v) b oa n g' cap' vs := by
  have hne : g' ≠ b := by
    rcases h.src with q | q
    · exact Ne.symm (hbg g' q)
    · have := hb.size; omega
  refine ⟨fun j u hu => cell_other (h.cells j u hu) (Or.inl hne) _, there_set h.th _, h.le, by rw [size_set]; exact h.lt, ?_, fun k k1 k2 k3 => (Below.heap_setCell _ _ _ _ k2).trans ((h.keep k (Nat.lt_of_lt_of_le k1 hb.size) k2 k3).trans (hb.block k k1)), by rw [size_set]; exact Nat.le_trans hb.size h.size, fun lo l1 l2 l3 => ((hb.mono l3).trans (h.below lo l1 l2 (Nat.le_trans l3 hb.size))).setCell (p := ⟨b, o, none⟩) l1 _⟩
  rcases h.src with q | q
  · exact Or.inl q
  · exact Or.inr (Nat.le_trans hb.size q)
theorem PA.rebase {w w' : World} {B b : Nat} {oa : Option Addr} {n g' cap' : Nat} {vs : List Value} (h : PA w w' B oa n g' cap' vs) (hB : w.heap.size ≤ B) : PA w w' b oa n g' cap' vs :=
  ⟨h.cells, h.th, h.le, h.lt, h.src, fun k k1 _ k3 => h.keep k k1 (by omega) k3, h.size, fun lo _ l2 l3 => h.below lo (Nat.le_trans l3 hB) l2 l3⟩
theorem PA.at {w0 w w' : World} {B b : Nat} {oa : Option Addr} {n g' cap' : Nat} {vs : List Value} {ob : Obj} (h : PA w w' B oa n g' cap' vs) (hB : w.heap.size ≤ B) (hb : Below w0.heap.size w0 w) (h0 : w0.heap[b]? = some ob) (hbo : ∀ g, oa = some ⟨g, 0, none⟩ → b ≠ g) : w'.heap[b]? = some ob := by
  have hl := size_of h0
  have := hb.size
  exact (h.keep b (by omega) (by omega) hbo).trans ((hb.block b hl).trans h0)
theorem wpList_push {w : World} {ops : Array Oper} {rest : List Oper} {o : Oper} {a : Act} {Q : Exit → Act → World → Prop} (hgd : o.guard = none) (s x : Operand) (t e : TypeId) (z : Value) (bytes : Nat) (b : Nat)
    (hop : o.op = Op.call { callee := Callee.builtin Builtin.append, args := #[s, x], argTypes := #[t, t] }) (h1 : Try.prog.underlying t = some (.slice e)) (hinf : (Try.prog.info? e).map (fun i => (i.zero, i.size, i.bytes)) = some (some z, 1, bytes)) (hz : z.cells.size = 1)
    (oa : Option Addr) (n cap : Nat) (olds : List Value) (hs : a.eval s = .slice oa n cap) (hlo : olds.length = n) (hob : (oa = none ∧ n = 0 ∧ cap = 0) ∨ ∃ g, oa = some ⟨g, 0, none⟩ ∧ w.there g 0 cap ∧ n ≤ cap ∧ g < w.heap.size) (holds : ∀ g, oa = some ⟨g, 0, none⟩ → ∀ j u, olds[j]? = some u → w.cell? ⟨g, j, none⟩ = some u)
    (S : Nat) (y : Value) (hx : a.eval x = .slice (some ⟨S, 0, none⟩) 1 1) (hS : w.cell? ⟨S, 0, none⟩ = some y) (hy : y.oneCell' = true) (hb : n + 1 ≤ 1000000) (hby : bytes ≤ 1000)
    (hK : ∀ g' cap' w', PA w w' b oa n g' cap' (olds ++ [y]) → wpList Try.prog ops Q rest (a.put o.dst (.slice (some ⟨g', 0, none⟩) (n + 1) cap')) w') : wpList Try.prog ops Q (o :: rest) a w := by
  obtain ⟨i0, hi, h0, h2, h3⟩ := info_parts hinf
  have hnews : ∀ j u, [y][j]? = some u → w.cell? ((⟨S, 0, none⟩ : Addr).add j) = some u := fun j u hu => by
    have hj : j = 0 := by have := (List.getElem?_eq_some_iff.1 hu).1; simpa using this
    subst hj
    simp at hu
    subst hu
    exact hS
  have h1c : ∀ u ∈ [y], u.oneCell' = true := fun u hu => by rw [List.mem_singleton.1 hu]; exact hy
  have hbig : n + 1 ≤ maxLen := by unfold maxLen; omega
  have hbb : (n + 1) * bytes ≤ 140737488355328 := by
    have : (n + 1) * bytes ≤ 1000000 * 1000 := Nat.mul_le_mul hb hby
    omega
  have grow : ∀ v' w', w'.ownsRow w.heap.size e 1 v' (n + 1) (olds ++ [y]) → w.grownBy w' none → wpList Try.prog ops Q rest (a.put o.dst v') w' := fun v' w' r1 r2 => by
    rcases r1 with ⟨hl, ⟨_, q⟩ | ⟨g', cap', cur, rfl, hg, hh, q2, _, q4, q5⟩⟩
    · omega
    · have hb' := (Below.refl w.heap.size w).grown r2 (Nat.le_refl _) (fun k hk => by cases hk)
      refine hK g' cap' w' ⟨fun j u hu => ?_, there_block hh (by omega), q2, size_of hh, Or.inr hg, fun k hk _ _ => hb'.block k hk, hb'.size, fun lo _ _ hl2 => hb'.mono hl2⟩
      have hj : j < n + 1 := by have := (List.getElem?_eq_some_iff.1 hu).1; rw [List.length_append, hlo] at this; simpa using this
      have h6 : (cur.toList.take ((n + 1) * 1))[j]? = (olds ++ [y])[j]? := by rw [q5]
      rw [List.getElem?_take, if_pos (by omega), hu] at h6
      simp only [World.cell?, hh]
      rw [← Array.getElem?_toList]
      exact h6
  rcases hob with ⟨rfl, rfl, rfl⟩ | ⟨g, rfl, hth, hle, hlt⟩
  · exact wpList_append_grows w hgd s x t hop e i0 z 1 bytes h1 hi h0 h2 h3 hz (by decide) none 0 0 olds hs (fun _ => ⟨rfl, rfl⟩) (by omega) (fun b hb => by cases hb) ⟨S, 0, none⟩ 1 1 [y] hx rfl hnews h1c (by decide) hbig hbb (fun v' w' r1 r2 => grow v' w' r1 r2)
  · refine wpList_append_arg w hgd s x t hop e i0 z 1 bytes h1 hi h0 h2 h3 hz (by decide) g 0 n cap olds hs (by omega) (fun j u hu => by rw [Nat.zero_add]; exact holds g rfl j u hu) ⟨S, 0, none⟩ 1 1 [y] hx rfl hnews h1c (fun hr j hj => ?_) hbig hbb (fun hr => ?_) (fun _ v' w' r1 r2 => grow v' w' r1 r2)
    · have hj0 : j = 0 := by simpa using hj
      subst hj0
      have := hth n (by omega)
      rwa [Nat.mul_one, Nat.add_zero]
    · have hset : w.setCells g (0 + n * 1) [y] = w.setCell ⟨g, n, none⟩ y := by rw [Nat.mul_one, Nat.zero_add]; rfl
      rw [hset]
      refine hK g cap _ ⟨fun j u hu => ?_, there_set hth _, hr, by rw [size_set]; exact hlt, Or.inl rfl, fun k _ _ hk => Below.heap_setCell _ _ _ _ (hk g rfl), by rw [size_set]; exact Nat.le_refl _, fun lo _ hl _ => (Below.refl lo w).setCell (p := ⟨g, n, none⟩) (hl g rfl) _⟩
      by_cases e1 : j = n
      · subst e1
        rw [List.getElem?_append_right (by omega), hlo, Nat.sub_self] at hu
        have : y = u := by simpa using hu
        subst this
        have := cell_same (b := g) (o := 0) hth (m := j) (by omega) y
        rwa [Nat.zero_add] at this
      · have hj2 : j < n := by have := (List.getElem?_eq_some_iff.1 hu).1; rw [List.length_append, hlo] at this; simp at this; omega
        rw [List.getElem?_append_left (by omega)] at hu
        exact cell_other (holds g rfl j u hu) (Or.inr (by omega)) _
def bornM (n : Nat) (m : Mk) : Mk := ⟨fun y => if y = n then false else m.wh y, m.ln⟩
def rowsV (w : World) (oa : Option Addr) (n : Nat) : List Value := (List.range n).map fun f => match oa with | some a => (w.cell? ⟨a.block, f, none⟩).getD (.slice none 0 0) | none => .slice none 0 0
theorem rowsV_at {w : World} {g n j : Nat} (hj : j < n) : (rowsV w (some ⟨g, 0, none⟩) n)[j]? = some ((w.cell? ⟨g, j, none⟩).getD (.slice none 0 0)) := by
  unfold rowsV
  rw [List.getElem?_map, List.getElem?_range hj]
  rfl
/-- A marking with one object more. -/
theorem RfL.born {lo : Nat} {w : World} {lab : Nat → Nat} {b : Nat} {oa : Option Addr} {n co : Nat} {ar : Option Addr} {nr cr wb cw : Nat} {vl : Value} {g : Gm} (h : RfL lo w lab b oa n co ar nr cr wb cw vl g) (hln : ∀ x ∈ g.mm.ln, x < n) {w1 w2 : World} {k g1 co' g2 cw' c : Nat} {a : Option Addr} (hrow : OwnO lo w (.slice a k c) (List.replicate k (-1))) (hrl : ∀ q, (Value.slice a k c).ownBlock = some q → lab q = 0) (h1 : PA w w1 b oa n g1 co' (rowsV w oa n ++ [.slice a k c])) (h2 : PA w1 w2 b (some ⟨wb, 0, none⟩) n g2 cw' ((List.range n).map (fun x => .bool (blkB g.mm x)) ++ [.bool true])) (hb2 : w2.heap[b]? = some (.cells #[.slice (some ⟨g1, 0, none⟩) (n + 1) co', .slice ar nr cr, .slice (some ⟨g2, 0, none⟩) (n + 1) cw', vl] 65 (0, 0))) : ∃ lab', RfL lo w2 lab' b (some ⟨g1, 0, none⟩) (n + 1) co' ar nr cr g2 cw' vl ⟨g.os ++ [List.replicate k (-1)], g.rs, bornM n g.mm⟩ := by
  have hl := h.lbs
  have hn := h.hn
  have hs1 := h1.size
  have hs2 := h2.size
  have hbl := h.blt; have hwl := h.bwl
  have hoa : ∀ q, oa = some ⟨q, 0, none⟩ → q < w.heap.size ∧ lo ≤ q ∧ lab q = 6 := fun q e => by
    obtain ⟨_, _, r1, r2, r3⟩ := h.olo e
    exact ⟨r1, r2, r3⟩
  have hk1 : ∀ q, q < w.heap.size → lab q ≠ 2 → lab q ≠ 6 → w1.heap[q]? = w.heap[q]? := fun q q1 q2 q3 => h1.keep q q1 (fun e => q2 (by rw [e]; exact hl.1)) (fun g0 e e2 => q3 (by rw [e2]; exact (hoa g0 e).2.2))
  have hk : ∀ q, q < w.heap.size → lab q ≠ 2 → lab q ≠ 3 → lab q ≠ 6 → w2.heap[q]? = w.heap[q]? := fun q q1 q2 q3 q4 => (h2.keep q (Nat.lt_of_lt_of_le q1 hs1) (fun e => q2 (by rw [e]; exact hl.1)) (fun g0 e e2 => q3 (by cases e; rw [e2]; exact hl.2))).trans (hk1 q q1 q2 q4)
  have g1lt := h1.lt
  have g1c : (oa = some ⟨g1, 0, none⟩ ∧ g1 < w.heap.size ∧ lab g1 = 6 ∧ lo ≤ g1) ∨ w.heap.size ≤ g1 := by
    rcases h1.src with q | q
    · have := hoa g1 q; exact Or.inl ⟨q, this.1, this.2.2, this.2.1⟩
    · exact Or.inr q
  have g2c : g2 = wb ∨ w1.heap.size ≤ g2 := by
    rcases h2.src with q | q
    · cases q; exact Or.inl rfl
    · exact Or.inr q
  have g1b : g1 ≠ b ∧ g1 ≠ wb := by
    rcases g1c with ⟨_, q1, q2, _⟩ | q
    · exact ⟨fun e => by rw [e] at q2; omega, fun e => by rw [e] at q2; omega⟩
    · constructor <;> omega
  have hkg : w2.heap[g1]? = w1.heap[g1]? := h2.keep g1 g1lt g1b.1 (fun g0 e e2 => by cases e; exact g1b.2 e2)
  have hlow := h.low
  have hrlt : ∀ q, (Value.slice a k c).ownBlock = some q → lo ≤ q ∧ q < w.heap.size ∧ q ≠ g1 := fun q e => by
    have r1 := hrow.lt q e
    refine ⟨r1.1, r1.2, fun e2 => ?_⟩
    rcases g1c with ⟨_, _, q2, _⟩ | q2
    · have := hrl q e; rw [e2] at this; omega
    · omega
  obtain ⟨L, hL1, hL2⟩ : ∃ L : Nat → Nat, (∀ q, q < w.heap.size → (Value.slice a k c).ownBlock ≠ some q → L q = lab q) ∧ (∀ q, (Value.slice a k c).ownBlock = some q → L q = 7 + n) ∧ (w.heap.size ≤ g1 → L g1 = 6) ∧ (w1.heap.size ≤ g2 → L g2 = 3) := by
    refine ⟨fun q => if (Value.slice a k c).ownBlock = some q then 7 + n else if q < w.heap.size then lab q else if q = g1 then 6 else 3, fun q q1 q2 => (if_neg q2).trans (if_pos q1), fun q q1 => if_pos q1, fun q1 => (if_neg (fun e => (hrlt g1 e).2.2 rfl)).trans ((if_neg (by omega)).trans (if_pos rfl)), fun q1 => (if_neg (fun e => by have := (hrlt g2 e).2.1; omega)).trans ((if_neg (by omega)).trans (if_neg (by omega)))⟩
  have hLk : ∀ q, q < w.heap.size → lab q ≠ 0 → L q = lab q := fun q q1 q2 => hL1 q q1 (fun e => q2 (hrl q e))
  have hLg1 : L g1 = 6 := by
    rcases g1c with ⟨_, q1, q2, _⟩ | q
    · rw [hLk g1 q1 (by omega)]; exact q2
    · exact hL2.2.1 q
  have hLg2 : L g2 = 3 := by
    rcases g2c with q | q
    · rw [q, hLk wb hwl (by omega)]; exact hl.2
    · exact hL2.2.2 q
  have hbn : ∀ x, x < n → blkB (bornM n g.mm) x = blkB g.mm x := fun x hx => by
    unfold blkB bornM
    dsimp only
    rw [if_neg (by omega)]
  have hbn2 : blkB (bornM n g.mm) n = true := by
    unfold blkB bornM
    dsimp only
    rw [if_pos rfl]
    have : g.mm.ln.contains n = false := by
      rw [← Bool.not_eq_true, List.contains_iff_mem]
      intro q
      have := hln n q
      omega
    rw [this]
    rfl
  refine ⟨L, ⟨by show (g.os ++ [_]).length = n + 1; rw [List.length_append, hn]; rfl, h.hr, hb2, Or.inr ⟨g1, rfl, there_keep h1.th hkg, h1.le, by omega, ?_, hLg1⟩, fun f hf => ?_, h.reg.keep (by omega) (fun q e => by have := h.rlb q e; exact hk q (h.reg.lt q e).2 (by omega) (by omega) (by omega)), fun q e => by have := h.rlb q e; rw [hLk q (h.reg.lt q e).2 (by omega)]; exact this, h2.th, h2.lt, h2.le, fun x hx => ?_, h.lin.keep (by omega) (fun q e => by have := h.llb q e; exact hk q (h.lin.lt q e).2 (by omega) (by omega) (by omega)), fun q e => by have := h.llb q e; rw [hLk q (h.lin.lt q e).2 (by omega)]; exact this, ⟨by rw [hLk b hbl (by omega)]; exact hl.1, hLg2⟩, ⟨hlow.1, ?_⟩⟩⟩
  · rcases g1c with ⟨_, _, _, q⟩ | q
    · exact q
    · have := h.low; omega
  · show ∃ bo a0 c0, some ⟨g1, 0, none⟩ = some (⟨bo, 0, none⟩ : Addr) ∧ w2.cell? ⟨bo, f, none⟩ = some (.slice a0 ((g.os ++ [List.replicate k (-1)]).getD f []).length c0) ∧ OwnO lo w2 (.slice a0 ((g.os ++ [List.replicate k (-1)]).getD f []).length c0) ((g.os ++ [List.replicate k (-1)]).getD f []) ∧ ∀ q, (Value.slice a0 ((g.os ++ [List.replicate k (-1)]).getD f []).length c0).ownBlock = some q → L q = 7 + f
    rw [getD_app]
    by_cases e : f = g.os.length
    · rw [if_pos e, List.length_replicate]
      have ef : f = n := by omega
      subst ef
      refine ⟨g1, a, c, rfl, cell_of (h1.cells f _ ?_) hkg, hrow.keep (by omega) (fun q hq => by have := hrl q hq; exact hk q (hrow.lt q hq).2 (by omega) (by omega) (by omega)), fun q hq => hL2.1 q hq⟩
      unfold rowsV
      rw [List.getElem?_append_right (by simp)]
      simp
    · rw [if_neg e]
      have hfn : f < n := by omega
      obtain ⟨bo, a0, c0, p0, p1, p2, p3⟩ := h.row f hfn
      subst p0
      refine ⟨g1, a0, c0, rfl, cell_of (h1.cells f _ ?_) hkg, p2.keep (by omega) (fun q hq => by have := p3 q hq; exact hk q (p2.lt q hq).2 (by omega) (by omega) (by omega)), fun q hq => by have := p3 q hq; rw [hLk q (p2.lt q hq).2 (by omega)]; exact this⟩
      have hlr : (rowsV w (some ⟨bo, 0, none⟩) n).length = n := by unfold rowsV; simp
      rw [List.getElem?_append_left (by rw [hlr]; exact hfn), rowsV_at hfn, p1]
      rfl
  · show w2.cell? ⟨g2, x, none⟩ = some (.bool (blkB (bornM n g.mm) x))
    by_cases e : x = n
    · subst e
      rw [hbn2]
      refine h2.cells x _ ?_
      rw [List.getElem?_append_right (by simp)]
      simp
    · have hxn : x < n := by omega
      rw [hbn x hxn]
      refine h2.cells x _ ?_
      rw [List.getElem?_append_left (by simpa using hxn), List.getElem?_map, List.getElem?_range hxn]
      rfl
  · rcases g2c with q | q
    · rw [q]; exact hlow.2
    · have := h.low; omega


set_option maxRecDepth 100000 in
set_option maxHeartbeats 4000000 in
theorem act_nk {lo : Nat} {Wt : World} {lab : Nat → Nat} {b : Nat} {oa : Option Addr} {n co : Nat} {ar : Option Addr} {nr cr wb cw : Nat} {vl : Value} {g : Gm} (h : RfL lo Wt lab b oa n co ar nr cr wb cw vl g) (hg : GoodG g) (hnd : NodG g.mm) (AB : Nat) (z : Int) (C : Bool) (ta k : Nat) (hta : ta < nr) (hk20 : k ≤ 20) (hn5 : n ≠ 500) (hAB : Wt.heap[AB]? = some (.cells #[.int .i64 4, .int .i64 (ta : Int), .int .i64 (k : Int), .int .i64 0] 47 (0, 0))) (hla : lab AB = 0) (P0 : Ending → World → Prop) (hP : ∀ w', RfX lo w' b ⟨g.os ++ [List.replicate k (-1)], g.rs.set ta (n : Int), bornM n g.mm⟩ → Below lo Wt w' → P0 (.returned (.int .i64 0)) w')
    {s1 s3 s5 s6 s7 s10 s11 s12 s13 s14 s15 s16 s17 s18 s19 s20 s21 s22 s23 s24 s25 s26 s27 s28 s29 s30 s31 s32 s33 s34 s35 s36 s37 s38 s39 s40 s41 s42 s43 s44 s45 s46 s47 s48 s49 s50 s51 s52 s53 s54 s55 s56 s57 s58 s59 s60 s61 s62 s63 s64 s65 s66 s67 s68 s69 s70 s71 s72 s73 s74 s75 s76 s77 s78 s79 s80 s81 s82 s83 s84 s85 s86 s87 s88 s89 s90 s91 s92 s93 s94 s95 s96 s97 s98 s99 s100 s101 s102 s103 s104 s105 s106 s107 s108 s109 s110 s111 s112 s113 s114 s115 s116 s117 s118 s119 s120 s121 s122 s123 s124 s125 s126 s127 s128 s129 s130 s131 s132 s133 s134 s135 s136 s137 s138 s139 s140 s141 s142 s143 s144 s145 s146 s147 s148 s149 s150 s151 s152 s153 s154 s155 s156 s157 s158 s159 s160 s161 s162 s163 s164 s165 s166 s167 s168 s169 s170 s171 s172 s173 s174 s175 s176 s177 s178 s179 s180 s181 s182 s183 s184 s185 s186 s187 s188 s189 s190 s191 s192 s193 s194 s195 s196 s197 s198 s199 s200 s201 s202 s203 s204 s205 s206 s207 s208 s209 s210 s211 s212 s213 s214 s215 s216 s217 s218 s219 s220 s221 s222 s223 s224 s225 s226 s227 s228 s229 s230 s231 s232 s233 s234 s235 s236 s237 s238 s239 s240 s241 s242 s243 s244 s245 s246 s247 s248 s249 s250 s251 s252 s253 s254 s255 s256 s257 s258 s259 s260 s261 s262 s263 s264 s265 s266 s267 s268 s269 s270 : Value} (K1 K2 : Act → World → Prop) (x y zc : Code) (hK1 : ∀ a w', y.wp Try.prog (Exit.then K2 (bodyPost Try.prog Try.f35 P0)) a w' → K1 a w') (hK2 : ∀ a w', zc.wp Try.prog (bodyPost Try.prog Try.f35 P0) a w' → K2 a w') (hcut : Try.f35.body.bind (cutIfE 4) = some (x, y, zc)) :
    x.wp Try.prog (Exit.then K1 (Exit.then K2 (bodyPost Try.prog Try.f35 P0))) { tmps := (.pointer (some ⟨b, 0, none⟩) :: s1 :: .int .i64 z :: s3 :: .pointer (some ⟨AB, 0, none⟩) :: s5 :: s6 :: s7 :: .bool true :: .bool C :: s10 :: s11 :: s12 :: s13 :: s14 :: s15 :: s16 :: s17 :: s18 :: s19 :: s20 :: s21 :: s22 :: s23 :: s24 :: s25 :: s26 :: s27 :: s28 :: s29 :: s30 :: s31 :: s32 :: s33 :: s34 :: s35 :: s36 :: s37 :: s38 :: s39 :: s40 :: s41 :: s42 :: s43 :: s44 :: s45 :: s46 :: s47 :: s48 :: s49 :: s50 :: s51 :: s52 :: s53 :: s54 :: s55 :: s56 :: s57 :: s58 :: s59 :: s60 :: s61 :: s62 :: s63 :: s64 :: s65 :: s66 :: s67 :: s68 :: s69 :: s70 :: s71 :: s72 :: s73 :: s74 :: s75 :: s76 :: s77 :: s78 :: s79 :: s80 :: s81 :: s82 :: s83 :: s84 :: s85 :: s86 :: s87 :: s88 :: s89 :: s90 :: s91 :: s92 :: s93 :: s94 :: s95 :: s96 :: s97 :: s98 :: s99 :: s100 :: s101 :: s102 :: s103 :: s104 :: s105 :: s106 :: s107 :: s108 :: s109 :: s110 :: s111 :: s112 :: s113 :: s114 :: s115 :: s116 :: s117 :: s118 :: s119 :: s120 :: s121 :: s122 :: s123 :: s124 :: s125 :: s126 :: s127 :: s128 :: s129 :: s130 :: s131 :: s132 :: s133 :: s134 :: s135 :: s136 :: s137 :: s138 :: s139 :: s140 :: s141 :: s142 :: s143 :: s144 :: s145 :: s146 :: s147 :: s148 :: s149 :: s150 :: s151 :: s152 :: s153 :: s154 :: s155 :: s156 :: s157 :: s158 :: s159 :: s160 :: s161 :: s162 :: s163 :: s164 :: s165 :: s166 :: s167 :: s168 :: s169 :: s170 :: s171 :: s172 :: s173 :: s174 :: s175 :: s176 :: s177 :: s178 :: s179 :: s180 :: s181 :: s182 :: s183 :: s184 :: s185 :: s186 :: s187 :: s188 :: s189 :: s190 :: s191 :: s192 :: s193 :: s194 :: s195 :: s196 :: s197 :: s198 :: s199 :: s200 :: s201 :: s202 :: s203 :: s204 :: s205 :: s206 :: s207 :: s208 :: s209 :: s210 :: s211 :: s212 :: s213 :: s214 :: s215 :: s216 :: s217 :: s218 :: s219 :: s220 :: s221 :: s222 :: s223 :: s224 :: s225 :: s226 :: s227 :: s228 :: s229 :: s230 :: s231 :: s232 :: s233 :: s234 :: s235 :: s236 :: s237 :: s238 :: s239 :: s240 :: s241 :: s242 :: s243 :: s244 :: s245 :: s246 :: s247 :: s248 :: s249 :: s250 :: s251 :: s252 :: s253 :: s254 :: s255 :: s256 :: s257 :: s258 :: s259 :: s260 :: s261 :: s262 :: s263 :: s264 :: s265 :: s266 :: s267 :: s268 :: s269 :: s270 :: []).toArray, defers := [] } Wt := by
  have hcc : Try.f35.body.bind (cutIfE 4) = some (_, _, _) := rfl
  rw [hcc] at hcut
  cases hcut
  clear hcc
  obtain ⟨⟨q0, q1, q2, q3⟩, ⟨qf0, qf1, qf2, qf3⟩, ql⟩ := block4 hAB
  obtain ⟨⟨m0, m1, m2, m3⟩, ⟨mf0, mf1, mf2, mf3⟩, ml⟩ := block4 h.blk
  have HQ := hide hAB; have HP := hide hP; have HR := hide h; have HG := hide hg; have HND := hide hnd
  have HLO : Hid (lo ≤ Wt.heap.size) := Nat.le_trans h.low.1 (Nat.le_of_lt h.blt)
  obtain ⟨gb, go, ear, t1, tf1, hl5, hlow5, hglt⟩ := h.regAt hta
  have k1 : (0 : Int) ≤ (ta : Int) := by omega
  have k2 : (ta : Int) < (nr : Int) := by omega
  have x1 : ¬ (k : Int) < 0 := by omega
  have x2 : ¬ (20 : Int) < (k : Int) := by omega
  have x3 : ((n : Int) == 500) = false := by simp; omega
  have hlb := h.lbs
  have hABl := size_of hAB
  have n1 : b ≠ gb := fun e => by rw [← e] at hl5; omega
  have n2 : AB ≠ gb := fun e => by rw [← e] at hl5; omega
  subst ear
  have hn500 : n ≤ 500 := by rw [← h.hn]; exact hg.gh.no
  have HS3 : Hid (∀ (W : World) (u : Value), (W.cell? ⟨b, 0, none⟩ = some (.slice oa n co) ∧ W.cell? ⟨b, 1, none⟩ = some (.slice (some ⟨gb, go, none⟩) nr cr) ∧ W.cell? ⟨AB, 1, none⟩ = some (.int .i64 (ta : Int))) → (W.setCell ⟨gb, go + ta, none⟩ u).cell? ⟨b, 0, none⟩ = some (.slice oa n co) ∧ (W.setCell ⟨gb, go + ta, none⟩ u).cell? ⟨b, 1, none⟩ = some (.slice (some ⟨gb, go, none⟩) nr cr) ∧ (W.setCell ⟨gb, go + ta, none⟩ u).cell? ⟨AB, 1, none⟩ = some (.int .i64 (ta : Int))) := fun W u hW => ⟨cell_other hW.1 (Or.inl n1) u, cell_other hW.2.1 (Or.inl n1) u, cell_other hW.2.2 (Or.inl n2) u⟩
  have HSDR : Hid (∀ W : World, (W.cell? ⟨b, 0, none⟩ = some (.slice oa n co) ∧ W.cell? ⟨b, 1, none⟩ = some (.slice (some ⟨gb, go, none⟩) nr cr) ∧ W.cell? ⟨AB, 1, none⟩ = some (.int .i64 (ta : Int))) → W.drew.cell? ⟨b, 0, none⟩ = some (.slice oa n co) ∧ W.drew.cell? ⟨b, 1, none⟩ = some (.slice (some ⟨gb, go, none⟩) nr cr) ∧ W.drew.cell? ⟨AB, 1, none⟩ = some (.int .i64 (ta : Int))) := fun W hW => hW
  have HW5 := hide hlow5
  have HT1 := hide t1; have HTF := hide tf1; have HGL := hide hglt; have HABL := hide hABl
  have HRT : Hid (RfL lo Wt (fun q => if q < Wt.heap.size then lab q else 0) b oa n co (some ⟨gb, go, none⟩) nr cr wb cw vl g) := h.relab (fun q hq => if_pos hq)
  have HLN : Hid (∀ x ∈ g.mm.ln, x < n) := fun x hx => by rw [← h.hn]; exact hg.ln.lt x hx
  clear t1 tf1 hl5 hglt hlb hABl n1 n2 hn5
  clear hAB hP h hg hnd
  go_upto_region 36 with fail
  clear q0 q1 q2 q3 qf0 qf1 qf2 qf3 ql m0 m1 m2 m3 mf0 mf1 mf2 mf3 ml x1 x2 x3
  have HX0 : Hid (Below Wt.heap.size Wt Wt) := Below.refl _ _
  have HO0 : Hid (Own KI Wt.heap.size Wt (.slice none 0 0) (List.replicate 0 (-1))) := own_nil _ _
  go_loopw [13, 14] (fun s13 s14 wr => ∃ (i : Nat) (a : Option Addr) (c : Nat), i ≤ k ∧ s14 = .int .i64 (i : Int) ∧ s13 = .slice a i c ∧ Hid (Own KI Wt.heap.size wr (.slice a i c) (List.replicate i (-1))) ∧ Hid (Below Wt.heap.size Wt wr)) (fun _ s14 _ => k - (intOf s14).toNat)
  case atStart => exact ⟨0, none, 0, Nat.zero_le _, rfl, rfl, HO0, HX0⟩
  case round =>
    obtain ⟨i, a, c, hi, rfl, rfl, HO, HX⟩ := hrel
    clear HX0 HO0
    obtain ⟨⟨q0, q1, q2, q3⟩, -, ql⟩ := block4 (keep_below (unhide HQ) (unhide HX))
    by_cases hin : i < k
    · have i7 : (i : Int) < (k : Int) := by omega
      have hw1 : IntKind.i64.wrap ((i : Int) + 1) = (i : Int) + 1 := wrapi (by omega) (by omega)
      have HX4 := hide ((unhide HX).alloc (unhide HX).size (.cells #[.int .i64 (-1)] 3)); have HO4 := hide ((unhide HO).below ((Below.refl _ _).alloc (Nat.le_refl _) (.cells #[.int .i64 (-1)] 3)))
      have HI4 : Hid (IsL KI (wr.alloc (.cells #[.int .i64 (-1)] 3)) (.slice (some ⟨wr.heap.size, 0, none⟩) 1 1) [(-1 : Int)]) := isl_one ki wr (-1 : Int)
      have HRL : Hid ((List.replicate i (-1 : Int)).length + [(-1 : Int)].length = i + 1) := hide (by simp)
      have HRR : Hid (List.replicate i (-1 : Int) ++ [(-1 : Int)] = List.replicate (i + 1) (-1)) := hide (List.replicate_succ' ..).symm
      go_wp2_with (refine wpList_append ki rfl (.tmp 216) (.tmp 217) rfl Wt.heap.size _ (List.replicate i (-1)) rfl (unhide HO4) _ [(-1 : Int)] rfl (unhide HI4) (i + 1) (unhide HRL) (by show (i + 1) * 8 ≤ 140737488355328; omega) (unhide HX4).size ?_; intro a' c' w' ho hg'; rw [unhide HRR] at ho; have HO5 := hide ho; have HX5 := hide ((unhide HX4).grown hg' (unhide HX4).size (fun q hq => ((unhide HO4).lt q hq).1)); clear ho hg')
      go_roundw
      case rel => exact ⟨i + 1, a', c', by omega, by go_num, rfl, HO5, HX5⟩
      case measure => simp [intOf]; omega
    · obtain rfl : i = k := by omega
      have i7 : ¬ (i : Int) < (i : Int) := by omega
      go_upto_region 39 with fail
      clear q0 q1 q2 q3 ql
      have HR9 := hide ((unhide HRT).keep (unhide HX))
      have HS8 : Hid ((fun W : World => W.cell? ⟨b, 0, none⟩ = some (.slice oa n co) ∧ W.cell? ⟨b, 1, none⟩ = some (.slice (some ⟨gb, go, none⟩) nr cr) ∧ W.cell? ⟨AB, 1, none⟩ = some (.int .i64 (ta : Int))) wr) := ⟨(block4 (unhide HR9).blk).1.1, (block4 (unhide HR9).blk).1.2.1, (block4 (keep_below (unhide HQ) (unhide HX))).1.2.1⟩
      have HS8d : Hid ((fun W : World => W.cell? ⟨b, 0, none⟩ = some (.slice oa n co) ∧ W.cell? ⟨b, 1, none⟩ = some (.slice (some ⟨gb, go, none⟩) nr cr) ∧ W.cell? ⟨AB, 1, none⟩ = some (.int .i64 (ta : Int))) wr.drew) := unhide HS8
      have g1 := cell_of (unhide HT1) ((unhide HX).block gb (unhide HGL))
      have f1 := froz_of (unhide HTF) ((unhide HX).block gb (unhide HGL))
      have g2 : wr.drew.cell? ⟨gb, go + ta, none⟩ = some (.int .i64 (g.rs.getD ta 0)) := g1
      have f2 : wr.drew.frozen? ⟨gb, go + ta, none⟩ = false := f1
      go_region_held3 (fun W => W.cell? ⟨b, 0, none⟩ = some (.slice oa n co) ∧ W.cell? ⟨b, 1, none⟩ = some (.slice (some ⟨gb, go, none⟩) nr cr) ∧ W.cell? ⟨AB, 1, none⟩ = some (.int .i64 (ta : Int)))
        (first | with_reducible exact unhide HS8 | with_reducible exact unhide HS8d | (repeat (first | with_reducible exact unhide HS8 | with_reducible exact unhide HS8d | with_reducible refine unhide HS3 _ _ ?_ | with_reducible refine unhide HSDR _ ?_)))
        (fail)
      clear g1 g2 f1 f2 HS8 HS8d
      obtain ⟨W8, e8⟩ : ∃ X, (wr.setCell ⟨gb, go + ta, none⟩ (.int .i64 (n : Int))).drew = X := ⟨_, rfl⟩
      have HR8 : Hid (RfL lo W8 (fun q => if q < Wt.heap.size then lab q else 0) b oa n co (some ⟨gb, go, none⟩) nr cr wb cw vl ⟨g.os, g.rs.set ta (n : Int), g.mm⟩) := by rw [← e8]; exact ((unhide HR9).setReg hta rfl (n : Int)).1.keep (Below.refl _ _).drew
      have HX8 : Hid (Below lo Wt W8) := by rw [← e8]; exact (((unhide HX).mono (unhide HLO)).setCell (p := ⟨gb, go + ta, none⟩) (unhide HW5) _).drew
      have HO8 : Hid (OwnO lo W8 (.slice a i c) (List.replicate i (-1))) := by rw [← e8]; exact ((unhide HO).o.low (unhide HLO)).keep (by show wr.heap.size ≤ (wr.setCell _ _).heap.size; rw [size_set]; exact Nat.le_refl _) (fun q hq => by show (wr.setCell _ _).heap[q]? = _; exact Below.heap_setCell _ _ _ _ (fun e => by have e2 : q = gb := e; have := ((unhide HO).lt q hq).1; have := unhide HGL; omega))
      have HOL : Hid (∀ q, (Value.slice a i c).ownBlock = some q → (fun q => if q < Wt.heap.size then lab q else 0) q = 0) := fun q hq => if_neg (by have := ((unhide HO).lt q hq).1; omega)
      rw [e8]
      clear e8 HR9
      obtain ⟨⟨m0, m1, m2, m3⟩, ⟨mf0, mf1, mf2, mf3⟩, ml⟩ := block4 (unhide HR8).blk
      have HN8 := hide (block1 (new_block W8 (.cells #[.slice a i c] 23))).1
      have hb8 : Below W8.heap.size W8 (W8.alloc (.cells #[.slice a i c] 23)) := (Below.refl _ _).alloc (Nat.le_refl _) _
      have HB8 := hide hb8
      have HOB : Hid ((oa = none ∧ n = 0 ∧ co = 0) ∨ ∃ g0, oa = some ⟨g0, 0, none⟩ ∧ (W8.alloc (.cells #[.slice a i c] 23)).there g0 0 co ∧ n ≤ co ∧ g0 < (W8.alloc (.cells #[.slice a i c] 23)).heap.size) := by
        rcases (unhide HR8).obj with q | ⟨g0, q1, q2, q3, q4, _, _⟩
        · exact Or.inl q
        · exact Or.inr ⟨g0, q1, there_keep q2 (hb8.block g0 q4), q3, Nat.lt_of_lt_of_le q4 hb8.size⟩
      have HHO : Hid (∀ g0, oa = some ⟨g0, 0, none⟩ → ∀ j u, (rowsV W8 oa n)[j]? = some u → (W8.alloc (.cells #[.slice a i c] 23)).cell? ⟨g0, j, none⟩ = some u) := fun g0 e j u hu => by
        subst e
        have hj : j < n := by have := (List.getElem?_eq_some_iff.1 hu).1; unfold rowsV at this; simpa using this
        rw [rowsV_at hj] at hu
        obtain ⟨bo, a0, c0, p0, p1, _, _⟩ := (unhide HR8).row j hj
        cases p0
        rw [p1] at hu
        rw [← Option.some.inj hu]
        exact cell_of p1 (hb8.block g0 ((unhide HR8).olo rfl).2.2.1)
      have HRVL : Hid ((rowsV W8 oa n).length = n) := by unfold rowsV; exact hide (by simp)
      have HBO : Hid (∀ g0, oa = some ⟨g0, 0, none⟩ → b ≠ g0) := fun g0 e e2 => by have h1_ := ((unhide HR8).olo e).2.2.2.2; have h2_ := (unhide HR8).lbs.1; rw [← e2] at h1_; omega
      clear hb8
      have HBK : Hid (∀ (B g1 co' : Nat) (w9 : World), (W8.alloc (.cells #[.slice a i c] 23)).heap.size ≤ B → PA (W8.alloc (.cells #[.slice a i c] 23)) w9 B oa n g1 co' (rowsV W8 oa n ++ [.slice a i c]) → w9.heap[b]? = some (.cells #[.slice oa n co, .slice (some ⟨gb, go, none⟩) nr cr, .slice (some ⟨wb, 0, none⟩) n cw, vl] 65 (0, 0))) := fun B g1 co' w9 hB hp => hp.at hB (unhide HB8) (unhide HR8).blk (unhide HBO)
      clear mf0 mf1 mf2 mf3 m1 m2 m3
      go_upto_region 41 with (refine wpList_push rfl (.tmp 238) (.tmp 240) 22 23 (.slice none 0 0) 24 (W8.alloc (.cells #[.slice a i c] 23)).heap.size rfl Try.underlying22 infoKL rfl oa n co (rowsV W8 oa n) rfl (unhide HRVL) (unhide HOB) (unhide HHO) W8.heap.size (.slice a i c) rfl (unhide HN8) rfl (by omega) (by decide) ?_; intro g1 co' w9 hp9; have HP9 := hide hp9; have HB9 := hide (unhide HBK _ _ _ _ (Nat.le_refl _) hp9); clear hp9; obtain ⟨⟨y0, y1, y2, y3⟩, ⟨yf0, yf1, yf2, yf3⟩, yl⟩ := block4 (unhide HB9))
      clear y0 y1 y2 y3 yf0 yf1 yf2 yf3 yl m0 ml HOB HHO HRVL HN8 HBK
      obtain ⟨W10, e10⟩ : ∃ X, w9.setCell ⟨b, 0, none⟩ (.slice (some ⟨g1, 0, none⟩) (n + 1) co') = X := ⟨_, rfl⟩
      have hp9 := unhide HP9
      have hPA1 : PA W8 W10 b oa n g1 co' (rowsV W8 oa n ++ [.slice a i c]) := by rw [← e10]; exact (hp9.rebase (b := b) (Nat.le_refl _)).after (unhide HB8) (unhide HR8).blt (unhide HBO)
      have hb10 : W10.heap[b]? = some (.cells #[.slice (some ⟨g1, 0, none⟩) (n + 1) co', .slice (some ⟨gb, go, none⟩) nr cr, .slice (some ⟨wb, 0, none⟩) n cw, vl] 65 (0, 0)) := by rw [← e10]; exact mk_set0 (unhide HB9)
      rw [e10]
      clear e10 hp9
      have hr8 := unhide HR8
      have hkw : W10.heap[wb]? = W8.heap[wb]? := hPA1.keep wb hr8.bwl (fun e => by have h1_ := hr8.lbs; rw [e] at h1_; omega) (fun g0 e e2 => by have h1_ := (hr8.olo e).2.2.2.2; have h2_ := hr8.lbs.2; rw [← e2] at h1_; omega)
      have hb11 : Below W10.heap.size W10 (W10.alloc (.cells #[.bool true] 4)) := (Below.refl _ _).alloc (Nat.le_refl _) _
      have hwl10 : wb < W10.heap.size := Nat.lt_of_lt_of_le hr8.bwl hPA1.size
      have HTW : Hid ((some (⟨wb, 0, none⟩ : Addr) = none ∧ n = 0 ∧ cw = 0) ∨ ∃ g0, some (⟨wb, 0, none⟩ : Addr) = some ⟨g0, 0, none⟩ ∧ (W10.alloc (.cells #[.bool true] 4)).there g0 0 cw ∧ n ≤ cw ∧ g0 < (W10.alloc (.cells #[.bool true] 4)).heap.size) := Or.inr ⟨wb, rfl, there_keep (there_keep hr8.bth hkw) (hb11.block wb hwl10), hr8.bwe, Nat.lt_of_lt_of_le hwl10 hb11.size⟩
      have HHW : Hid (∀ g0, some (⟨wb, 0, none⟩ : Addr) = some ⟨g0, 0, none⟩ → ∀ j u, ((List.range n).map (fun x => Value.bool (blkB g.mm x)))[j]? = some u → (W10.alloc (.cells #[.bool true] 4)).cell? ⟨g0, j, none⟩ = some u) := fun g0 e j u hu => by
        cases e
        have hj : j < n := by have := (List.getElem?_eq_some_iff.1 hu).1; simpa using this
        rw [List.getElem?_map, List.getElem?_range hj] at hu
        rw [← Option.some.inj hu]
        exact cell_of (cell_of (hr8.bla j hj) hkw) (hb11.block wb hwl10)
      have HRWL : Hid (((List.range n).map (fun x => Value.bool (blkB g.mm x))).length = n) := hide (by simp)
      have HN10 := hide (block1 (new_block W10 (.cells #[.bool true] 4))).1
      have HBW : Hid (∀ g0, some (⟨wb, 0, none⟩ : Addr) = some ⟨g0, 0, none⟩ → b ≠ g0) := fun g0 e e2 => by cases e; have h1_ := hr8.lbs; rw [e2] at h1_; omega
      have HB11 := hide hb11; have HB10 := hide hb10; have HPA1 := hide hPA1
      have HBK : Hid (∀ (B g2 cw' : Nat) (w11 : World), (W10.alloc (.cells #[.bool true] 4)).heap.size ≤ B → PA (W10.alloc (.cells #[.bool true] 4)) w11 B (some ⟨wb, 0, none⟩) n g2 cw' ((List.range n).map (fun x => Value.bool (blkB g.mm x)) ++ [.bool true]) → w11.heap[b]? = some (.cells #[.slice (some ⟨g1, 0, none⟩) (n + 1) co', .slice (some ⟨gb, go, none⟩) nr cr, .slice (some ⟨wb, 0, none⟩) n cw, vl] 65 (0, 0))) := fun B g2 cw' w11 hB hp => hp.at hB (unhide HB11) (unhide HB10) (unhide HBW)
      obtain ⟨⟨m0, m1, m2, m3⟩, ⟨mf0, mf1, mf2, mf3⟩, ml⟩ := block4 hb10
      clear hr8 hkw hb11 hwl10 hb10 hPA1 HP9 HB9 mf0 mf1 mf2 mf3 m0 m1 m3
      go_wp2_with (refine wpList_push rfl (.tmp 249) (.tmp 250) 37 4 (.bool false) 1 (W10.alloc (.cells #[.bool true] 4)).heap.size rfl Try.underlying37 infoB rfl (some ⟨wb, 0, none⟩) n cw ((List.range n).map (fun x => Value.bool (blkB g.mm x))) rfl (unhide HRWL) (unhide HTW) (unhide HHW) W10.heap.size (.bool true) rfl (unhide HN10) rfl (by omega) (by decide) ?_; intro g2 cw' w11 hp11; have HP11 := hide hp11; have HB12 := hide (unhide HBK _ _ _ _ (Nat.le_refl _) hp11); clear hp11; obtain ⟨⟨y0, y1, y2, y3⟩, ⟨yf0, yf1, yf2, yf3⟩, yl⟩ := block4 (unhide HB12))
      have hp11 := unhide HP11
      have hPA2 : PA W10 (w11.setCell ⟨b, 2, none⟩ (.slice (some ⟨g2, 0, none⟩) (n + 1) cw')) b (some ⟨wb, 0, none⟩) n g2 cw' ((List.range n).map (fun x => Value.bool (blkB g.mm x)) ++ [.bool true]) := (hp11.rebase (b := b) (Nat.le_refl _)).after (unhide HB11) (size_of (unhide HB10)) (unhide HBW)
      have hb12 : (w11.setCell ⟨b, 2, none⟩ (.slice (some ⟨g2, 0, none⟩) (n + 1) cw')).heap[b]? = some (.cells #[.slice (some ⟨g1, 0, none⟩) (n + 1) co', .slice (some ⟨gb, go, none⟩) nr cr, .slice (some ⟨g2, 0, none⟩) (n + 1) cw', vl] 65 (0, 0)) := mk_set2 (unhide HB12)
      obtain ⟨lab', hnew⟩ := (unhide HR8).born (unhide HLN) (unhide HO8) (unhide HOL) (unhide HPA1) hPA2 hb12
      have hlow8 := (unhide HR8).low
      have hz8 : lo ≤ W8.heap.size := Nat.le_trans hlow8.1 (Nat.le_of_lt (unhide HR8).blt)
      have hbw1 := (unhide HPA1).below lo hlow8.1 (fun g0 e => ((unhide HR8).olo e).2.2.2.1) hz8
      have hbw2 := hPA2.below lo hlow8.1 (fun g0 e => by cases e; exact hlow8.2) (Nat.le_trans hz8 (unhide HPA1).size)
      exact unhide HP _ (RfX.of hnew) ((unhide HX8).trans (hbw1.trans hbw2))
end Go.Proofs.Ytmkehjncnaokoaa
