/-
  taskmillref.SetLine: the function inside it.
-/
import Derived.Test.YtjlcfdhghohccaaU
namespace Go.Proofs.Ytjlcfdhghohccaa
open Go.RowKit

/-- The variables of SetLine: at, tasks, out, put, from the block g on. -/
structure SetSt (g : Nat) (x : Int) (tv : Value) (W0 W : World) (ao : Option Addr) (no co : Nat) (rs : List Rl) (b : Bool) : Prop where
  hX : W.heap[g]? = some (.cells #[.int .i64 x] 3 (0, 0))
  hT : W.heap[g + 1]? = some (.cells #[tv] 34 (0, 0))
  hO : W.heap[g + 2]? = some (.cells #[.slice ao no co] 22 (0, 0))
  hP : W.heap[g + 3]? = some (.cells #[.bool b] 4 (0, 0))
  own : OwnL (g + 4) W (.slice ao no co) rs
  below : Below g W0 W

section
variable {g : Nat} {x : Int} {tv : Value} {W0 W W' : World} {ao : Option Addr} {no co : Nat} {rs : List Rl} {b : Bool}
theorem SetSt.keep (h : SetSt g x tv W0 W ao no co rs b) (hb : Below W.heap.size W W') (hg : g ≤ W0.heap.size) : SetSt g x tv W0 W' ao no co rs b :=
  ⟨keep_below h.hX hb, keep_below h.hT hb, keep_below h.hO hb, keep_below h.hP hb, h.own.below hb, Below.next h.below hb hg⟩
theorem set_other {k r : Nat} {w : World} {v : Value} {o : Obj} (h : w.heap[k]? = some o) (hk : k ≠ r) : (w.setCell ⟨r, 0, none⟩ v).heap[k]? = some o := by
  rw [Below.heap_setCell _ _ _ _ (by simpa using hk)]
  exact h
theorem SetSt.put (h : SetSt g x tv W0 W ao no co rs b) (b' : Bool) : SetSt g x tv W0 (W.setCell ⟨g + 3, 0, none⟩ (.bool b')) ao no co rs b' :=
  ⟨set_other h.hX (by omega), set_other h.hT (by omega), set_other h.hO (by omega), one_set h.hP, h.own.keep fun k hk _ => Below.heap_setCell _ _ _ _ (by simp; omega), h.below.setCell (p := ⟨g + 3, 0, none⟩) (by simp) _⟩
theorem SetSt.outv (h : SetSt g x tv W0 W ao no co rs b) {a' : Option Addr} {n' c' : Nat} {rs' : List Rl} (ho : OwnL (g + 4) W (.slice a' n' c') rs') : SetSt g x tv W0 (W.setCell ⟨g + 2, 0, none⟩ (.slice a' n' c')) a' n' c' rs' b :=
  ⟨set_other h.hX (by omega), set_other h.hT (by omega), one_set h.hO, set_other h.hP (by omega), ho.keep fun k hk _ => Below.heap_setCell _ _ _ _ (by simp; omega), h.below.setCell (p := ⟨g + 2, 0, none⟩) (by simp) _⟩
/-- A row has grown. -/
theorem SetSt.grown (h : SetSt g x tv W0 W ao no co rs b) (hg : W.grownBy W' (Value.slice ao no co).ownBlock) (hgs : g + 4 ≤ W.heap.size) : W'.heap[g]? = some (.cells #[.int .i64 x] 3 (0, 0)) ∧ W'.heap[g + 1]? = some (.cells #[tv] 34 (0, 0)) ∧ W'.heap[g + 2]? = some (.cells #[.slice ao no co] 22 (0, 0)) ∧ W'.heap[g + 3]? = some (.cells #[.bool b] 4 (0, 0)) ∧ Below g W0 W' := by
  have hne : ∀ k, k < g + 4 → (Value.slice ao no co).ownBlock ≠ some k := fun k hk e => by have := (h.own.lt k e).1; omega
  exact ⟨keep_grown h.hX hg (hne _ (by omega)), keep_grown h.hT hg (hne _ (by omega)), keep_grown h.hO hg (hne _ (by omega)), keep_grown h.hP hg (hne _ (by omega)), h.below.grown hg (by omega) (fun k hk => by have := (h.own.lt k hk).1; omega)⟩
/-- One more line. -/
theorem SetSt.more (h : SetSt g x tv W0 W ao no co rs b) (hgW : g ≤ W0.heap.size) (hgs : g + 4 ≤ W.heap.size) {o : Obj} {a' : Option Addr} {n' c' : Nat} {rs' : List Rl} (hg : (W.alloc o).grownBy W' (Value.slice ao no co).ownBlock) (ho : OwnL (g + 4) W' (.slice a' n' c') rs') : SetSt g x tv W0 (W'.setCell ⟨g + 2, 0, none⟩ (.slice a' n' c')) a' n' c' rs' b := by
  have h1 := h.keep ((Below.refl W.heap.size W).alloc (Nat.le_refl _) o) hgW
  obtain ⟨g1, g2, g3, g4, g5⟩ := h1.grown hg (by rw [World.size_alloc]; omega)
  exact ⟨set_other g1 (by omega), set_other g2 (by omega), one_set g3, set_other g4 (by omega), ho.keep fun k hk _ => Below.heap_setCell _ _ _ _ (by simp; omega), g5.setCell (p := ⟨g + 2, 0, none⟩) (by simp) _⟩
end

/-- What the function inside SetLine leaves. -/
def addRs (x : Int) (a : Option Addr) (m c : Nat) (rs : List Rl) (b : Bool) : List Rl := if b = true ∨ m = 0 then rs else rs ++ [(x, .slice a m c)]

set_option maxRecDepth 100000 in
set_option maxHeartbeats 2000000 in
theorem setadd1_any (W0 w : World) (g : Nat) (x : Int) (a : Option Addr) (m c : Nat) (ao : Option Addr) (no co : Nat) (rs : List Rl) (b : Bool) (h : SetSt g x (.slice a m c) W0 w ao no co rs b) (hgW : g ≤ W0.heap.size) (hno : rs.length = no) (hn : no ≤ 100000) :
    Calls Try.prog 35 #[.pointer (some ⟨g + 3, 0, none⟩), .pointer (some ⟨g + 1, 0, none⟩), .pointer (some ⟨g + 2, 0, none⟩), .pointer (some ⟨g, 0, none⟩)] w fun e w' => ∃ a' n' c', e = .returned (.tuple #[]) ∧ SetSt g x (.slice a m c) W0 w' a' n' c' (addRs x a m c rs b) true ∧ n' ≤ no + 1 ∧ (addRs x a m c rs b).length = n' := by
  have hnot : ∀ (x : Bool) (w : World), (Op.unary .not (.bool x)).run Try.prog w = .ok (.bool (!x)) w := fun _ _ => rfl
  have hgs : g + 4 ≤ w.heap.size := by have := (block1 h.hP).2.2; omega
  obtain ⟨x0, x1, _⟩ := block1 h.hX
  obtain ⟨t0, t1, _⟩ := block1 h.hT
  obtain ⟨o0, o1, _⟩ := block1 h.hO
  obtain ⟨p0, p1, _⟩ := block1 h.hP
  have n0 : g + 2 ≠ g + 3 := by omega
  have n1 : g + 3 ≠ g + 2 := by omega
  have HS := hide h; have HNO := hide hno
  clear h hno
  cases b with
  | true =>
    have e : addRs x a m c rs true = rs := if_pos (Or.inl rfl)
    rw [e]
    go_enter Try.func35, Try.ntmps35
    go_wp2_with fail
    refine bodyPost_end (v := .tuple #[]) (by simp [results, Try.results35]) rfl ⟨ao, no, co, rfl, (unhide HS).put true, by omega, unhide HNO⟩
  | false =>
    by_cases hm : m = 0
    · have e : addRs x a m c rs false = rs := if_pos (Or.inr hm)
      rw [e]
      subst hm
      go_enter Try.func35, Try.ntmps35
      go_wp2_with fail
      refine bodyPost_end (v := .tuple #[]) (by simp [results, Try.results35]) rfl ⟨ao, no, co, rfl, (unhide HS).put true, by omega, unhide HNO⟩
    · have e : addRs x a m c rs false = rs ++ [(x, .slice a m c)] := if_neg (fun h2 => h2.elim (fun h3 => by cases h3) hm)
      rw [e]
      have hm1 : (0 : Int) < (m : Int) := by omega
      go_enter Try.func35, Try.ntmps35
      go_wp2_with (at_builtin; refine wpList_append_ls rfl (.tmp 11) (.tmp 15) rfl (g + 4) (.slice ao no co) rs rfl ((unhide HS).own.below ((Below.refl _ _).alloc (Nat.le_refl _) _)) _ [(x, .slice a m c)] rfl (rd_new w x _) ones_one (no + 1) (by rw [unhide HNO]; rfl) (by omega) (Nat.le_trans hgs (by simp)) ?_; intro a6 c6 w6 ho6 hg6; have HS6 := hide ((unhide HS).more hgW hgs hg6 ho6); obtain ⟨q1, q2, q3, q4, _⟩ := ((unhide HS).keep ((Below.refl w.heap.size w).alloc (Nat.le_refl _) (.cells #[.int .i64 x, .slice a m c] 55)) hgW).grown hg6 (Nat.le_trans hgs (by simp)); obtain ⟨o2, o3, _⟩ := block1 q3; obtain ⟨p2, p3, _⟩ := block1 q4; clear ho6 hg6 q1 q2 q3 q4)
      refine bodyPost_end (v := .tuple #[]) (by simp [results, Try.results35]) rfl ⟨a6, no + 1, c6, rfl, (unhide HS6).put true, by omega, by rw [List.length_append, unhide HNO]; rfl⟩
end Go.Proofs.Ytjlcfdhghohccaa
