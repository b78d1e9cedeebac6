/-
  Who holds what, on lists; what a race.watch is.
-/
import Derived.Test.YtbnmeeabpjmcoaaYa
import Derived.Test.YtbnmeeabpjmcoaaXd
namespace Go.Proofs.Ytbnmeeabpjmcoaa
open Go.RowKit

/-- How often a task holds a lock, an event later. -/
def holdS (t o v : Int) (e : Ev) : Int := if e.task = t ∧ e.obj = o then (if e.op = 17 then v + 1 else if e.op = 18 then max 0 (v - 1) else v) else v
def holdN (l : List Ev) : Nat → Int → Int → Int
  | 0, _, _ => 0
  | n + 1, t, o => holdS t o (holdN l n t o) (l.getD n ev0)
def holdF (l : List Ev) (n : Nat) : Int × Int → Int := fun p => holdN l n p.1 p.2
/-- How many accesses of a cell there are. -/
def accN (l : List Ev) : Nat → Int → Int
  | 0, _ => 0
  | n + 1, c => accN l n c + if onCell l c n then 1 else 0
/-- At how many a lock is held. -/
def heldN (l : List Ev) : Nat → Int → Int → Int
  | 0, _, _ => 0
  | n + 1, c, o => heldN l n c o + if onCell l c n && decide (0 < holdN l n (l.getD n ev0).task o) then 1 else 0
def heldF (l : List Ev) (n : Nat) : Int × Int → Int := fun p => heldN l n p.1 p.2
/-- One more than the greatest cell. -/
def cellsN (l : List Ev) : Nat → Int
  | 0 => 0
  | n + 1 => if isAcc (l.getD n ev0) then max (cellsN l n) ((l.getD n ev0).obj + 1) else cellsN l n
theorem holdN_nn (l : List Ev) : ∀ n t o, 0 ≤ holdN l n t o ∧ holdN l n t o ≤ n
  | 0, _, _ => ⟨Int.le_refl _, Int.le_refl _⟩
  | n + 1, t, o => by
    have h := holdN_nn l n t o
    show 0 ≤ holdS _ _ _ _ ∧ holdS _ _ _ _ ≤ _
    unfold holdS
    split
    · split
      · omega
      · split <;> omega
    · omega
theorem accN_nn (l : List Ev) : ∀ n c, 0 ≤ accN l n c ∧ accN l n c ≤ n
  | 0, _ => ⟨Int.le_refl _, Int.le_refl _⟩
  | n + 1, c => by
    have h := accN_nn l n c
    show 0 ≤ accN l n c + _ ∧ accN l n c + _ ≤ _
    split <;> omega
theorem heldN_nn (l : List Ev) : ∀ n c o, 0 ≤ heldN l n c o ∧ heldN l n c o ≤ n
  | 0, _, _ => ⟨Int.le_refl _, Int.le_refl _⟩
  | n + 1, c, o => by
    have h := heldN_nn l n c o
    show 0 ≤ heldN l n c o + _ ∧ heldN l n c o + _ ≤ _
    split <;> omega

/-- A race.watch behind the first n events, its maps told by functions. -/
structure WatF (lo : Nat) (w : World) (P H A D : Nat) (hf : Int × Int → Int) (af : Int → Int) (df : Int × Int → Int) (cs : Int) : Prop where
  blk : w.heap[P]? = some (.cells #[.map (some H), .map (some A), .map (some D), .int .i64 cs] 77 (0, 0))
  h : ∃ ks, GMap w H ks hf
  a : ∃ ks : List Int, w.heap[A]? = some (.map (msEnts ks (fun c => .int .i64 (af c))) ks.length) ∧ ks.Nodup ∧ ∀ c, c ∉ ks → af c = 0
  d : ∃ ks, GMap w D ks df
  ha : H ≠ A
  hd : H ≠ D
  ad : A ≠ D
  lp : lo ≤ P
  lh : lo ≤ H
  la : lo ≤ A
  ld : lo ≤ D
theorem GMap.keep {w w' : World} {B : Nat} {ks : List (Int × Int)} {sv : Int × Int → Int} (h : GMap w B ks sv) (hk : w'.heap[B]? = w.heap[B]?) : GMap w' B ks sv := ⟨hk.trans h.map, h.nd, h.zero⟩
theorem WatF.keep {lo : Nat} {w w' : World} {P H A D : Nat} {hf : Int × Int → Int} {af : Int → Int} {df : Int × Int → Int} {cs : Int} (h : WatF lo w P H A D hf af df cs) (hk : ∀ k, k < w.heap.size → lo ≤ k → w'.heap[k]? = w.heap[k]?) : WatF lo w' P H A D hf af df cs := by
  obtain ⟨ks1, h1⟩ := h.h
  obtain ⟨ks2, h2, h3, h4⟩ := h.a
  obtain ⟨ks3, h5⟩ := h.d
  exact ⟨(hk _ (size_of h.blk) h.lp).trans h.blk, ⟨ks1, h1.keep (hk _ (size_of h1.map) h.lh)⟩, ⟨ks2, (hk _ (size_of h2) h.la).trans h2, h3, h4⟩, ⟨ks3, h5.keep (hk _ (size_of h5.map) h.ld)⟩, h.ha, h.hd, h.ad, h.lp, h.lh, h.la, h.ld⟩
theorem WatF.below {lo : Nat} {w w' : World} {P H A D : Nat} {hf : Int × Int → Int} {af : Int → Int} {df : Int × Int → Int} {cs : Int} (h : WatF lo w P H A D hf af df cs) (hb : Below w.heap.size w w') : WatF lo w' P H A D hf af df cs := h.keep fun k hk _ => hb.block k hk
theorem WatF.ne {lo : Nat} {w : World} {P H A D : Nat} {hf : Int × Int → Int} {af : Int → Int} {df : Int × Int → Int} {cs : Int} (h : WatF lo w P H A D hf af df cs) : P ≠ H ∧ P ≠ A ∧ P ≠ D := by
  obtain ⟨ks1, h1⟩ := h.h
  obtain ⟨ks2, h2, h3, h4⟩ := h.a
  obtain ⟨ks3, h5⟩ := h.d
  have hb := h.blk
  refine ⟨fun e => ?_, fun e => ?_, fun e => ?_⟩
  · rw [e, h1.map] at hb; cases hb
  · rw [e, h2] at hb; cases hb
  · rw [e, h5.map] at hb; cases hb
/-- The map of holds is another one. -/
theorem WatF.setH {lo : Nat} {w w' : World} {P H A D : Nat} {hf hf' : Int × Int → Int} {af : Int → Int} {df : Int × Int → Int} {cs : Int} (h : WatF lo w P H A D hf af df cs) {ks : List (Int × Int)} (hg : GMap w' H ks hf') (hk : ∀ k, k ≠ H → w'.heap[k]? = w.heap[k]?) : WatF lo w' P H A D hf' af df cs := by
  obtain ⟨ks2, h2, h3, h4⟩ := h.a
  obtain ⟨ks3, h5⟩ := h.d
  exact ⟨(hk P h.ne.1).trans h.blk, ⟨ks, hg⟩, ⟨ks2, (hk A (Ne.symm h.ha)).trans h2, h3, h4⟩, ⟨ks3, h5.keep (hk D (Ne.symm h.hd))⟩, h.ha, h.hd, h.ad, h.lp, h.lh, h.la, h.ld⟩
theorem WatF.setD {lo : Nat} {w w' : World} {P H A D : Nat} {hf : Int × Int → Int} {af : Int → Int} {df df' : Int × Int → Int} {cs : Int} (h : WatF lo w P H A D hf af df cs) {ks : List (Int × Int)} (hg : GMap w' D ks df') (hk : ∀ k, k ≠ D → w'.heap[k]? = w.heap[k]?) : WatF lo w' P H A D hf af df' cs := by
  obtain ⟨ks1, h1⟩ := h.h
  obtain ⟨ks2, h2, h3, h4⟩ := h.a
  exact ⟨(hk P h.ne.2.2).trans h.blk, ⟨ks1, h1.keep (hk H h.hd)⟩, ⟨ks2, (hk A h.ad).trans h2, h3, h4⟩, ⟨ks, hg⟩, h.ha, h.hd, h.ad, h.lp, h.lh, h.la, h.ld⟩
theorem WatF.setA {lo : Nat} {w w' : World} {P H A D : Nat} {hf : Int × Int → Int} {af af' : Int → Int} {df : Int × Int → Int} {cs : Int} (h : WatF lo w P H A D hf af df cs) {ks : List Int} (hg : w'.heap[A]? = some (.map (msEnts ks (fun c => .int .i64 (af' c))) ks.length)) (hn : ks.Nodup) (hz : ∀ c, c ∉ ks → af' c = 0) (hk : ∀ k, k ≠ A → w'.heap[k]? = w.heap[k]?) : WatF lo w' P H A D hf af' df cs := by
  obtain ⟨ks1, h1⟩ := h.h
  obtain ⟨ks3, h5⟩ := h.d
  exact ⟨(hk P h.ne.2.1).trans h.blk, ⟨ks1, h1.keep (hk H h.ha)⟩, ⟨ks, hg, hn, hz⟩, ⟨ks3, h5.keep (hk D (Ne.symm h.ad))⟩, h.ha, h.hd, h.ad, h.lp, h.lh, h.la, h.ld⟩
theorem WatF.congr {lo : Nat} {w : World} {P H A D : Nat} {hf hf' : Int × Int → Int} {af af' : Int → Int} {df df' : Int × Int → Int} {cs cs' : Int} (h : WatF lo w P H A D hf af df cs) (e1 : hf = hf') (e2 : af = af') (e3 : df = df') (e4 : cs = cs') : WatF lo w P H A D hf' af' df' cs' := by
  subst e1 e2 e3 e4
  exact h
abbrev WatAt (lo : Nat) (w : World) (P H A D : Nat) (l : List Ev) (n : Nat) : Prop := WatF lo w P H A D (holdF l n) (accN l n) (heldF l n) (cellsN l n)

set_option maxRecDepth 100000 in
set_option maxHeartbeats 4000000 in
theorem newWatch_any (w : World) (l : List Ev) : Calls Try.prog 39 #[] w fun e w' => ∃ P H A D, e = .returned (.pointer (some ⟨P, 0, none⟩)) ∧ WatAt w.heap.size w' P H A D l 0 ∧ Below w.heap.size w w' := by
  have hmm := @run_makeMap Try.prog
  go_enter Try.func39, Try.ntmps39
  go_wp2_with fail
  go_ret
  obtain ⟨W, e, hb, h0, h1, h2, h3⟩ := four_new w (.map #[] 0) (.map #[] 0) (.map #[] 0) (.cells #[.map (some w.heap.size), .map (some (w.heap.size + 1)), .map (some (w.heap.size + 1 + 1)), .int .i64 0] 77 (0, 0))
  refine ⟨w.heap.size + 1 + 1 + 1, w.heap.size, w.heap.size + 1, w.heap.size + 1 + 1, rfl, ?_⟩
  show WatF _ ((((w.alloc (.map #[] 0)).alloc (.map #[] 0)).alloc (.map #[] 0)).alloc (.cells #[.map (some w.heap.size), .map (some (w.heap.size + 1)), .map (some (w.heap.size + 1 + 1)), .int .i64 0] 77 (0, 0))) _ _ _ _ _ _ _ _ ∧ Below _ _ ((((w.alloc (.map #[] 0)).alloc (.map #[] 0)).alloc (.map #[] 0)).alloc (.cells #[.map (some w.heap.size), .map (some (w.heap.size + 1)), .map (some (w.heap.size + 1 + 1)), .int .i64 0] 77 (0, 0)))
  rw [e]
  exact ⟨⟨h3, ⟨[], h0, List.nodup_nil, fun _ _ => rfl⟩, ⟨[], h1, List.nodup_nil, fun _ _ => rfl⟩, ⟨[], h2, List.nodup_nil, fun _ _ => rfl⟩, by omega, by omega, by omega, by omega, by omega, by omega, by omega⟩, hb⟩
end Go.Proofs.Ytbnmeeabpjmcoaa
