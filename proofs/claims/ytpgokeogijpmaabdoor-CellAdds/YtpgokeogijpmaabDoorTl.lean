/-
  What is known of the new spot while cell.onward makes it: lemmas on worlds alone.
-/
import Derived.Test.YtpgokeogijpmaabDoorS
import Derived.Deep.DeepCutAuto
namespace Go.Proofs.YtpgokeogijpmaabDoor
open Go.RowKit

/-- A spot that tasks can have come to, over a memory of so many cells. -/
def SpotOk (m : Nat) (tss : List (List Op4)) (s : Spot) : Prop := s.d.length = tss.length ∧ s.m.length = m ∧ ∀ k, k < tss.length → 0 ≤ s.d.getD k 0 ∧ s.d.getD k 0 ≤ ((tss.getD k []).length : Int)

theorem fresh_at {W : World} {v : Value} (zs : List Int) (n : Nat) (hn : zs.length = n) (h : IsInts W v zs) (h0 : 0 < n) (h32 : n ≤ 5000) :
    Calls Tryd.prog 12 #[v] W fun e w' => ∃ g cap, e = .returned (.slice (some ⟨g, 0, none⟩) n cap) ∧ MemAt w' (.slice (some ⟨g, 0, none⟩) n cap) g zs ∧ W.heap.size ≤ g ∧ Below W.heap.size W w' := by
  subst hn
  refine (fresh_any W v zs.length _ h (ints_one zs) (by omega)).mono ?_
  rintro e w' ⟨v', rfl, hown, hb⟩
  obtain ⟨g, hg, _, hm⟩ := MemAt.of_owns hown h0
  obtain ⟨cap, rfl⟩ : ∃ cap, v' = .slice (some ⟨g, 0, none⟩) zs.length cap := by obtain ⟨cap, _, h, _⟩ := hm; exact ⟨cap, h⟩
  exact ⟨g, cap, rfl, hm, hg, hb⟩

theorem bcell {W w1 : World} (hb : Below W.heap.size W w1) : (∀ b o, b < W.heap.size → w1.cell? ⟨b, o, none⟩ = W.cell? ⟨b, o, none⟩) ∧ (∀ b o, b < W.heap.size → w1.frozen? ⟨b, o, none⟩ = W.frozen? ⟨b, o, none⟩) ∧ W.heap.size < w1.heap.size + 1 :=
  ⟨fun b o h => hb.cell (p := ⟨b, o, none⟩) h, fun b o h => hb.frozen (p := ⟨b, o, none⟩) h, Nat.lt_succ_of_le hb.size⟩

/-- What is known when the two lists have been copied and the new spot is laid: where it lies is one of three places. -/
def Laid (wr : World) (sd sm : List Int) (nd nm : Nat) (v13 : Value) (wA : World) : Prop :=
  ∃ gn gd gm capd capm, v13 = .pointer (some ⟨gn, 0, none⟩) ∧ Below wr.heap.size wr wA ∧ wA.heap[gn]? = some (.cells #[.slice (some ⟨gd, 0, none⟩) nd capd, .slice (some ⟨gm, 0, none⟩) nm capm] 45 (0, 0)) ∧
    MemAt wA (.slice (some ⟨gd, 0, none⟩) nd capd) gd sd ∧ MemAt wA (.slice (some ⟨gm, 0, none⟩) nm capm) gm sm ∧ wr.heap.size ≤ gn ∧ wr.heap.size ≤ gd ∧ wr.heap.size ≤ gm ∧ gd ≠ gm ∧ gn ≠ gd ∧ gn ≠ gm

theorem heap_set2 {w : World} {g : Nat} {x y x' y' : Value} {e : TypeId} (h : w.heap[g]? = some (.cells #[x, y] e (0, 0))) : ((w.setCell ⟨g, 0, none⟩ x').setCell ⟨g, 1, none⟩ y').heap[g]? = some (.cells #[x', y'] e (0, 0)) := by
  simp [World.setCell, Array.getElem?_modify, h]
theorem heap_set2_far {w : World} {g k : Nat} {x' y' : Value} (h : k ≠ g) : ((w.setCell ⟨g, 0, none⟩ x').setCell ⟨g, 1, none⟩ y').heap[k]? = w.heap[k]? := by
  rw [Below.heap_setCell _ _ _ _ (by simpa using h), Below.heap_setCell _ _ _ _ (by simpa using h)]

theorem laid_set {wr w3 : World} {sd sm : List Int} {nd nm gn gd gm capd capm : Nat} {x y : Value} (hB : Below wr.heap.size wr w3) (hn : w3.heap[gn]? = some (.cells #[x, y] 45 (0, 0))) (hd : MemAt w3 (.slice (some ⟨gd, 0, none⟩) nd capd) gd sd) (hm : MemAt w3 (.slice (some ⟨gm, 0, none⟩) nm capm) gm sm)
    (h1 : wr.heap.size ≤ gn) (h2 : wr.heap.size ≤ gd) (h3 : wr.heap.size ≤ gm) (n1 : gd ≠ gm) (n2 : gn ≠ gd) (n3 : gn ≠ gm) :
    Laid wr sd sm nd nm (.pointer (some ⟨gn, 0, none⟩)) ((w3.setCell ⟨gn, 0, none⟩ (.slice (some ⟨gd, 0, none⟩) nd capd)).setCell ⟨gn, 1, none⟩ (.slice (some ⟨gm, 0, none⟩) nm capm)) :=
  ⟨gn, gd, gm, capd, capm, rfl, (hB.setCell h1 _).setCell h1 _, heap_set2 hn, hd.keep (heap_set2_far (Ne.symm n2)), hm.keep (heap_set2_far (Ne.symm n3)), h1, h2, h3, n1, n2, n3⟩

theorem wayC {wr w2 w3 : World} {sd sm : List Int} {nd nm gd gm capd capm : Nat} (hgd : wr.drew.heap.size ≤ gd) (hmd : MemAt w2 (.slice (some ⟨gd, 0, none⟩) nd capd) gd sd) (hb3 : Below w2.heap.size w2 w3) (hgm : w2.heap.size ≤ gm) (hmm : MemAt w3 (.slice (some ⟨gm, 0, none⟩) nm capm) gm sm) (hB : Below wr.heap.size wr w3) :
    Laid wr sd sm nd nm (.pointer (some ⟨w3.heap.size, 0, none⟩)) (w3.alloc (.cells #[.slice (some ⟨gd, 0, none⟩) nd capd, .slice (some ⟨gm, 0, none⟩) nm capm] 45)) := by
  have hgd' : wr.heap.size ≤ gd := hgd
  have l2 := hmd.lt
  have l3 := hmm.lt
  have s3 := hb3.size
  have sB := hB.size
  exact ⟨w3.heap.size, gd, gm, capd, capm, rfl, hB.alloc hB.size _, (MapKept.heap_alloc w3 _).1, (hmd.keep (hb3.block gd l2)).keep (Below.heap_alloc _ _ _ (by omega)), hmm.keep (Below.heap_alloc _ _ _ l3), by omega, by omega, by omega, by omega, by omega, by omega⟩

theorem wayB {wr w2 w3 : World} {sd sm : List Int} {nd nm gd gm capd capm : Nat} {x y : Value} (hgd : wr.drew.heap.size ≤ gd) (hmd : MemAt w2 (.slice (some ⟨gd, 0, none⟩) nd capd) gd sd) (hb3 : Below (w2.alloc (.cells #[x, y] 45)).heap.size (w2.alloc (.cells #[x, y] 45)) w3) (hgm : (w2.alloc (.cells #[x, y] 45)).heap.size ≤ gm) (hmm : MemAt w3 (.slice (some ⟨gm, 0, none⟩) nm capm) gm sm) (hB : Below wr.heap.size wr w3) :
    Laid wr sd sm nd nm (.pointer (some ⟨w2.heap.size, 0, none⟩)) ((w3.setCell ⟨w2.heap.size, 0, none⟩ (.slice (some ⟨gd, 0, none⟩) nd capd)).setCell ⟨w2.heap.size, 1, none⟩ (.slice (some ⟨gm, 0, none⟩) nm capm)) := by
  have hgd' : wr.heap.size ≤ gd := hgd
  have l2 := hmd.lt
  rw [World.size_alloc] at hgm
  have hsz : (w2.alloc (.cells #[x, y] 45)).heap.size = w2.heap.size + 1 := by simp
  refine laid_set (x := x) (y := y) hB ?_ (hmd.keep ((hb3.block gd (by omega)).trans (Below.heap_alloc _ _ _ l2))) hmm (by omega) (by omega) (by omega) (by omega) (by omega) (by omega)
  rw [hb3.block _ (by omega)]
  exact (MapKept.heap_alloc w2 _).1

theorem wayA {wr w2 w3 : World} {sd sm : List Int} {nd nm gd gm capd capm : Nat} {x y : Value} (hb2 : Below (wr.alloc (.cells #[x, y] 45)).drew.heap.size (wr.alloc (.cells #[x, y] 45)).drew w2) (hgd : (wr.alloc (.cells #[x, y] 45)).drew.heap.size ≤ gd) (hmd : MemAt w2 (.slice (some ⟨gd, 0, none⟩) nd capd) gd sd) (hb3 : Below w2.heap.size w2 w3) (hgm : w2.heap.size ≤ gm) (hmm : MemAt w3 (.slice (some ⟨gm, 0, none⟩) nm capm) gm sm) (hB : Below wr.heap.size wr w3) :
    Laid wr sd sm nd nm (.pointer (some ⟨wr.heap.size, 0, none⟩)) ((w3.setCell ⟨wr.heap.size, 0, none⟩ (.slice (some ⟨gd, 0, none⟩) nd capd)).setCell ⟨wr.heap.size, 1, none⟩ (.slice (some ⟨gm, 0, none⟩) nm capm)) := by
  have hsz : (wr.alloc (.cells #[x, y] 45)).drew.heap.size = wr.heap.size + 1 := by simp
  rw [hsz] at hgd
  have l2 := hmd.lt
  have s2 := hb2.size
  refine laid_set (x := x) (y := y) hB ?_ (hmd.keep (hb3.block gd l2)) hmm (Nat.le_refl _) (by omega) (by omega) (by omega) (by omega) (by omega)
  rw [hb3.block _ (by omega), hb2.block _ (by omega)]
  exact (MapKept.heap_alloc wr _).1

theorem S_of {n Sb : Nat} {wr w2 : World} {x y : Value} (h : Below n wr w2) (hSb : Sb < n) (e0 : wr.cell? ⟨Sb, 0, none⟩ = some x) (e1 : wr.cell? ⟨Sb, 1, none⟩ = some y) :
    w2.cell? ⟨Sb, 0, none⟩ = some x ∧ w2.cell? ⟨Sb, 1, none⟩ = some y ∧ Below n wr w2 :=
  ⟨(h.cell (p := ⟨Sb, 0, none⟩) hSb).trans e0, (h.cell (p := ⟨Sb, 1, none⟩) hSb).trans e1, h⟩

theorem spot_boxed {fmt : Int → List Int} {w wr w1 : World} {t x y : Value} {next : List Spot} (h : NextInv fmt w wr t next) (h1 : wr.alloc (.cells #[x, y] 45) = w1) :
    NextInv fmt w w1 t next ∧ w1.cell? ⟨wr.heap.size, 0, none⟩ = some x ∧ w1.cell? ⟨wr.heap.size, 1, none⟩ = some y ∧ t.ownBlock ≠ some wr.heap.size := by
  subst h1
  refine ⟨h.keep ((Below.refl _ _).alloc (Nat.le_refl _) _), by simp, by simp, fun e => ?_⟩
  obtain ⟨_, _, _, VD, VM, h4, _⟩ := h
  have := (h4.lt _ e).2
  omega


/-- The new spot lies at gn, its lists at the heads of gd and gm; all three are new. -/
def LaidAt (wr wA : World) (gn gd gm nd nm capd capm : Nat) (sd sm : List Int) : Prop :=
  Below wr.heap.size wr wA ∧ wA.heap[gn]? = some (.cells #[.slice (some ⟨gd, 0, none⟩) nd capd, .slice (some ⟨gm, 0, none⟩) nm capm] 45 (0, 0)) ∧
    MemAt wA (.slice (some ⟨gd, 0, none⟩) nd capd) gd sd ∧ MemAt wA (.slice (some ⟨gm, 0, none⟩) nm capm) gm sm ∧ wr.heap.size ≤ gn ∧ wr.heap.size ≤ gd ∧ wr.heap.size ≤ gm ∧ gd ≠ gm ∧ gn ≠ gd ∧ gn ≠ gm

theorem heap_lt {w : World} {g : Nat} {o : Obj} (h : w.heap[g]? = some o) : g < w.heap.size := (Array.getElem?_eq_some_iff.1 h).1

theorem LaidAt.cells {wr wA : World} {gn gd gm nd nm capd capm : Nat} {sd sm : List Int} (h : LaidAt wr wA gn gd gm nd nm capd capm sd sm) :
    wA.cell? ⟨gn, 0, none⟩ = some (.slice (some ⟨gd, 0, none⟩) nd capd) ∧ wA.cell? ⟨gn, 1, none⟩ = some (.slice (some ⟨gm, 0, none⟩) nm capm) := by
  obtain ⟨_, h2, _⟩ := h
  simp [World.cell?, h2]

theorem LaidAt.keep {wr w6 w7 : World} {gn gd gm nd nm capd capm : Nat} {sd sm : List Int} (h : LaidAt wr w6 gn gd gm nd nm capd capm sd sm) (hb : Below w6.heap.size w6 w7) : LaidAt wr w7 gn gd gm nd nm capd capm sd sm := by
  obtain ⟨h1, h2, h3, h4, r⟩ := h
  exact ⟨h1.trans (hb.mono h1.size), (hb.block gn (heap_lt h2)).trans h2, h3.keep (hb.block gd h3.lt), h4.keep (hb.block gm h4.lt), r⟩

theorem LaidAt.inc {wr w5 : World} {gn gd gm nd nm capd capm k : Nat} {sd sm : List Int} (h : LaidAt wr w5 gn gd gm nd nm capd capm sd sm) (hk : k < sd.length) (y : Int) : LaidAt wr (w5.setCell ⟨gd, 0 + k, none⟩ (.int .i64 y)) gn gd gm nd nm capd capm (sd.set k y) sm := by
  obtain ⟨h1, h2, h3, h4, r1, r2, r3, n1, n2, n3⟩ := h
  exact ⟨h1.setCell r2 _, (Below.heap_setCell _ _ _ _ n2).trans h2, h3.set hk y, h4.keep (Below.heap_setCell _ _ _ _ (Ne.symm n1)), r1, r2, r3, n1, n2, n3⟩

theorem LaidAt.done {wr wc w5 : World} {gn gd gm nd nm capd capm q : Nat} {sd sm : List Int} {x : Int} (h : LaidAt wr wc gn gd gm nd nm capd capm sd sm) (hq : q < sm.length) (hdo : Below wc.drew.heap.size (wc.drew.setCell ⟨gm, 0 + q, none⟩ (.int .i64 x)) w5) : LaidAt wr w5 gn gd gm nd nm capd capm sd (sm.set q x) := by
  obtain ⟨h1, h2, h3, h4, r1, r2, r3, n1, n2, n3⟩ := h
  have hs : wc.drew.heap.size = wc.heap.size := rfl
  have h4' : MemAt wc.drew (.slice (some ⟨gm, 0, none⟩) nm capm) gm sm := h4
  refine ⟨?_, ?_, ?_, (h4'.set hq x).keep (hdo.block gm h4.lt), r1, r2, r3, n1, n2, n3⟩
  · have e : Below wr.heap.size wr (wc.drew.setCell ⟨gm, 0 + q, none⟩ (.int .i64 x)) := (h1.drew).setCell r3 _
    exact e.trans (hdo.mono (by rw [hs]; exact h1.size))
  · rw [hdo.block gn (heap_lt h2), Below.heap_setCell _ _ _ _ n3]; exact h2
  · refine h3.keep ?_
    rw [hdo.block gd h3.lt, Below.heap_setCell _ _ _ _ n1]
    rfl

theorem S5 {w wr w5 : World} {gn gd gm nd nm capd capm k ob o : Nat} {sd sm : List Int} {q y0 y1 y2 y3 : Int} (hL : LaidAt wr w5 gn gd gm nd nm capd capm sd sm) (hB : Below w.heap.size w wr) (hob : ob < w.heap.size) (hk : k < sd.length) (hq : sd.getD k 0 = q)
    (x0 : w.cell? ⟨ob, o, none⟩ = some (.int .i64 y0)) (x1 : w.cell? ⟨ob, o + 1, none⟩ = some (.int .i64 y1)) (x2 : w.cell? ⟨ob, o + 2, none⟩ = some (.int .i64 y2)) (x3 : w.cell? ⟨ob, o + 3, none⟩ = some (.int .i64 y3)) :
    w5.cell? ⟨gn, 0, none⟩ = some (.slice (some ⟨gd, 0, none⟩) nd capd) ∧ w5.cell? ⟨gn, 1, none⟩ = some (.slice (some ⟨gm, 0, none⟩) nm capm) ∧ w5.cell? ⟨gd, k, none⟩ = some (.int .i64 q) ∧ w5.cell? ⟨ob, o, none⟩ = some (.int .i64 y0) ∧ w5.cell? ⟨ob, o + 1, none⟩ = some (.int .i64 y1) ∧ w5.cell? ⟨ob, o + 2, none⟩ = some (.int .i64 y2) ∧ w5.cell? ⟨ob, o + 3, none⟩ = some (.int .i64 y3) := by
  have hB5 : Below w.heap.size w w5 := hB.trans (hL.1.mono hB.size)
  have hd := (hL.2.2.1.cell hk).1
  rw [hq, Nat.zero_add] at hd
  exact ⟨hL.cells.1, hL.cells.2, hd, (hB5.cell (p := ⟨ob, o, none⟩) hob).trans x0, (hB5.cell (p := ⟨ob, o + 1, none⟩) hob).trans x1, (hB5.cell (p := ⟨ob, o + 2, none⟩) hob).trans x2, (hB5.cell (p := ⟨ob, o + 3, none⟩) hob).trans x3⟩

theorem LaidAt.frozen {wr w5 : World} {gn gd gm nd nm capd capm k : Nat} {sd sm : List Int} (hL : LaidAt wr w5 gn gd gm nd nm capd capm sd sm) (hk : k < sd.length) : w5.frozen? ⟨gd, k, none⟩ = false := by
  have := (hL.2.2.1.cell hk).2
  rwa [Nat.zero_add] at this

/-- cell.do on the new spot's memory. -/
theorem do_spot {w wr wc : World} {Bm gn gd gm nd nm capd capm k ob o p : Nat} {sd sm : List Int} {q : Int} {o4 : Op4} (hBm : w.heap[Bm]? = some (.map ents 5)) (hL : LaidAt wr wc gn gd gm nd nm capd capm sd sm) (hB : Below w.heap.size w wr) (hob : ob < w.heap.size) (hk : k < sd.length) (hq : sd.getD k 0 = q) (hm : sm.length = nm)
    (hk5 : 1 ≤ o4.k ∧ o4.k ≤ 5) (hp : o4.p = (p : Int)) (hpm : p < nm)
    (x0 : w.cell? ⟨ob, o, none⟩ = some (.int .i64 o4.k)) (x1 : w.cell? ⟨ob, o + 1, none⟩ = some (.int .i64 o4.p)) (x2 : w.cell? ⟨ob, o + 2, none⟩ = some (.int .i64 o4.a)) (x3 : w.cell? ⟨ob, o + 3, none⟩ = some (.int .i64 o4.b)) :
    Calls Tryd.prog 13 #[.map (some Bm), .slice (some ⟨gm, 0, none⟩) nm capm, .agg #[.int .i64 o4.k, .int .i64 p, .int .i64 o4.a, .int .i64 o4.b]] wc.drew
      fun e w5 => e = .returned (.int .i64 (stepTold sm o4)) ∧ LaidAt wr w5 gn gd gm nd nm capd capm sd (stepMem sm o4) ∧
        (w5.cell? ⟨gn, 0, none⟩ = some (.slice (some ⟨gd, 0, none⟩) nd capd) ∧ w5.cell? ⟨gn, 1, none⟩ = some (.slice (some ⟨gm, 0, none⟩) nm capm) ∧ w5.cell? ⟨gd, k, none⟩ = some (.int .i64 q) ∧ w5.cell? ⟨ob, o, none⟩ = some (.int .i64 o4.k) ∧ w5.cell? ⟨ob, o + 1, none⟩ = some (.int .i64 p) ∧ w5.cell? ⟨ob, o + 2, none⟩ = some (.int .i64 o4.a) ∧ w5.cell? ⟨ob, o + 3, none⟩ = some (.int .i64 o4.b)) ∧
        w5.frozen? ⟨gd, k, none⟩ = false := by
  have hBwc : Below w.heap.size w wc := hB.trans (hL.1.mono hB.size)
  have hMc := hL.2.2.2.1.cell (q := p) (by omega)
  have hBm' : wc.drew.heap[Bm]? = some (.map ents 5) := (hBwc.block Bm (heap_lt hBm)).trans hBm
  refine (do_any wc.drew Bm hBm' gm 0 nm capm p (by omega) _ o4.k o4.a o4.b hk5 hMc.1 hMc.2).mono ?_
  rintro e w5 ⟨rfl, hdo⟩
  have e1 : o4.p.toNat = p := by rw [hp]; simp
  have hL5 := hL.done (q := p) (by omega) hdo
  rw [hp] at x1
  unfold stepTold stepMem
  rw [e1]
  exact ⟨rfl, hL5, S5 hL5 hB hob hk hq x0 x1 x2 x3, hL5.frozen hk⟩

theorem AppOk.on {w w6 : World} {fmt : Int → List Int} {z : Int} (h : AppOk w fmt z) (hb : Below w.heap.size w w6) : AppOk w6 fmt z :=
  ⟨h.1, fun W base v n xs hW => h.2 W base v n xs (hb.trans (hW.mono hb.size))⟩

/-- The key of the new spot. -/
theorem key_spot {w wr w5 : World} {fmt : Int → List Int} {gn gd gm nd nm capd capm k : Nat} {sd sm : List Int} {y : Int} (hL : LaidAt wr w5 gn gd gm nd nm capd capm sd sm) (hB : Below w.heap.size w wr) (hk : k < sd.length) (hd : sd.length = nd) (hm : sm.length = nm) (hd4 : nd ≤ 4) (hm32 : nm ≤ 32)
    (hfd : ∀ z ∈ sd.set k y, AppOk w fmt z) (hfm : ∀ z ∈ sm, AppOk w fmt z) :
    Calls Tryd.prog 25 #[.agg #[.slice (some ⟨gd, 0, none⟩) nd capd, .slice (some ⟨gm, 0, none⟩) nm capm]] (w5.setCell ⟨gd, k, none⟩ (.int .i64 y))
      fun e w7 => e = .returned (.string (skey fmt ⟨sd.set k y, sm⟩)) ∧ LaidAt wr w7 gn gd gm nd nm capd capm (sd.set k y) sm := by
  have h6 := hL.inc hk y
  rw [Nat.zero_add] at h6
  have hB6 : Below w.heap.size w (w5.setCell ⟨gd, k, none⟩ (.int .i64 y)) := hB.trans (h6.1.mono hB.size)
  have e1 : (sd.set k y).length = nd := by simpa using hd
  have hc := key_any (w5.setCell ⟨gd, k, none⟩ (.int .i64 y)) fmt gd 0 capd gm 0 capm (sd.set k y) sm h6.2.2.1.lt h6.2.2.2.1.lt (by omega) (by omega)
    (fun j hj => (h6.2.2.1.cell hj).1) (fun j hj => (h6.2.2.2.1.cell hj).1) (fun z hz => (hfd z hz).on hB6) (fun z hz => (hfm z hz).on hB6)
  rw [e1, hm] at hc
  refine hc.mono ?_
  rintro e w7 ⟨rfl, hb⟩
  exact ⟨rfl, h6.keep hb⟩

/-- The new spot, not seen yet: it is put among what was seen; and what becomes of all behind the append. -/
theorem put_step {fmt : Int → List Int} {w wr w7 : World} {t : Value} {next : List Spot} {gn gd gm nd nm capd capm : Nat} {sd sm : List Int} (hI : NextInv fmt w wr t next) (hL : LaidAt wr w7 gn gd gm nd nm capd capm sd sm) (hs : ¬ skey fmt ⟨sd, sm⟩ ∈ next.map (skey fmt)) :
    ∃ w8, (Instr.mapUpdate 54 (.map (some w.heap.size)) (.string (skey fmt ⟨sd, sm⟩)) (.agg #[])).run Tryd.prog (w7.alloc (.cells #[] 56)) = .ok () w8 ∧ w8.cell? ⟨gn, 0, none⟩ = some (.slice (some ⟨gd, 0, none⟩) nd capd) ∧ w8.cell? ⟨gn, 1, none⟩ = some (.slice (some ⟨gm, 0, none⟩) nm capm) ∧ w.heap.size + 1 ≤ w8.heap.size ∧
      ∃ VD VM, w8.ownsRow (w.heap.size + 1) 45 2 t next.length (spotCells VD VM next.length) ∧ ∀ o t' w9, w9.ownsRow (w.heap.size + 1) 45 2 t' (next.length + 1) (spotCells VD VM next.length ++ [.slice (some ⟨gd, 0, none⟩) nd capd, .slice (some ⟨gm, 0, none⟩) nm capm]) → (w8.alloc o).grownBy w9 t.ownBlock → (t'.ownBlock = t.ownBlock ∨ t'.ownBlock = some (w8.alloc o).heap.size) →
        NextInv fmt w w9 t' (next ++ [⟨sd, sm⟩]) ∧ ∀ b, b < wr.heap.size → b ≠ w.heap.size → t.ownBlock ≠ some b → w9.heap[b]? = wr.heap[b]? ∧ t'.ownBlock ≠ some b := by
  have hI7 : NextInv fmt w (w7.alloc (.cells #[] 56)) t next := hI.keep (hL.1.alloc hL.1.size _)
  have hL8 : LaidAt wr (w7.alloc (.cells #[] 56)) gn gd gm nd nm capd capm sd sm := hL.keep ((Below.refl _ _).alloc (Nat.le_refl _) _)
  have hs7 := hL.1.size
  obtain ⟨_, hwr1, _, _, _, h4r, _⟩ := hI
  obtain ⟨h1, h2, h3, VD, VM, h4, h5⟩ := hI7
  obtain ⟨b1, b2, b3, b4, r1, r2, r3, n1, n2, n3⟩ := hL8
  have htlt : ∀ b, wr.heap.size ≤ b → t.ownBlock ≠ some b := fun b hb e => by have := (h4r.lt _ e).2; omega
  have hsz : (w7.alloc (.cells #[] 56)).heap.size = w7.heap.size + 1 := by simp
  refine ⟨_, upd_seen _ w.heap.size _ h3 _ hs, ?_, ?_, by rw [size_putObj]; exact h2, VD, VM, owns_keep h4 fun k hk _ => heap_putObj k (by omega), ?_⟩
  · simp only [World.cell?, heap_putObj gn (by omega : gn ≠ w.heap.size), b2]
    rfl
  · simp only [World.cell?, heap_putObj gn (by omega : gn ≠ w.heap.size), b2]
    rfl
  · intro o t' w9 hnew hgr hloc
    rw [World.size_alloc, size_putObj] at hloc
    refine ⟨NextInv.add h1 h2 h4 h5 b3 b4 (by omega) (by omega) (htlt _ r2) (htlt _ r3) hnew hgr hloc, fun b hb hne ht => ⟨?_, fun e => ?_⟩⟩
    · rw [hgr.block b (by rw [World.size_alloc, size_putObj]; omega) (fun e => ht e.symm), Below.heap_alloc _ _ _ (by rw [size_putObj]; omega), heap_putObj b hne, b1.block b hb]
    · rcases hloc with h | h
      · rw [h] at e; exact ht e
      · rw [h] at e; injection e with e; omega

theorem Tryd.info45 : (Tryd.prog.info? 45).map (fun i => (i.zero, i.size, i.bytes)) = some (some (.agg #[.slice none 0 0, .slice none 0 0]), 2, 48) := by kernel_rfl
end Go.Proofs.YtpgokeogijpmaabDoor
