/-
  What a past is: a model, and how it lies in memory.
-/
import Derived.Test.YtbnmeeabpjmcoaaE
namespace Go.Proofs.Ytbnmeeabpjmcoaa
open Go.RowKit

/-- A send: the task, and its clock. -/
def KS : Kind (Int × (Nat → Int)) := ⟨fun s => .int .i64 s.1 :: ckL s.2, 65, 120, 107, 520, (0, ck0)⟩
/-- Clocks. -/
def KG : Kind (Nat → Int) := ⟨ckL, 64, 65, 62, 512, ck0⟩

theorem Try.infoKG : (Try.prog.info? 65).map (fun i => (i.zero.map (fun z => z.cells.size), i.size, i.bytes)) = some (some 64, 64, 512) := by kernel_rfl
theorem Try.infoKS : (Try.prog.info? 120).map (fun i => (i.zero.map (fun z => z.cells.size), i.size, i.bytes)) = some (some 65, 65, 520) := by kernel_rfl

theorem info_of {t : TypeId} {n m b : Nat} (h : (Try.prog.info? t).map (fun i => (i.zero.map (fun z => z.cells.size), i.size, i.bytes)) = some (some n, m, b)) : ∃ i z, Try.prog.info? t = some i ∧ i.zero = some z ∧ i.size = m ∧ i.bytes = b ∧ z.cells.size = n := by
  cases hq : Try.prog.info? t with
  | none => simp [hq] at h
  | some i =>
    simp only [hq, Option.map_some, Option.some.injEq, Prod.mk.injEq] at h
    obtain ⟨h1, h2, h3⟩ := h
    cases hz : i.zero with
    | none => simp [hz] at h1
    | some z =>
      simp only [hz, Option.map_some, Option.some.injEq] at h1
      exact ⟨i, z, rfl, hz, h2, h3, h1⟩

theorem kg : KG.Ok := by
  refine ⟨fun c => ckL_len c, fun c u hu => ckL_one c u hu, by decide, by decide, Try.underlying62, ?_⟩
  exact info_of Try.infoKG
theorem ks : KS.Ok := by
  refine ⟨fun c => by show (_ :: ckL c.2).length = 65; rw [List.length_cons, ckL_len], fun c u hu => ?_, by decide, by decide, Try.underlying107, info_of Try.infoKS⟩
  rcases List.mem_cons.1 hu with rfl | hu
  · rfl
  · exact ckL_one c.2 u hu

/-- A pipe's past. -/
structure PipeM where
  sends : List (Int × (Nat → Int))
  gets : List (Nat → Int)
  shut : Nat → Int
/-- A lock's. -/
structure LockM where
  writers : Nat → Int
  all : Nat → Int
/-- What has happened so far. -/
structure PastM where
  tasks : Int → Nat → Int
  pipes : Int → PipeM
  locks : Int → LockM
  groups : Int → Nat → Int
def pipe0 : PipeM := ⟨[], [], ck0⟩
def lock0 : LockM := ⟨ck0, ck0⟩
def past0 : PastM := ⟨fun _ => ck0, fun _ => pipe0, fun _ => lock0, fun _ => ck0⟩
def updI {α : Type} (f : Int → α) (k : Int) (v : α) : Int → α := fun j => if j = k then v else f j
theorem updI_same {α : Type} (f : Int → α) (k : Int) (v : α) : updI f k v k = v := by simp [updI]
theorem updI_ne {α : Type} (f : Int → α) (k j : Int) (v : α) (h : j ≠ k) : updI f k v j = f j := by simp [updI, h]

def ckB (c : Nat → Int) : Obj := .cells (ckL c).toArray 65 (0, 0)
def lkB (l : LockM) : Obj := .cells (ckL l.writers ++ ckL l.all).toArray 115 (0, 0)
def ppB (s g : Value) (c : Nat → Int) : Obj := .cells (s :: g :: ckL c).toArray 109 (0, 0)

/-- Where things lie: the past, its maps, their keys and blocks, whose each block is, the slices of the pipes. -/
structure Dat where
  P : Nat
  Bt : Nat
  Bp : Nat
  Bl : Nat
  Bg : Nat
  kt : List (Int × Nat)
  kp : List (Int × Nat)
  kl : List (Int × Nat)
  kg : List (Int × Nat)
  lab : Nat → Nat × Int
  sv : Int → Value
  gv : Int → Value

/-- A map B of things: each key's thing is there as R says; of other keys Z holds. -/
structure Tab (w : World) (lab : Nat → Nat × Int) (B m o : Nat) (ks : List (Int × Nat)) (R : Int → Nat → Prop) (Z : Int → Prop) : Prop where
  map : IsMap w B ks
  lb : lab B = (m, 0)
  ent : ∀ k b, (k, b) ∈ ks → lab b = (o, k) ∧ b < w.heap.size ∧ R k b
  uni : ∀ k b b', (k, b) ∈ ks → (k, b') ∈ ks → b = b'
  zero : ∀ k, (∀ b, (k, b) ∉ ks) → Z k

theorem Tab.frame {w w' : World} {lab lab' : Nat → Nat × Int} {B m o : Nat} {ks : List (Int × Nat)} {R R' : Int → Nat → Prop} {Z Z' : Int → Prop} (h : Tab w lab B m o ks R Z) (hs : w.heap.size ≤ w'.heap.size) (hm : w'.heap[B]? = w.heap[B]?) (hl : ∀ j, j < w.heap.size → lab' j = lab j)
    (hR : ∀ k b, (k, b) ∈ ks → lab b = (o, k) → b < w.heap.size → R k b → R' k b) (hZ : ∀ k, (∀ b, (k, b) ∉ ks) → Z k → Z' k) : Tab w' lab' B m o ks R' Z' :=
  ⟨hm.trans h.map, (hl B h.map.lt).trans h.lb, fun k b hb => ⟨(hl b (h.ent k b hb).2.1).trans (h.ent k b hb).1, Nat.lt_of_lt_of_le (h.ent k b hb).2.1 hs, hR k b hb (h.ent k b hb).1 (h.ent k b hb).2.1 (h.ent k b hb).2.2⟩, h.uni, fun k hk => hZ k hk (h.zero k hk)⟩

/-- A pipe in memory. -/
structure PipeAt (w : World) (lab : Nat → Nat × Int) (sv gv : Value) (k : Int) (b : Nat) (p : PipeM) : Prop where
  blk : w.heap[b]? = some (ppB sv gv p.shut)
  sends : Own KS 0 w sv p.sends
  ls : ∀ j, sv.ownBlock = some j → lab j = (10, k)
  gets : Own KG 0 w gv p.gets
  lg : ∀ j, gv.ownBlock = some j → lab j = (11, k)

theorem PipeAt.frame {w w' : World} {lab lab' : Nat → Nat × Int} {sv gv : Value} {k : Int} {b : Nat} {p : PipeM} (h : PipeAt w lab sv gv k b p) (hb : w'.heap[b]? = w.heap[b]?) (hl : ∀ j, j < w.heap.size → lab' j = lab j)
    (hk : ∀ j, j < w.heap.size → lab j = (10, k) ∨ lab j = (11, k) → w'.heap[j]? = w.heap[j]?) : PipeAt w' lab' sv gv k b p :=
  ⟨hb.trans h.blk, h.sends.keep fun j hj => hk j (h.sends.lt j hj).2 (Or.inl (h.ls j hj)), fun j hj => (hl j (h.sends.lt j hj).2).trans (h.ls j hj), h.gets.keep fun j hj => hk j (h.gets.lt j hj).2 (Or.inr (h.lg j hj)), fun j hj => (hl j (h.gets.lt j hj).2).trans (h.lg j hj)⟩

/-- A past in memory. -/
structure PastAt (hv : Value) (w : World) (d : Dat) (M : PastM) : Prop where
  blk : w.heap[d.P]? = some (.cells #[hv, .map (some d.Bt), .map (some d.Bp), .map (some d.Bl), .map (some d.Bg)] 99 (0, 0))
  lb : d.lab d.P = (1, 0)
  t : Tab w d.lab d.Bt 2 6 d.kt (fun k b => w.heap[b]? = some (ckB (M.tasks k))) (fun k => M.tasks k = ck0)
  p : Tab w d.lab d.Bp 3 9 d.kp (fun k b => PipeAt w d.lab (d.sv k) (d.gv k) k b (M.pipes k)) (fun k => M.pipes k = pipe0)
  l : Tab w d.lab d.Bl 4 8 d.kl (fun k b => w.heap[b]? = some (lkB (M.locks k))) (fun k => M.locks k = lock0)
  g : Tab w d.lab d.Bg 5 7 d.kg (fun k b => w.heap[b]? = some (ckB (M.groups k))) (fun k => M.groups k = ck0)
  hi : ∀ j, w.heap.size ≤ j → d.lab j = (0, 0)

/-- What is done to a past leaves all that is not its own. -/
structure Stp (d d' : Dat) (w w' : World) : Prop where
  os : w'.os = w.os
  tape : w'.tape = w.tape
  output : w'.output = w.output
  size : w.heap.size ≤ w'.heap.size
  lab : ∀ j, j < w.heap.size → d'.lab j = d.lab j
  keep : ∀ j, j < w.heap.size → d.lab j = (0, 0) → w'.heap[j]? = w.heap[j]?
  P : d'.P = d.P
  Bt : d'.Bt = d.Bt
  Bp : d'.Bp = d.Bp
  Bl : d'.Bl = d.Bl
  Bg : d'.Bg = d.Bg
  kt : ∀ x, x ∈ d.kt → x ∈ d'.kt
theorem Stp.refl (d : Dat) (w : World) : Stp d d w w := ⟨rfl, rfl, rfl, Nat.le_refl _, fun _ _ => rfl, fun _ _ _ => rfl, rfl, rfl, rfl, rfl, rfl, fun _ h => h⟩
theorem Stp.trans {d d1 d2 : Dat} {w w1 w2 : World} (h : Stp d d1 w w1) (k : Stp d1 d2 w1 w2) : Stp d d2 w w2 :=
  ⟨k.os.trans h.os, k.tape.trans h.tape, k.output.trans h.output, Nat.le_trans h.size k.size, fun j hj => (k.lab j (Nat.lt_of_lt_of_le hj h.size)).trans (h.lab j hj),
   fun j hj hl => (k.keep j (Nat.lt_of_lt_of_le hj h.size) ((h.lab j hj).trans hl)).trans (h.keep j hj hl), k.P.trans h.P, k.Bt.trans h.Bt, k.Bp.trans h.Bp, k.Bl.trans h.Bl, k.Bg.trans h.Bg, fun x hx => k.kt x (h.kt x hx)⟩
theorem Stp.of_below {d : Dat} {w w' : World} (h : Below w.heap.size w w') : Stp d d w w' := ⟨h.os, h.tape, h.output, h.size, fun _ _ => rfl, fun j hj _ => h.block j hj, rfl, rfl, rfl, rfl, rfl, fun _ h => h⟩
theorem Stp.call {d d1 : Dat} {w w1 w2 : World} (h : Stp d d1 w w1) (k : Below w1.heap.size w1 w2) : Stp d d1 w w2 := h.trans (Stp.of_below k)
theorem Stp.below {d d' : Dat} {w w' : World} (h : Stp d d' w w') {B : Nat} (hB : B ≤ w.heap.size) (hl : ∀ j, j < B → d.lab j = (0, 0)) : Below B w w' := ⟨h.os, h.tape, h.output, h.size, fun j hj => h.keep j (Nat.lt_of_lt_of_le hj hB) (hl j hj)⟩
theorem Stp.at {d d' : Dat} {w w' : World} (h : Stp d d' w w') {j : Nat} {x : Obj} (hx : w.heap[j]? = some x) (hl : d.lab j = (0, 0)) : w'.heap[j]? = some x := (h.keep j (size_of hx) hl).trans hx

theorem PastAt.frame {hv : Value} {w w' : World} {d : Dat} {M : PastM} (h : PastAt hv w d M) (hs : w.heap.size ≤ w'.heap.size) (hk : ∀ j, j < w.heap.size → d.lab j ≠ (0, 0) → w'.heap[j]? = w.heap[j]?) : PastAt hv w' d M where
  blk := (hk _ (size_of h.blk) (by rw [h.lb]; simp)).trans h.blk
  lb := h.lb
  t := h.t.frame hs (hk _ h.t.map.lt (by rw [h.t.lb]; simp)) (fun _ _ => rfl) (fun k b _ hl hb hR => (hk b hb (by rw [hl]; simp)).trans hR) (fun _ _ h => h)
  p := h.p.frame hs (hk _ h.p.map.lt (by rw [h.p.lb]; simp)) (fun _ _ => rfl) (fun k b _ hl hb hR => hR.frame (hk b hb (by rw [hl]; simp)) (fun _ _ => rfl) (fun j hj hl => hk j hj (by rcases hl with hl | hl <;> rw [hl] <;> simp))) (fun _ _ h => h)
  l := h.l.frame hs (hk _ h.l.map.lt (by rw [h.l.lb]; simp)) (fun _ _ => rfl) (fun k b _ hl hb hR => (hk b hb (by rw [hl]; simp)).trans hR) (fun _ _ h => h)
  g := h.g.frame hs (hk _ h.g.map.lt (by rw [h.g.lb]; simp)) (fun _ _ => rfl) (fun k b _ hl hb hR => (hk b hb (by rw [hl]; simp)).trans hR) (fun _ _ h => h)
  hi := fun j hj => h.hi j (Nat.le_trans hs hj)
theorem PastAt.below {hv : Value} {w w' : World} {d : Dat} {M : PastM} (h : PastAt hv w d M) (hb : Below w.heap.size w w') : PastAt hv w' d M := h.frame hb.size fun j hj _ => hb.block j hj

/-- All of the blocks but those with a mark of S are as they were. -/
structure Ch (S : Nat × Int → Prop) (d : Dat) (w w' : World) : Prop where
  os : w'.os = w.os
  tape : w'.tape = w.tape
  output : w'.output = w.output
  size : w.heap.size ≤ w'.heap.size
  keep : ∀ j, j < w.heap.size → ¬ S (d.lab j) → w'.heap[j]? = w.heap[j]?
theorem Ch.stp {S : Nat × Int → Prop} {d : Dat} {w w' : World} (h : Ch S d w w') (hS : ¬ S (0, 0)) : Stp d d w w' := ⟨h.os, h.tape, h.output, h.size, fun _ _ => rfl, fun j hj hl => h.keep j hj (by rw [hl]; exact hS), rfl, rfl, rfl, rfl, rfl, fun _ h => h⟩
theorem Ch.of_but {d : Dat} {w w' : World} {b : Nat} {x : Nat × Int} (h : But b w w') (hb : d.lab b = x) : Ch (fun y => y = x) d w w' := ⟨h.os, h.tape, h.output, h.size, fun j hj hn => h.block j hj (fun e => hn (by rw [e]; exact hb))⟩

theorem PastAt.setT {hv : Value} {w w' : World} {d : Dat} {M : PastM} (h : PastAt hv w d M) {k : Int} {b : Nat} (hb : (k, b) ∈ d.kt) (c : Nat → Int) (hw : w'.heap[b]? = some (ckB c)) (hc : Ch (fun y => y = (6, k)) d w w') : PastAt hv w' d { M with tasks := updI M.tasks k c } where
  blk := (hc.keep _ (size_of h.blk) (by rw [h.lb]; simp)).trans h.blk
  lb := h.lb
  t := h.t.frame hc.size (hc.keep _ h.t.map.lt (by rw [h.t.lb]; simp)) (fun _ _ => rfl) (fun k' b' hm hl hs hR => by
    by_cases e : k' = k
    · subst e
      obtain rfl := h.t.uni _ _ _ hb hm
      show w'.heap[b]? = some (ckB (updI M.tasks k' c k'))
      rw [updI_same]
      exact hw
    · show w'.heap[b']? = some (ckB (updI M.tasks k c k'))
      rw [updI_ne _ _ _ _ e, hc.keep b' hs (by rw [hl]; simpa using e)]
      exact hR) (fun k' hn hz => by
    show updI M.tasks k c k' = _
    rw [updI_ne _ _ _ _ (fun e => hn b (by rw [e]; exact hb))]
    exact hz)
  p := h.p.frame hc.size (hc.keep _ h.p.map.lt (by rw [h.p.lb]; simp)) (fun _ _ => rfl) (fun k' b' hm hl hs hR => hR.frame (hc.keep b' hs (by rw [hl]; simp)) (fun _ _ => rfl) (fun j hj hl => hc.keep j hj (by rcases hl with hl | hl <;> rw [hl] <;> simp))) (fun _ _ h => h)
  l := h.l.frame hc.size (hc.keep _ h.l.map.lt (by rw [h.l.lb]; simp)) (fun _ _ => rfl) (fun k' b' hm hl hs hR => (hc.keep b' hs (by rw [hl]; simp)).trans hR) (fun _ _ h => h)
  g := h.g.frame hc.size (hc.keep _ h.g.map.lt (by rw [h.g.lb]; simp)) (fun _ _ => rfl) (fun k' b' hm hl hs hR => (hc.keep b' hs (by rw [hl]; simp)).trans hR) (fun _ _ h => h)
  hi := fun j hj => h.hi j (Nat.le_trans hc.size hj)

theorem PastAt.setG {hv : Value} {w w' : World} {d : Dat} {M : PastM} (h : PastAt hv w d M) {k : Int} {b : Nat} (hb : (k, b) ∈ d.kg) (c : Nat → Int) (hw : w'.heap[b]? = some (ckB c)) (hc : Ch (fun y => y = (7, k)) d w w') : PastAt hv w' d { M with groups := updI M.groups k c } where
  blk := (hc.keep _ (size_of h.blk) (by rw [h.lb]; simp)).trans h.blk
  lb := h.lb
  t := h.t.frame hc.size (hc.keep _ h.t.map.lt (by rw [h.t.lb]; simp)) (fun _ _ => rfl) (fun k' b' hm hl hs hR => (hc.keep b' hs (by rw [hl]; simp)).trans hR) (fun _ _ h => h)
  p := h.p.frame hc.size (hc.keep _ h.p.map.lt (by rw [h.p.lb]; simp)) (fun _ _ => rfl) (fun k' b' hm hl hs hR => hR.frame (hc.keep b' hs (by rw [hl]; simp)) (fun _ _ => rfl) (fun j hj hl => hc.keep j hj (by rcases hl with hl | hl <;> rw [hl] <;> simp))) (fun _ _ h => h)
  l := h.l.frame hc.size (hc.keep _ h.l.map.lt (by rw [h.l.lb]; simp)) (fun _ _ => rfl) (fun k' b' hm hl hs hR => (hc.keep b' hs (by rw [hl]; simp)).trans hR) (fun _ _ h => h)
  g := h.g.frame hc.size (hc.keep _ h.g.map.lt (by rw [h.g.lb]; simp)) (fun _ _ => rfl) (fun k' b' hm hl hs hR => by
    by_cases e : k' = k
    · subst e
      obtain rfl := h.g.uni _ _ _ hb hm
      show w'.heap[b]? = some (ckB (updI M.groups k' c k'))
      rw [updI_same]
      exact hw
    · show w'.heap[b']? = some (ckB (updI M.groups k c k'))
      rw [updI_ne _ _ _ _ e, hc.keep b' hs (by rw [hl]; simpa using e)]
      exact hR) (fun k' hn hz => by
    show updI M.groups k c k' = _
    rw [updI_ne _ _ _ _ (fun e => hn b (by rw [e]; exact hb))]
    exact hz)
  hi := fun j hj => h.hi j (Nat.le_trans hc.size hj)

theorem PastAt.setL {hv : Value} {w w' : World} {d : Dat} {M : PastM} (h : PastAt hv w d M) {k : Int} {b : Nat} (hb : (k, b) ∈ d.kl) (c : LockM) (hw : w'.heap[b]? = some (lkB c)) (hc : Ch (fun y => y = (8, k)) d w w') : PastAt hv w' d { M with locks := updI M.locks k c } where
  blk := (hc.keep _ (size_of h.blk) (by rw [h.lb]; simp)).trans h.blk
  lb := h.lb
  t := h.t.frame hc.size (hc.keep _ h.t.map.lt (by rw [h.t.lb]; simp)) (fun _ _ => rfl) (fun k' b' hm hl hs hR => (hc.keep b' hs (by rw [hl]; simp)).trans hR) (fun _ _ h => h)
  p := h.p.frame hc.size (hc.keep _ h.p.map.lt (by rw [h.p.lb]; simp)) (fun _ _ => rfl) (fun k' b' hm hl hs hR => hR.frame (hc.keep b' hs (by rw [hl]; simp)) (fun _ _ => rfl) (fun j hj hl => hc.keep j hj (by rcases hl with hl | hl <;> rw [hl] <;> simp))) (fun _ _ h => h)
  l := h.l.frame hc.size (hc.keep _ h.l.map.lt (by rw [h.l.lb]; simp)) (fun _ _ => rfl) (fun k' b' hm hl hs hR => by
    by_cases e : k' = k
    · subst e
      obtain rfl := h.l.uni _ _ _ hb hm
      show w'.heap[b]? = some (lkB (updI M.locks k' c k'))
      rw [updI_same]
      exact hw
    · show w'.heap[b']? = some (lkB (updI M.locks k c k'))
      rw [updI_ne _ _ _ _ e, hc.keep b' hs (by rw [hl]; simpa using e)]
      exact hR) (fun k' hn hz => by
    show updI M.locks k c k' = _
    rw [updI_ne _ _ _ _ (fun e => hn b (by rw [e]; exact hb))]
    exact hz)
  g := h.g.frame hc.size (hc.keep _ h.g.map.lt (by rw [h.g.lb]; simp)) (fun _ _ => rfl) (fun k' b' hm hl hs hR => (hc.keep b' hs (by rw [hl]; simp)).trans hR) (fun _ _ h => h)
  hi := fun j hj => h.hi j (Nat.le_trans hc.size hj)

end Go.Proofs.Ytbnmeeabpjmcoaa
