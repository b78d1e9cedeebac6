/-
  ref.Reached, ref.Not.
-/
import Derived.Test.YtmkehjncnaokoaaP
namespace Go.Proofs.Ytmkehjncnaokoaa
open Go.RowKit

/-- A block of Booleans. -/
structure BoolsAt (w : World) (B n : Nat) (f : Nat → Bool) : Prop where
  there : w.there B 0 n
  lt : B < w.heap.size
  cell : ∀ x, x < n → w.cell? ⟨B, x, none⟩ = some (.bool (f x))
theorem BoolsAt.below {w w' : World} {B n : Nat} {f : Nat → Bool} (h : BoolsAt w B n f) (hb : Below w.heap.size w w') : BoolsAt w' B n f := ⟨there_keep h.there (hb.block B h.lt), Nat.lt_of_lt_of_le h.lt hb.size, fun x hx => cell_of (h.cell x hx) (hb.block B h.lt)⟩
def updT (f : Nat → Bool) (x : Nat) : Nat → Bool := fun y => if y = x then true else f y
theorem updT_mono {f : Nat → Bool} {x y : Nat} (h : f y = true) : updT f x y = true := by unfold updT; split <;> simp [h]
theorem updT_same (f : Nat → Bool) (x : Nat) : updT f x x = true := by unfold updT; simp
theorem BoolsAt.put {w : World} {B n : Nat} {f : Nat → Bool} (h : BoolsAt w B n f) {x : Nat} (hx : x < n) : BoolsAt (w.setCell ⟨B, x, none⟩ (.bool true)) B n (updT f x) := by
  refine ⟨there_set h.there _, by rw [size_set]; exact h.lt, fun y hy => ?_⟩
  unfold updT
  by_cases e : y = x
  · subst e
    rw [if_pos rfl]
    have := cell_same h.there hy (.bool true)
    rwa [Nat.zero_add] at this
  · rw [if_neg e]
    exact cell_other (h.cell y hy) (Or.inr e) _
def cntN (n : Nat) (f : Nat → Bool) : Nat := ((List.range n).filter fun x => !f x).length
theorem cntN_upd {n x : Nat} {f : Nat → Bool} (hx : x < n) (h : f x = false) : cntN n (updT f x) + 1 = cntN n f := by
  have h1 := filter_upd (fun y => !f y) (k := x) (by simp [h]) n
  rw [if_pos hx] at h1
  have e : (fun y => !updT f x y) = fun y => if y = x then false else !f y := by
    funext y
    unfold updT
    split <;> rfl
  unfold cntN
  rw [e]
  exact h1
def cntB (B n : Nat) (w : World) : Nat := ((List.range n).filter fun x => match w.cell? ⟨B, x, none⟩ with | some (.bool b) => !b | _ => false).length
theorem BoolsAt.cnt {w : World} {B n : Nat} {f : Nat → Bool} (h : BoolsAt w B n f) : cntB B n w = cntN n f := by
  unfold cntB cntN
  congr 1
  apply List.filter_congr
  intro x hx
  rw [h.cell x (List.mem_range.1 hx)]
/-- What a flag counts in a measure. -/
def flagN (v : Value) : Nat := match v with | .bool true => 1 | _ => 0
def Snd (os : List (List Int)) (rs : List Int) (n : Nat) (f : Nat → Bool) : Prop := ∀ x, x < n → f x = true → Rc os rs x
def Rts (rs : List Int) (f : Nat → Bool) (k : Nat) : Prop := ∀ j, j < k → ∀ x : Nat, rs.getD j 0 = (x : Int) → f x = true
def Cls (os : List (List Int)) (f : Nat → Bool) (i : Nat) : Prop := ∀ j, j < i → f j = true → ∀ b : Nat, (b : Int) ∈ os.getD j [] → f b = true
def ClsK (row : List Int) (f : Nat → Bool) (k : Nat) : Prop := ∀ t, t < k → ∀ b : Nat, row.getD t 0 = (b : Int) → f b = true
theorem mem_getD {xs : List Int} {x : Int} (h : x ∈ xs) : ∃ t, t < xs.length ∧ xs.getD t 0 = x := by
  obtain ⟨t, ht, e⟩ := List.getElem_of_mem h
  exact ⟨t, ht, by rw [List.getD_eq_getElem?_getD, List.getElem?_eq_getElem ht]; simpa using e⟩
theorem getD_mem {xs : List Int} {t : Nat} (h : t < xs.length) : xs.getD t 0 ∈ xs := by
  rw [List.getD_eq_getElem?_getD, List.getElem?_eq_getElem h]
  exact List.getElem_mem h
theorem Snd.put {os : List (List Int)} {rs : List Int} {n x : Nat} {f : Nat → Bool} (h : Snd os rs n f) (hx : Rc os rs x) : Snd os rs n (updT f x) := fun y hy q => by
  unfold updT at q
  by_cases e : y = x
  · subst e; exact hx
  · rw [if_neg e] at q; exact h y hy q
theorem reached_end {os : List (List Int)} {rs : List Int} (hg : GoodH os rs) {f : Nat → Bool} (h1 : Snd os rs os.length f) (h2 : Rts rs f rs.length) (h3 : Cls os f os.length) {x : Nat} (hx : x < os.length) : f x = true ↔ Rc os rs x := by
  refine ⟨h1 x hx, fun q => ?_⟩
  have key : ∀ y, Rc os rs y → y < os.length ∧ f y = true := by
    intro y hy
    induction hy with
    | root q1 =>
      refine ⟨by have := (hg.ro _ q1).2; omega, ?_⟩
      obtain ⟨t, ht, e⟩ := mem_getD q1
      exact h2 t ht _ e
    | step q1 q2 ih => exact ⟨by have := (hg.so _ ih.1 _ q2).2; omega, h3 _ ih.1 ih.2 _ q2⟩
  exact (key x q).2

set_option maxRecDepth 100000 in
set_option maxHeartbeats 4000000 in
theorem reached_any (w : World) (ao : Option Addr) (no co : Nat) (ar : Option Addr) (nr cr : Nat) (us : List Sl) (os : List (List Int)) (rs : List Int) (hO : IsLL w (.slice ao no co) us os) (hR : IsL KI w (.slice ar nr cr) rs) (hg : GoodH os rs) :
    Calls Try.prog 18 #[.agg #[.slice ao no co, .slice ar nr cr]] w fun e w' => ∃ B, e = .returned (.slice (some ⟨B, 0, none⟩) no no) ∧ ∃ f, BoolsAt w' B no f ∧ (∀ x, x < no → (f x = true ↔ Rc os rs x)) ∧ w.heap.size ≤ B ∧ Below w.heap.size w w' := by
  have hol : os.length = no := by rw [← hO.len]; exact hO.row.len
  have hrn := hR.len
  have hno : no ≤ 500 := by rw [← hol]; exact hg.no
  have hnr : nr ≤ 16 := by rw [← hrn]; exact hg.nr
  obtain ⟨A, hA, hmk⟩ := make_bools no (by omega)
  have HO := hide hO; have HR := hide hR; have HG := hide hg
  have HOL := hide hol; have HRN := hide hrn
  obtain ⟨W2, e2, hx, hh, hb⟩ := two_new w (.cells #[.slice ao no co, .slice ar nr cr] 25) (.cells A 4)
  have hsz : A.size = no := by rw [← Array.length_toList, hA, List.length_replicate]
  have HBA : Hid (BoolsAt W2 (w.heap.size + 1) no (fun _ => false)) := ⟨there_block hb (by omega), (Array.getElem?_eq_some_iff.1 hb).1, fun x hx2 => by
    simp only [World.cell?, hb]
    have : A[x]? = some (.bool false) := by
      rw [← Array.getElem?_toList, hA, List.getElem?_replicate]
      simp [hx2]
    simpa using this⟩
  have HX := hide hx; have HH := hide hh; have HE2 := hide e2
  have HS1 : Hid ((w.alloc (.cells #[.slice ao no co, .slice ar nr cr] 25)).heap.size = w.heap.size + 1) := by show _ = _; simp
  have HH1 := hide (new_block w (.cells #[.slice ao no co, .slice ar nr cr] 25))
  obtain ⟨W1, e1⟩ : ∃ X, w.alloc (.cells #[.slice ao no co, .slice ar nr cr] 25) = X := ⟨_, rfl⟩
  rw [e1] at HS1 HH1 HE2
  have HE1 := hide e1
  clear hO hR hg hol hrn hx hh hb e2 e1 hsz hA
  go_enter Try.func18, Try.ntmps18
  go_upto_region 1 with fail
  rw [unhide HE1]
  obtain ⟨b0, b1, bf0, bf1, bl⟩ := block2 (unhide HH1)
  go_upto_region 2 with fail
  rw [unhide HE2, unhide HS1]
  obtain ⟨B, eB⟩ : ∃ X, w.heap.size + 1 = X := ⟨_, rfl⟩
  have hBlo : w.heap.size ≤ B := by omega
  have hBne : w.heap.size ≠ B := by omega
  rw [eB] at HBA
  rw [eB]
  have HBL := hide hBlo; have HBN := hide hBne
  clear HE1 HE2 HS1 HH1 b0 b1 bf0 bf1 bl eB hmk hBlo hBne
  have HS0 : Hid (Snd os rs no (fun _ => false)) := fun x _ q => by cases q
  have HR0 : Hid (Rts rs (fun _ => false) 0) := fun j hj => absurd hj (Nat.not_lt_zero _)
  go_wp2_with fail
  go_loopw [4] (fun s wr => ∃ (k : Nat) (f : Nat → Bool), k ≤ nr ∧ s = .int .i64 (k : Int) ∧ Hid (Snd os rs no f) ∧ Hid (Rts rs f k) ∧ Hid (Below w.heap.size w wr) ∧ Hid (wr.heap[w.heap.size]? = some (.cells #[.slice ao no co, .slice ar nr cr] 25 (0, 0))) ∧ Hid (BoolsAt wr B no f)) (fun s _ => nr - (intOf s).toNat)
  case atStart => exact ⟨0, _, Nat.zero_le _, rfl, HS0, HR0, HX, HH, HBA⟩
  case round =>
    obtain ⟨k, f, hk, rfl, HSk, HRk, HXk, HHk, HBk⟩ := hrel
    clear HS0 HR0 HX HH HBA
    obtain ⟨b0, b1, bf0, bf1, bl⟩ := block2 (unhide HHk)
    by_cases hlt : k < nr
    · have i4 : (0 : Int) ≤ (k : Int) := by omega
      have i5 : (k : Int) < (nr : Int) := by omega
      have hw1 : IntKind.i64.wrap ((k : Int) + 1) = (k : Int) + 1 := wrapi (by omega) (by omega)
      have hkr : k < rs.length := by rw [unhide HRN]; exact hlt
      obtain ⟨b, o, rfl, hb, hli⟩ := (unhide HR).opens ki (unhide HR).len (by omega)
      have k0 := (hli.below (unhide HXk) hb).ints (j := k) hkr
      have hm := getD_mem hkr
      obtain ⟨x, ex⟩ : ∃ X, rs.getD k 0 = X := ⟨_, rfl⟩
      rw [ex] at k0 hm
      have hxr := (unhide HG).ro x hm
      rw [unhide HOL] at hxr
      have HEX := hide ex; have HMM := hide hm
      clear hli ex hkr hm
      by_cases h1 : 0 ≤ x
      · obtain ⟨y, rfl⟩ : ∃ y : Nat, x = (y : Int) := ⟨x.toNat, by omega⟩
        have hyn : y < no := by omega
        have q1 := (unhide HBk).cell y hyn
        have q2 := ((unhide HBk).there y hyn).2
        rw [Nat.zero_add] at q2
        have y5 : (y : Int) < (no : Int) := by omega
        have HB2 := hide ((unhide HBk).put hyn)
        have HX2 := hide ((unhide HXk).setCell (p := ⟨B, y, none⟩) (unhide HBL) (.bool true))
        have HH2 := hide (keep_set (o := y) (v := .bool true) (unhide HHk) (unhide HBN))
        have HS2 : Hid (Snd os rs no (updT f y)) := (unhide HSk).put (.root (unhide HMM))
        have HR2 : Hid (Rts rs (updT f y) (k + 1)) := fun j hj z hz => by
          by_cases e : j = k
          · rw [e, unhide HEX] at hz
            have : y = z := by omega
            rw [← this]
            exact updT_same f y
          · exact updT_mono (unhide HRk j (by omega) z hz)
        go_wp2_with fail
        go_roundw
        case rel => exact ⟨k + 1, _, by omega, by go_num, HS2, HR2, HX2, HH2, HB2⟩
        case measure => simp [intOf]; omega
      · have HR2 : Hid (Rts rs f (k + 1)) := fun j hj z hz => by
          by_cases e : j = k
          · rw [e, unhide HEX] at hz; omega
          · exact unhide HRk j (by omega) z hz
        go_wp2_with fail
        go_roundw
        case rel => exact ⟨k + 1, f, by omega, by go_num, HSk, HR2, HXk, HHk, HBk⟩
        case measure => simp [intOf]; omega
    · obtain rfl : k = nr := by omega
      have i5 : ¬ (k : Int) < (k : Int) := by omega
      have HRF : Hid (Rts rs f rs.length) := by show Rts _ _ _; rw [unhide HRN]; exact unhide HRk
      clear HRk
      go_wp2_with fail
      clear b0 b1 bf0 bf1 bl
      go_loopw [5] (fun s5 wr => ∃ (ag : Bool) (f : Nat → Bool), s5 = .bool ag ∧ Hid (Snd os rs no f) ∧ Hid (Rts rs f rs.length) ∧ Hid (ag = false → Cls os f no) ∧ Hid (Below w.heap.size w wr) ∧ Hid (wr.heap[w.heap.size]? = some (.cells #[.slice ao no co, .slice ar k cr] 25 (0, 0))) ∧ Hid (BoolsAt wr B no f)) (fun s5 wr => 2 * cntB B no wr + flagN s5)
      case atStart => exact ⟨true, f, rfl, HSk, HRF, hide (fun q => by cases q), HXk, HHk, HBk⟩
      case round =>
        clear HSk HRF HXk HHk HBk
        obtain ⟨ag, f0, rfl, HS1, HR1, HC1, HX1, HH1, HB1⟩ := hrel
        cases ag
        · have HC2 : Hid (Cls os f0 no) := unhide HC1 rfl
          go_wp2_with fail
          go_ret
          refine ⟨B, rfl, f0, unhide HB1, fun x hx => ?_, unhide HBL, unhide HX1⟩
          have hc := unhide HC2
          have hs := unhide HS1
          rw [← unhide HOL] at hc hs hx
          exact reached_end (unhide HG) hs (unhide HR1) hc hx
        · obtain ⟨F0, eF0⟩ : ∃ X, cntN no f0 = X := ⟨_, rfl⟩
          have HF0 := hide eF0
          have HCM : Hid (cntN no f0 ≤ F0) := Nat.le_of_eq eF0
          clear eF0 HC1
          go_wp2_with fail
          obtain ⟨w8, rfl⟩ : ∃ X, X = wr := ⟨_, rfl⟩
          have HB8 := HB1
          go_loopw [5, 6] (fun s5 s6 wr => ∃ (ag : Bool) (i : Nat) (f : Nat → Bool), i ≤ no ∧ s5 = .bool ag ∧ s6 = .int .i64 (i : Int) ∧ Hid (cntN no f ≤ F0) ∧ Hid (ag = true → cntN no f < F0) ∧ Hid (ag = false → Cls os f i) ∧ Hid (Snd os rs no f) ∧ Hid (Rts rs f rs.length) ∧ Hid (Below w.heap.size w wr) ∧ Hid (wr.heap[w.heap.size]? = some (.cells #[.slice ao no co, .slice ar k cr] 25 (0, 0))) ∧ Hid (BoolsAt wr B no f)) (fun _ s _ => no - (intOf s).toNat)
          case atStart => exact ⟨false, 0, f0, Nat.zero_le _, rfl, rfl, HCM, hide (fun q => by cases q), hide (fun _ j hj => absurd hj (Nat.not_lt_zero _)), HS1, HR1, HX1, HH1, HB1⟩
          case round =>
            clear HCM HS1 HR1 HX1 HH1 HB1
            obtain ⟨ag, i, f, hi, rfl, rfl, HCMi, HCTi, HCLi, HSi, HRi, HXi, HHi, HBi⟩ := hrel
            obtain ⟨b0, b1, bf0, bf1, bl⟩ := block2 (unhide HHi)
            by_cases hin : i < no
            · have i6 : (0 : Int) ≤ (i : Int) := by omega
              have i7 : (i : Int) < (no : Int) := by omega
              have hw2 : IntKind.i64.wrap ((i : Int) + 1) = (i : Int) + 1 := wrapi (by omega) (by omega)
              have hko : i < os.length := by rw [unhide HOL]; exact hin
              obtain ⟨ab, cb, hub, hrow⟩ := (unhide HO).at hko
              obtain ⟨b, o, rfl, hb, hli⟩ := (unhide HO).row.opens kl (unhide HO).row.len (by omega)
              have hcl : ∀ W, Below w.heap.size w W → W.cell? ⟨b, o + i, none⟩ = some (sl (uAt us i)) := fun W hW => (hli.below hW hb).sls (j := i) (by rw [(unhide HO).row.len]; exact hin)
              rw [hub] at hcl
              have hsr := (unhide HG).so i hko
              have hnsr := (unhide HG).ns i hko
              obtain ⟨row, erow⟩ : ∃ X, os.getD i [] = X := ⟨_, rfl⟩
              rw [erow] at hcl hrow hsr hnsr
              obtain ⟨m, em⟩ : ∃ X, row.length = X := ⟨_, rfl⟩
              rw [em] at hcl hrow hnsr
              rw [unhide HOL] at hsr
              have HCL : Hid (∀ W, Below w.heap.size w W → W.cell? ⟨b, o + i, none⟩ = some (.slice ab m cb)) := hcl
              have HROW := hide hrow; have HSR := hide hsr
              have HER := hide erow; have HEM := hide em
              have HK0 : Hid (ag = false → Cls os f i ∧ ClsK row f 0) := fun q => ⟨unhide HCLi q, fun t ht => absurd ht (Nat.not_lt_zero _)⟩
              clear hub hrow hli erow em hko hcl hsr HCLi
              go_wp2_with fail
              clear b0 b1 bf0 bf1 bl
              go_loopw [5, 7] (fun s5 s7 wr => ∃ (ag : Bool) (t : Nat) (f : Nat → Bool), t ≤ m ∧ s5 = .bool ag ∧ s7 = .int .i64 (t : Int) ∧ Hid (cntN no f ≤ F0) ∧ Hid (ag = true → cntN no f < F0) ∧ Hid (ag = false → Cls os f i ∧ ClsK row f t) ∧ Hid (Snd os rs no f) ∧ Hid (Rts rs f rs.length) ∧ Hid (Below w.heap.size w wr) ∧ Hid (wr.heap[w.heap.size]? = some (.cells #[.slice (some ⟨b, o, none⟩) no co, .slice ar k cr] 25 (0, 0))) ∧ Hid (BoolsAt wr B no f)) (fun _ s _ => m - (intOf s).toNat)
              case atStart => exact ⟨ag, 0, f, Nat.zero_le _, rfl, rfl, HCMi, HCTi, HK0, HSi, HRi, HXi, HHi, HBi⟩
              case round =>
                clear HCMi HCTi HK0 HSi HRi HXi HHi HBi
                obtain ⟨ag, t, f, ht, rfl, rfl, HCMt, HCTt, HKt, HSt, HRt, HXt, HHt, HBt⟩ := hrel
                obtain ⟨b0, b1, bf0, bf1, bl⟩ := block2 (unhide HHt)
                have k0 := unhide HCL _ (unhide HXt)
                have c0 := (unhide HBt).cell i hin
                obtain ⟨fi, efi⟩ : ∃ X, f i = X := ⟨_, rfl⟩
                rw [efi] at c0
                have HFI := hide efi
                clear efi
                by_cases htm : t < m
                · have t4 : (0 : Int) ≤ (t : Int) := by omega
                  have t5 : (t : Int) < (m : Int) := by omega
                  have hw3 : IntKind.i64.wrap ((t : Int) + 1) = (t : Int) + 1 := wrapi (by omega) (by omega)
                  cases fi
                  · -- the row's object is not reached
                    have HCL2 : Hid (ag = false → Cls os f (i + 1)) := fun q j hj hfj z hz => by
                      by_cases e : j = i
                      · rw [e, unhide HFI] at hfj; cases hfj
                      · exact (unhide HKt q).1 j (by omega) hfj z hz
                    go_wp2_with fail
                    go_roundw
                    case rel => exact ⟨ag, i + 1, f, by omega, rfl, by go_num, HCMt, HCTt, HCL2, HSt, HRt, HXt, HHt, HBt⟩
                    case measure => simp [intOf]; omega
                  · have htr : t < row.length := by rw [unhide HEM]; exact htm
                    obtain ⟨b', o', rfl, hb', hli'⟩ := (unhide HROW).opens ki (unhide HROW).len (by omega)
                    have k1 := (hli'.below (unhide HXt) hb').ints (j := t) htr
                    have hm := getD_mem htr
                    obtain ⟨x, ex⟩ : ∃ X, row.getD t 0 = X := ⟨_, rfl⟩
                    rw [ex] at k1 hm
                    have hxr := unhide HSR x hm
                    have HEX := hide ex; have HMM := hide hm
                    clear hli' ex htr hm
                    by_cases h1 : 0 ≤ x
                    · obtain ⟨y, rfl⟩ : ∃ y : Nat, x = (y : Int) := ⟨x.toNat, by omega⟩
                      have hyn : y < no := by omega
                      have y5 : (y : Int) < (no : Int) := by omega
                      have q1 := (unhide HBt).cell y hyn
                      have q2 := ((unhide HBt).there y hyn).2
                      rw [Nat.zero_add] at q2
                      obtain ⟨fy, efy⟩ : ∃ X, f y = X := ⟨_, rfl⟩
                      rw [efy] at q1
                      have HFY := hide efy
                      clear efy
                      cases fy
                      · have HB2 := hide ((unhide HBt).put hyn)
                        have HX2 := hide ((unhide HXt).setCell (p := ⟨B, y, none⟩) (unhide HBL) (.bool true))
                        have HH2 := hide (keep_set (o := y) (v := .bool true) (unhide HHt) (unhide HBN))
                        have HS2 : Hid (Snd os rs no (updT f y)) := (unhide HSt).put (.step (unhide HSt i hin (unhide HFI)) (by rw [unhide HER]; exact unhide HMM))
                        have HR2 : Hid (Rts rs (updT f y) rs.length) := fun j hj z hz => updT_mono (unhide HRt j hj z hz)
                        have hcu := cntN_upd hyn (unhide HFY)
                        have HCM2 : Hid (cntN no (updT f y) ≤ F0) := by have := unhide HCMt; show _ ≤ _; omega
                        have HLT2 : Hid (cntN no (updT f y) < F0) := by have := unhide HCMt; show _ < _; omega
                        clear hcu
                        go_wp2_with fail
                        go_roundw
                        case rel => exact ⟨true, t + 1, _, by omega, rfl, by go_num, HCM2, hide (fun _ => unhide HLT2), hide (fun q => by cases q), HS2, HR2, HX2, HH2, HB2⟩
                        case measure => simp [intOf]; omega
                      · have HK2 : Hid (ag = false → Cls os f i ∧ ClsK row f (t + 1)) := fun q => ⟨(unhide HKt q).1, fun s hs z hz => by
                          by_cases e : s = t
                          · rw [e, unhide HEX] at hz
                            have : y = z := by omega
                            rw [← this]
                            exact unhide HFY
                          · exact (unhide HKt q).2 s (by omega) z hz⟩
                        go_wp2_with fail
                        go_roundw
                        case rel => exact ⟨ag, t + 1, f, by omega, rfl, by go_num, HCMt, HCTt, HK2, HSt, HRt, HXt, HHt, HBt⟩
                        case measure => simp [intOf]; omega
                    · have HK2 : Hid (ag = false → Cls os f i ∧ ClsK row f (t + 1)) := fun q => ⟨(unhide HKt q).1, fun s hs z hz => by
                        by_cases e : s = t
                        · rw [e, unhide HEX] at hz; omega
                        · exact (unhide HKt q).2 s (by omega) z hz⟩
                      go_wp2_with fail
                      go_roundw
                      case rel => exact ⟨ag, t + 1, f, by omega, rfl, by go_num, HCMt, HCTt, HK2, HSt, HRt, HXt, HHt, HBt⟩
                      case measure => simp [intOf]; omega
                · obtain rfl : t = m := by omega
                  have t5 : ¬ (t : Int) < (t : Int) := by omega
                  have HCL2 : Hid (ag = false → Cls os f (i + 1)) := fun q j hj hfj z hz => by
                    by_cases e : j = i
                    · rw [e, unhide HER] at hz
                      obtain ⟨s, hs, es⟩ := mem_getD hz
                      exact (unhide HKt q).2 s (by rw [← unhide HEM]; exact hs) z es
                    · exact (unhide HKt q).1 j (by omega) hfj z hz
                  go_wp2_with fail
                  go_roundw
                  case rel => exact ⟨ag, i + 1, f, by omega, rfl, by go_num, HCMt, HCTt, HCL2, HSt, HRt, HXt, HHt, HBt⟩
                  case measure => simp [intOf]; omega
            · obtain rfl : i = no := by omega
              have i7 : ¬ (i : Int) < (i : Int) := by omega
              go_wp2_with fail
              go_roundw
              case rel => exact ⟨ag, f, rfl, HSi, HRi, HCLi, HXi, HHi, HBi⟩
              case measure =>
                rw [(unhide HBi).cnt, (unhide HB8).cnt, unhide HF0]
                have h1 := unhide HCMi
                cases ag with
                | false => show 2 * _ + 0 < 2 * _ + 1; omega
                | true => have h2 := unhide HCTi rfl; show 2 * _ + 1 < 2 * _ + 1; omega
end Go.Proofs.Ytmkehjncnaokoaa
