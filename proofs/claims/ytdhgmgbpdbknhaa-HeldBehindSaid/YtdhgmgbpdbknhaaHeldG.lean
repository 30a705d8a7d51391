/- HeldBehind. -/
import Derived.Test.YtdhgmgbpdbknhaaHeldE
namespace Go.Proofs.Ytdhgmgbpdbknhaa
open Go.ChangeShapes Go.WideShapes Go.ChangeAt Go.RowKit
namespace Held


/-- A row of ints of the call's own. -/
def ints (zs : List Int) : List Value := zs.map (Value.int .i64)
def IRow (base : Nat) (w : World) (v : Value) (zs : List Int) : Prop := w.ownsRow base 3 1 v zs.length (ints zs)
section
variable {base : Nat} {w w' : World} {v : Value} {zs : List Int}
theorem IRow.grown (h : IRow base w v zs) (hb : ∀ g, v.ownBlock = some g → g < w.heap.size → w'.heap[g]? = w.heap[g]?) : IRow base w' v zs := by
  refine ⟨h.1, ?_⟩
  rcases h.2 with h0 | ⟨g, cap, cur, rfl, hbg, hg, rest⟩
  · exact Or.inl h0
  · have hlt : g < w.heap.size := (Array.getElem?_eq_some_iff.1 hg).1
    exact Or.inr ⟨g, cap, cur, rfl, hbg, (hb g rfl hlt).trans hg, rest⟩
theorem IRow.below (h : IRow base w v zs) (hb : Below w.heap.size w w') : IRow base w' v zs := h.grown fun g _ hlt => hb.block g hlt
theorem IRow.shape (h : IRow base w v zs) : ∃ A c, v = .slice A zs.length c ∧ zs.length ≤ c ∧ c ≤ maxLen := by
  rcases h.2 with ⟨rfl, hn⟩ | ⟨g, cap, cur, rfl, hbg, hg, hn, hc, _⟩
  · exact ⟨none, 0, by rw [hn], by omega, Nat.zero_le _⟩
  · exact ⟨_, _, rfl, hn, hc⟩
theorem IRow.lt (h : IRow base w v zs) (g : Nat) (hg : v.ownBlock = some g) : g < w.heap.size ∧ base ≤ g := by
  rcases h.2 with ⟨rfl, hn⟩ | ⟨g', cap, cur, rfl, hbg, hh, _⟩
  · simp [Value.ownBlock] at hg
  · simp [Value.ownBlock] at hg
    subst hg
    exact ⟨(Array.getElem?_eq_some_iff.1 hh).1, hbg⟩
theorem IRow.at_ (h : IRow base w v zs) (i : Nat) (p : Int) (hi : zs[i]? = some p) : ∃ g c, v = .slice (some ⟨g, 0, none⟩) zs.length c ∧ zs.length ≤ c ∧ g < w.heap.size ∧ w.cell? ⟨g, i, none⟩ = some (.int .i64 p) := by
  have hlt := (List.getElem?_eq_some_iff.1 hi).1
  rcases h.2 with ⟨rfl, hn⟩ | ⟨g, cap, cur, rfl, hbg, hg, hn, hc, hsz, htk⟩
  · omega
  · have e : (ints zs)[i]? = some (.int .i64 p) := by simp [ints, hi]
    rw [← htk, List.getElem?_take_of_lt (by omega)] at e
    exact ⟨g, cap, rfl, hn, (Array.getElem?_eq_some_iff.1 hg).1, by rw [cell_of_row w g i cur 3 (0, 0) hg]; simpa using e⟩
end
theorem int_info : (Try.prog.info? 3).map (fun i => (i.zero, i.size, i.bytes)) = some (some (.int .i64 0), 1, 8) := by kernel_rfl
def Dist (xs : List (Int × Int)) : Prop := ∀ (i j : Nat) (p q : Int × Int), i < j → xs[i]? = some p → xs[j]? = some q → p.1 ≠ q.1
theorem Dist.add {xs : List (Int × Int)} {p : Int × Int} (h : Dist xs) (hno : ∀ (j : Nat) (q : Int × Int), xs[j]? = some q → q.1 ≠ p.1) : Dist (xs ++ [p]) := by
  intro i j a c hij ha hc
  have hj := (List.getElem?_eq_some_iff.1 hc).1
  simp at hj
  rw [List.getElem?_append_left (by omega)] at ha
  rcases (by omega : j < xs.length ∨ j = xs.length) with h1 | h1
  · rw [List.getElem?_append_left h1] at hc
    exact h i j a c hij ha hc
  · subst h1
    simp at hc
    subst hc
    exact hno i a ha
theorem Dist.pop {xs : List (Int × Int)} {p : Int × Int} (h : Dist (xs ++ [p])) : Dist xs ∧ ∀ (j : Nat) (q : Int × Int), xs[j]? = some q → q.1 ≠ p.1 := by
  have ap : ∀ (i : Nat) (a : Int × Int), xs[i]? = some a → (xs ++ [p])[i]? = some a := fun i a ha => by rw [List.getElem?_append_left (List.getElem?_eq_some_iff.1 ha).1]; exact ha
  refine ⟨fun i j a c hij ha hc => h i j a c hij (ap i a ha) (ap j c hc), fun j q hq => h j xs.length q p (List.getElem?_eq_some_iff.1 hq).1 (ap j q hq) (by simp)⟩
def BehRel (w : World) (b m : Nat) (lv iv : Value) (W : World) : Prop := ∃ (L : Value) (k : Nat) (v : Value) (xs : List (Int × Int)), k ≤ m ∧ k ≤ 60 ∧ iv = .int .i64 k ∧ L = lv ∧ xs.length ≤ k ∧ At b W b v xs ∧ IRow b W L (xs.map Prod.fst) ∧ L.ownBlock ≠ some b ∧
  (∀ g, v.ownBlock = some g → L.ownBlock ≠ some g) ∧ Dist xs ∧ Below b w W ∧ b ≤ W.heap.size
theorem drewn_ (w : World) (n : Nat) : Below w.heap.size w (w.drewN n) := ⟨rfl, rfl, rfl, Nat.le_refl _, fun _ _ => rfl⟩
def BehRel2 (w : World) (b : Nat) (lv : Value) (zs : List Int) (iv : Value) (W : World) : Prop := ∃ (v : Value) (ys : List (Int × Int)) (j : Int), ys.map Prod.fst = zs.take ys.length ∧ iv = .int .i64 j ∧ j + 1 ≤ (ys.length : Int) ∧ (ys.length : Int) ≤ j + 1 ∧ At b W b v ys ∧ IRow b W lv zs ∧ lv.ownBlock ≠ some b ∧
  (∀ g, v.ownBlock = some g → lv.ownBlock ≠ some g) ∧ Dist ys ∧ Below b w W ∧ b ≤ W.heap.size

set_option maxRecDepth 100000 in
set_option maxHeartbeats 2000000 in
theorem behind_walk (A : Option Addr) (m c : Nat) (t : Int) (z : Nat → Int) (w : World) (hm : m ≤ 9223372036854775807) (ht0 : 0 ≤ t) (ht1 : t ≤ 65535) (hz : 0 < m → ∃ b o, A = some ⟨b, o, none⟩ ∧ b < w.heap.size ∧ ∀ i, i < m → w.cell? ⟨b, o + i, none⟩ = some (.int .u16 (z i)) ∧ 0 ≤ z i ∧ z i ≤ 65535) :
    Calls Try.prog 4 #[.slice A m c, .int .u16 t] w (Ret (.bool true) w) := by
  obtain ⟨i0, hi, hz0, hz1, hz2⟩ := info_parts int_info
  go_enter Try.func4, Try.ntmps4
  go_wp2_with fail
  refine (new_any _).mono ?_
  rintro e w1 ⟨rfl, hA, hB⟩
  have hw := hB.size
  generalize hb : w.heap.size = b at hA hB hw hz ⊢
  have HE := Lib.hid hb
  clear hb
  go_wp2_with fail
  refine (awake_any _).mono ?_
  rintro e w2 ⟨rfl, hb⟩
  have hR : BehRel w b m (.slice none 0 0) (.int .i64 0) w2 := ⟨_, 0, _, _, by omega, by omega, rfl, rfl, by simp, hA.below hb, ⟨rfl, Or.inl ⟨rfl, rfl⟩⟩, by simp [Value.ownBlock], by simp [Value.ownBlock], fun i j p q _ hp => by simp at hp, hB.trans (hb.mono hw), Nat.le_trans hw hb.size⟩
  clear hA hB hw hb
  go_wp2_with fail
  go_loopw [6, 7] (fun lv iv W => BehRel w b m lv iv W) (fun _ iv _ => (60 - intOf iv).toNat)
  case atStart => exact hR
  case round =>
    clear hR
    obtain ⟨lv, k, v, xs, hk, hk60, rfl, rfl, hxk, hA, hI, hlb, hvl, hD, hB, hw⟩ := hrel
    have q : (0 : Int) ≤ (k : Int) := Int.natCast_nonneg _
    by_cases hlt : k < m ∧ k < 60
    · obtain ⟨hlt1, hlt2⟩ := hlt
      have hd1 : decide ((k : Int) < (m : Int)) = true := by simp; omega
      have hd2 : decide ((k : Int) < 60) = true := by simp; omega
      have q1 : (k : Int) < (m : Int) := by omega
      obtain ⟨b0, o0, rfl, hb0, hcell⟩ := hz (by omega)
      obtain ⟨hck, hu0, hu1⟩ := hcell k hlt1
      generalize z k = u at *
      clear hcell
      replace hck := (hB.cell (p := ⟨b0, o0 + k, none⟩) hb0).trans hck
      have hmod : u.tmod 1024 = u % 1024 := Int.tmod_eq_emod_of_nonneg hu0
      have hwr : wrap64 (t + k) = t + k := IntWalk.wrap64_in _ ⟨by omega, by omega⟩
      go_wp2_with fail
      refine (has_any b b v xs _ _ hA (by omega)).mono ?_
      rintro e w3 ⟨r, f, rfl, hs, hb⟩
      replace hA := hA.below hb
      replace hI := hI.below hb
      replace hB := hB.trans (hb.mono hw)
      replace hw := Nat.le_trans hw hb.size
      clear hb hck
      cases f
      · have hno : ∀ (j : Nat) (q : Int × Int), xs[j]? = some q → q.1 ≠ u % 1024 := by
          rcases hs with ⟨hf, _⟩ | ⟨_, _, h⟩
          · cases hf
          · exact h
        clear hs
        go_wp2_with fail
        refine (add_yes b b v xs _ _ _ hw hA (by omega) (by omega) (by omega) (by omega) (by omega) hno).mono ?_
        rintro e w4 ⟨rfl, v2, hA2, hK, hL⟩
        have hI2 : IRow b w4 lv (xs.map Prod.fst) := hI.grown fun g hg hlt => hK.block g hlt (fun e => hlb (by rw [hg, e])) (fun e => hvl g e hg)
        have hv2 : ∀ g, v2.ownBlock = some g → lv.ownBlock ≠ some g := fun g hg e => by
          rcases hL g hg with h | h
          · exact hvl g h e
          · have := (hI.lt g e).1; omega
        have hBl := hB.trans (hK.base hA hw)
        have hw4 := Nat.le_trans hw hK.size
        have hlen : (xs.map Prod.fst).length ≤ 60 := by simp; omega
        clear hA hI hK hL hB hw hvl
        go_wp2_with (at_builtin; refine wpList_append_own_at _ rfl (.tmp 68) (.tmp 70) 51 rfl b 3 i0 (.int .i64 0) 1 8 Try.underlying51 hi hz0 hz1 hz2 rfl (by decide) lv (xs.map Prod.fst).length (ints (xs.map Prod.fst)) (by rfl) (hI2.below (below1 _ _)) ⟨w4.heap.size, 0, none⟩ 1 1 [.int .i64 (u % 1024)] (by rfl) (by rfl) (cell_one_new _ _ _) (by intro u hu; simp at hu; subst hu; rfl) (by unfold maxLen; omega) (by omega) (by simp; omega) ?_)
        intro lv' w5 hown hgrow hnil hat
        have hA3 : At b w5 b v2 (xs ++ [(u % 1024, t + k)]) := ⟨grown_has (hA2.has.alloc _) hgrow hlb, (hA2.row.below (below1 _ _)).grown fun g hg hlt => hgrow.block g hlt (fun e => hv2 g hg e.symm), hA2.ne, hA2.ge⟩
        have hI3 : IRow b w5 lv' ((xs ++ [(u % 1024, t + k)]).map Prod.fst) := by
          unfold IRow
          simpa [ints] using hown
        have hlb' : lv'.ownBlock ≠ some b := by
          rcases hat with h | h
          · rw [h]; exact hlb
          · rw [h]; simp; omega
        have hvl' : ∀ g, v2.ownBlock = some g → lv'.ownBlock ≠ some g := fun g hg => by
          rcases hat with h | h
          · rw [h]; exact hv2 g hg
          · have := (hA2.row.lt g hg).1
            rw [h]; simp; omega
        have hB5 : Below b w w5 := hBl.trans ((below1 w4 _).mono hw4 |>.trans ⟨hgrow.os, hgrow.tape, hgrow.output, hgrow.size, fun g hg => hgrow.block g (by simp; omega) (fun e => by have := (hI2.lt g e.symm).2; omega)⟩)
        have hw5 : b ≤ w5.heap.size := Nat.le_trans (by simp; omega) hgrow.size
        clear hown hgrow hnil hat hI2 hA2 hBl
        go_wp2_with fail
        go_roundw
        case rel => exact ⟨lv', k + 1, v2, _, by omega, by omega, by go_num, rfl, by simp; omega, hA3, hI3, hlb', hvl', hD.add hno, hB5, hw5⟩
        case measure => simp [intOf]; omega
      · have hyes : ∃ (j : Nat) (q : Int × Int), xs[j]? = some q ∧ q.1 = u % 1024 := by
          rcases hs with ⟨_, i, p, hp, he, _⟩ | ⟨hf, _⟩
          · exact ⟨i, p, hp, he⟩
          · cases hf
        clear hs
        go_wp2_with fail
        refine (add_dup b b v xs _ _ _ hA (by omega) (by omega) (by omega) (by omega) (by omega) hyes).mono ?_
        rintro e w4 ⟨rfl, hb⟩
        go_wp2_with fail
        go_roundw
        case rel => exact ⟨lv, k + 1, v, xs, by omega, by omega, by go_num, rfl, by omega, hA.below hb, hI.below hb, hlb, hvl, hD, hB.trans (hb.mono hw), Nat.le_trans hw hb.size⟩
        case measure => simp [intOf]; omega
    · rcases (by omega : m ≤ k ∨ k < m ∧ 60 ≤ k) with hx | ⟨hx, hx2⟩
      · have hd1 : decide ((k : Int) < (m : Int)) = false := by simp; omega
        clear hlt
        go_wp2_with fail
        refine (len_any b b v xs _ hA).mono ?_
        rintro e w3 ⟨rfl, hb⟩
        replace hA := hA.below hb
        replace hI := hI.below hb
        replace hB := hB.trans (hb.mono hw)
        replace hw := Nat.le_trans hw hb.size
        clear hb
        obtain ⟨B, c2, hve, hc2, hm2⟩ := hI.shape
        subst hve
        have hB2 : BehRel2 w b (.slice B (xs.map Prod.fst).length c2) (xs.map Prod.fst) (.int .i64 ((xs.length : Int) - 1)) w3 := ⟨v, xs, (xs.length : Int) - 1, by rw [List.take_of_length_le (by simp)], rfl, by omega, by omega, hA, hI, hlb, hvl, hD, hB, hw⟩
        have hl : (xs.map Prod.fst).length = xs.length := by simp
        generalize xs.map Prod.fst = zs at *
        have hl60 : zs.length ≤ 60 := by omega
        rw [← hl] at hB2
        have HL : (xs.length : Int) = (zs.length : Int) := by omega
        have hwr : wrap64 ((zs.length : Int) - 1) = (zs.length : Int) - 1 := IntWalk.wrap64_in _ ⟨by omega, by omega⟩
        clear hA hI hlb hvl hD hB hw hl
        go_wp2_with fail
        clear HL hwr
        go_loopw [12] (fun iv W => BehRel2 w b (.slice B zs.length c2) zs iv W) (fun iv _ => (intOf iv + 1).toNat)
        case atStart => exact hB2
        case round =>
          clear hB2 hxk
          obtain ⟨v, ys, j, hyz, rfl, hj1, hj2, hA, hI, hlb, hvl, hD, hB, hw⟩ := hrel
          obtain rfl | ⟨ys', p, rfl⟩ : ys = [] ∨ ∃ a b, ys = a ++ [b] := by
            rcases List.eq_nil_or_concat ys with h | ⟨a, b, h⟩
            · exact Or.inl h
            · exact Or.inr ⟨a, b, by simpa using h⟩
          · clear hyz hI hlb hvl hD
            obtain rfl : j = -1 := by simp at hj1 hj2; omega
            clear hj1 hj2
            go_wp2_with fail
            refine (take_none b b v _ hA).mono ?_
            rintro e w4 ⟨rfl, hb⟩
            replace hA := hA.below hb
            replace hB := hB.trans (hb.mono hw)
            replace hw := Nat.le_trans hw hb.size
            clear hb
            have hlt := hA.has.lt
            go_wp2_with fail
            refine (len_any b b v [] _ (hA.below (by repeat (first | exact Below.refl _ _ | refine Below.drew ?_ | refine Below.alloc ?_ (by simp <;> omega) _)))).mono ?_
            rintro e w5 ⟨rfl, hb⟩
            have hb1 : Below w4.heap.size w4 w5 := Below.trans (by repeat (first | exact Below.refl _ _ | refine Below.drew ?_ | refine Below.alloc ?_ (by simp <;> omega) _)) (hb.mono (by simp <;> omega))
            replace hA := hA.below hb1
            replace hB := hB.trans (hb1.mono hw)
            replace hw := Nat.le_trans hw hb1.size
            clear hb hb1 hlt
            have hlt := hA.has.lt
            go_wp2_with fail
            refine (add_yes b b v [] 5 1 _ hw hA (by simp) (by omega) (by omega) (by omega) (by omega) (by simp)).mono ?_
            rintro e w6 hp
            obtain ⟨rfl, v6, hA6, hB6, _⟩ := hp.on hB hw hA
            clear hp
            go_wp2_with fail
            go_ret
            exact Ret.of (by rw [HE.out]; exact hB6)
          · have hn' : ys'.length < zs.length := by
              have := congrArg List.length hyz
              simp at this
              omega
            have hzp : zs[ys'.length]? = some p.1 := by
              have := congrArg (fun l => l[ys'.length]?) hyz
              simpa using this.symm
            obtain ⟨g, c', hv, hc', hg, hcell⟩ := hI.at_ _ _ hzp
            obtain ⟨rfl, rfl⟩ : B = some ⟨g, 0, none⟩ ∧ c2 = c' := by injection hv with a _ c; exact ⟨a, c⟩
            obtain ⟨hD', hno⟩ := hD.pop
            have hyz' : ys'.map Prod.fst = zs.take ys'.length := by
              have := congrArg (List.take ys'.length) hyz
              simpa [List.take_take, Nat.min_def] using this
            obtain rfl : j = (ys'.length : Int) := by simp at hj1 hj2; omega
            clear hj1 hj2
            have q : (0 : Int) ≤ (ys'.length : Int) := Int.natCast_nonneg _
            have qn : (ys'.length : Int) < (zs.length : Int) := by omega
            clear hv hzp hyz hD
            go_wp2_with fail
            refine (take_some b b v ys' p _ hA (by omega)).mono ?_
            rintro e w4 ⟨rfl, v2, hA2, hK, hL⟩
            have hgb : g ≠ b := by simpa [Value.ownBlock] using hlb
            have hvg : v.ownBlock ≠ some g := fun e => hvl g e (by simp [Value.ownBlock])
            have hI2 : IRow b w4 (.slice (some ⟨g, 0, none⟩) zs.length c2) zs := hI.grown fun g' hg' hlt => by
              simp [Value.ownBlock] at hg'; subst hg'
              exact hK.block g hlt hgb hvg
            have hv2 : ∀ g', v2.ownBlock = some g' → (Value.slice (some ⟨g, 0, none⟩) zs.length c2).ownBlock ≠ some g' := fun g' hg' e => by
              simp [Value.ownBlock] at e; subst e
              rcases hL g hg' with h | h
              · exact hvg h
              · omega
            have hcell4 := (World.cell?_of_block (a := ⟨g, ys'.length, none⟩) (hK.block g hg hgb hvg)).trans hcell
            have hg4 : g < w4.heap.size := Nat.lt_of_lt_of_le hg hK.size
            have hB4 := hB.trans (hK.base hA hw)
            have hw4 := Nat.le_trans hw hK.size
            have hlt := hA2.has.lt
            clear hA hI hvl hK hL hB hw hcell hg
            go_wp2_with fail
            have hx := Has.new w4 [.int .i64 p.1, .int .i64 p.2] 32
            have hA3 := hA2.below (below1 w4 (.cells #[.int .i64 p.1, .int .i64 p.2] 32))
            refine (has_any b b v2 ys' p.1 _ hA3 (by omega)).mono ?_
            rintro e w5 ⟨r, f, rfl, hs, hb⟩
            obtain rfl : f = false := by
              rcases hs with ⟨_, i, q, hq, he, _⟩ | ⟨hf, _⟩
              · exact absurd he (hno i q hq)
              · exact hf
            have hb1 : Below w4.heap.size w4 w5 := Below.trans (by repeat (first | exact Below.refl _ _ | refine Below.drew ?_ | refine Below.alloc ?_ (by simp <;> omega) _)) (hb.mono (by simp <;> omega))
            replace hx := hx.below hb
            replace hA3 := hA3.below hb
            replace hI2 := hI2.below hb1
            replace hB4 := hB4.trans (hb1.mono hw4)
            replace hcell4 := (hb1.cell (p := ⟨g, ys'.length, none⟩) hg4).trans hcell4
            replace hg4 := Nat.lt_of_lt_of_le hg4 hb1.size
            replace hw4 := Nat.le_trans hw4 hb1.size
            have x0 := hx.here 0 _ rfl
            have x1 := hx.here 1 _ rfl
            have xl := hx.lt
            clear hs hb hb1 hx hA2 hlt
            go_wp2_with fail
            go_quiet (fail)
            go_wp2_with fail
            go_roundw
            case rel =>
              have dr := fun n => drewn_ w5 n
              first | exact ⟨v2, ys', (ys'.length : Int) - 1, hyz', by go_num, by omega, by omega, hA3.below (dr _), hI2.below (dr _), hlb, hv2, hD', hB4.trans ((dr _).mono hw4), Nat.le_trans hw4 (dr _).size⟩ | exact ⟨v2, ys', (ys'.length : Int) - 1, hyz', rfl, by omega, by omega, hA3.below (dr _), hI2.below (dr _), hlb, hv2, hD', hB4.trans ((dr _).mono hw4), Nat.le_trans hw4 (dr _).size⟩
            case measure => simp [intOf] <;> omega
      · have hd1 : decide ((k : Int) < (m : Int)) = true := by simp; omega
        have hd2 : decide ((k : Int) < 60) = false := by simp; omega
        clear hlt
        go_wp2_with fail
        refine (len_any b b v xs _ hA).mono ?_
        rintro e w3 ⟨rfl, hb⟩
        replace hA := hA.below hb
        replace hI := hI.below hb
        replace hB := hB.trans (hb.mono hw)
        replace hw := Nat.le_trans hw hb.size
        clear hb
        obtain ⟨B, c2, hve, hc2, hm2⟩ := hI.shape
        subst hve
        have hB2 : BehRel2 w b (.slice B (xs.map Prod.fst).length c2) (xs.map Prod.fst) (.int .i64 ((xs.length : Int) - 1)) w3 := ⟨v, xs, (xs.length : Int) - 1, by rw [List.take_of_length_le (by simp)], rfl, by omega, by omega, hA, hI, hlb, hvl, hD, hB, hw⟩
        have hl : (xs.map Prod.fst).length = xs.length := by simp
        generalize xs.map Prod.fst = zs at *
        have hl60 : zs.length ≤ 60 := by omega
        rw [← hl] at hB2
        have HL : (xs.length : Int) = (zs.length : Int) := by omega
        have hwr : wrap64 ((zs.length : Int) - 1) = (zs.length : Int) - 1 := IntWalk.wrap64_in _ ⟨by omega, by omega⟩
        clear hA hI hlb hvl hD hB hw hl
        go_wp2_with fail
        clear HL hwr
        go_loopw [12] (fun iv W => BehRel2 w b (.slice B zs.length c2) zs iv W) (fun iv _ => (intOf iv + 1).toNat)
        case atStart => exact hB2
        case round =>
          clear hB2 hxk
          obtain ⟨v, ys, j, hyz, rfl, hj1, hj2, hA, hI, hlb, hvl, hD, hB, hw⟩ := hrel
          obtain rfl | ⟨ys', p, rfl⟩ : ys = [] ∨ ∃ a b, ys = a ++ [b] := by
            rcases List.eq_nil_or_concat ys with h | ⟨a, b, h⟩
            · exact Or.inl h
            · exact Or.inr ⟨a, b, by simpa using h⟩
          · clear hyz hI hlb hvl hD
            obtain rfl : j = -1 := by simp at hj1 hj2; omega
            clear hj1 hj2
            go_wp2_with fail
            refine (take_none b b v _ hA).mono ?_
            rintro e w4 ⟨rfl, hb⟩
            replace hA := hA.below hb
            replace hB := hB.trans (hb.mono hw)
            replace hw := Nat.le_trans hw hb.size
            clear hb
            have hlt := hA.has.lt
            go_wp2_with fail
            refine (len_any b b v [] _ (hA.below (by repeat (first | exact Below.refl _ _ | refine Below.drew ?_ | refine Below.alloc ?_ (by simp <;> omega) _)))).mono ?_
            rintro e w5 ⟨rfl, hb⟩
            have hb1 : Below w4.heap.size w4 w5 := Below.trans (by repeat (first | exact Below.refl _ _ | refine Below.drew ?_ | refine Below.alloc ?_ (by simp <;> omega) _)) (hb.mono (by simp <;> omega))
            replace hA := hA.below hb1
            replace hB := hB.trans (hb1.mono hw)
            replace hw := Nat.le_trans hw hb1.size
            clear hb hb1 hlt
            have hlt := hA.has.lt
            go_wp2_with fail
            refine (add_yes b b v [] 5 1 _ hw hA (by simp) (by omega) (by omega) (by omega) (by omega) (by simp)).mono ?_
            rintro e w6 hp
            obtain ⟨rfl, v6, hA6, hB6, _⟩ := hp.on hB hw hA
            clear hp
            go_wp2_with fail
            go_ret
            exact Ret.of (by rw [HE.out]; exact hB6)
          · have hn' : ys'.length < zs.length := by
              have := congrArg List.length hyz
              simp at this
              omega
            have hzp : zs[ys'.length]? = some p.1 := by
              have := congrArg (fun l => l[ys'.length]?) hyz
              simpa using this.symm
            obtain ⟨g, c', hv, hc', hg, hcell⟩ := hI.at_ _ _ hzp
            obtain ⟨rfl, rfl⟩ : B = some ⟨g, 0, none⟩ ∧ c2 = c' := by injection hv with a _ c; exact ⟨a, c⟩
            obtain ⟨hD', hno⟩ := hD.pop
            have hyz' : ys'.map Prod.fst = zs.take ys'.length := by
              have := congrArg (List.take ys'.length) hyz
              simpa [List.take_take, Nat.min_def] using this
            obtain rfl : j = (ys'.length : Int) := by simp at hj1 hj2; omega
            clear hj1 hj2
            have q : (0 : Int) ≤ (ys'.length : Int) := Int.natCast_nonneg _
            have qn : (ys'.length : Int) < (zs.length : Int) := by omega
            clear hv hzp hyz hD
            go_wp2_with fail
            refine (take_some b b v ys' p _ hA (by omega)).mono ?_
            rintro e w4 ⟨rfl, v2, hA2, hK, hL⟩
            have hgb : g ≠ b := by simpa [Value.ownBlock] using hlb
            have hvg : v.ownBlock ≠ some g := fun e => hvl g e (by simp [Value.ownBlock])
            have hI2 : IRow b w4 (.slice (some ⟨g, 0, none⟩) zs.length c2) zs := hI.grown fun g' hg' hlt => by
              simp [Value.ownBlock] at hg'; subst hg'
              exact hK.block g hlt hgb hvg
            have hv2 : ∀ g', v2.ownBlock = some g' → (Value.slice (some ⟨g, 0, none⟩) zs.length c2).ownBlock ≠ some g' := fun g' hg' e => by
              simp [Value.ownBlock] at e; subst e
              rcases hL g hg' with h | h
              · exact hvg h
              · omega
            have hcell4 := (World.cell?_of_block (a := ⟨g, ys'.length, none⟩) (hK.block g hg hgb hvg)).trans hcell
            have hg4 : g < w4.heap.size := Nat.lt_of_lt_of_le hg hK.size
            have hB4 := hB.trans (hK.base hA hw)
            have hw4 := Nat.le_trans hw hK.size
            have hlt := hA2.has.lt
            clear hA hI hvl hK hL hB hw hcell hg
            go_wp2_with fail
            have hx := Has.new w4 [.int .i64 p.1, .int .i64 p.2] 32
            have hA3 := hA2.below (below1 w4 (.cells #[.int .i64 p.1, .int .i64 p.2] 32))
            refine (has_any b b v2 ys' p.1 _ hA3 (by omega)).mono ?_
            rintro e w5 ⟨r, f, rfl, hs, hb⟩
            obtain rfl : f = false := by
              rcases hs with ⟨_, i, q, hq, he, _⟩ | ⟨hf, _⟩
              · exact absurd he (hno i q hq)
              · exact hf
            have hb1 : Below w4.heap.size w4 w5 := Below.trans (by repeat (first | exact Below.refl _ _ | refine Below.drew ?_ | refine Below.alloc ?_ (by simp <;> omega) _)) (hb.mono (by simp <;> omega))
            replace hx := hx.below hb
            replace hA3 := hA3.below hb
            replace hI2 := hI2.below hb1
            replace hB4 := hB4.trans (hb1.mono hw4)
            replace hcell4 := (hb1.cell (p := ⟨g, ys'.length, none⟩) hg4).trans hcell4
            replace hg4 := Nat.lt_of_lt_of_le hg4 hb1.size
            replace hw4 := Nat.le_trans hw4 hb1.size
            have x0 := hx.here 0 _ rfl
            have x1 := hx.here 1 _ rfl
            have xl := hx.lt
            clear hs hb hb1 hx hA2 hlt
            go_wp2_with fail
            go_quiet (fail)
            go_wp2_with fail
            go_roundw
            case rel =>
              have dr := fun n => drewn_ w5 n
              first | exact ⟨v2, ys', (ys'.length : Int) - 1, hyz', by go_num, by omega, by omega, hA3.below (dr _), hI2.below (dr _), hlb, hv2, hD', hB4.trans ((dr _).mono hw4), Nat.le_trans hw4 (dr _).size⟩ | exact ⟨v2, ys', (ys'.length : Int) - 1, hyz', rfl, by omega, by omega, hA3.below (dr _), hI2.below (dr _), hlb, hv2, hD', hB4.trans ((dr _).mono hw4), Nat.le_trans hw4 (dr _).size⟩
            case measure => simp [intOf] <;> omega

end Held
end Go.Proofs.Ytdhgmgbpdbknhaa
