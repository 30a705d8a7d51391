/- How runs of functions with loops are written: what is looked at of a stop, and rows of numbers. -/
import Derived.Test.YtldlnclkdgfahaaGreatEvY
import Derived.Test.YtldlnclkdgfahaaGreatFlat
namespace Go.Proofs.YtldlnclkdgfahaaGreat
open Go.RowKit
namespace Ev
/-! ### Where a loop stands -/
/-- 0, 1: the first, the second part; 2: in a scope; 3: in a block; 4, 5: the one way, the other one; 6 and more: in a loop's round, of that number less 6. -/
def headOf : List Nat → Code → List Kont → Code × List Kont
  | [], .loop a, K => (a, K)
  | 0 :: p, .seq a b, K => headOf p a (.seq b :: K)
  | 1 :: p, .seq _ b, K => headOf p b K
  | 2 :: p, .scope a, K => headOf p a (.scp :: K)
  | 3 :: p, .block i a, K => headOf p a (.blk i :: K)
  | 4 :: p, .cond _ a _, K => headOf p a K
  | 5 :: p, .cond _ _ b, K => headOf p b K
  | (n + 6) :: p, .loop a, K => headOf p a (.rnd n :: K)
  | _, _, K => (.skip, K)
def bodyC (fn : Func) : Code := match fn.body with | some c => c | none => .skip
noncomputable section
def outFin (live : List Nat) (r : Option Stop) : Option (Value × List (Option AObj) × List (Bool × Bool)) :=
  match r with
  | some (.fin u s) => bif Nat.ble s.n 1000000000 then some (u, live.map s.h.get, s.ob) else none
  | _ => none
def outNext (i : Nat) (live temps : List Nat) (r : Option Stop) : Option (List (Option Value) × List (Option AObj) × List (Bool × Bool)) :=
  match r with
  | some (.next j T s) => bif Nat.beq j i && Nat.ble s.n 1000000000 then some (temps.map T.get, live.map s.h.get, s.ob) else none
  | _ => none
def outHead (live temps : List Nat) (r : Option Stop) : Option ((Code × List Kont) × List (Option Value) × List (Option AObj) × List (Bool × Bool)) :=
  match r with
  | some (.head b K T s) => bif Nat.ble s.n 1000000000 then some ((b, K), temps.map T.get, live.map s.h.get, s.ob) else none
  | _ => none
end
theorem outFin_spec {live : List Nat} {r : Option Stop} {u : Value} {bl : List (Option AObj)} {ob : List (Bool × Bool)} (h : outFin live r = some (u, bl, ob)) : ∃ s, r = some (.fin u s) ∧ live.map s.h.get = bl ∧ s.ob = ob ∧ s.n ≤ far := by
  unfold outFin at h
  split at h
  · rename_i u' s
    obtain ⟨hn, h⟩ := bif_some h
    injection h with h
    simp only [Prod.mk.injEq] at h
    obtain ⟨rfl, rfl, rfl⟩ := h
    exact ⟨s, rfl, rfl, rfl, Nat.le_of_ble_eq_true hn⟩
  · cases h
theorem outNext_spec {i : Nat} {live temps : List Nat} {r : Option Stop} {tv : List (Option Value)} {bl : List (Option AObj)} {ob : List (Bool × Bool)} (h : outNext i live temps r = some (tv, bl, ob)) : ∃ T s, r = some (.next i T s) ∧ temps.map T.get = tv ∧ live.map s.h.get = bl ∧ s.ob = ob ∧ s.n ≤ far := by
  unfold outNext at h
  split at h
  · rename_i j T s
    obtain ⟨hn, h⟩ := bif_some h
    simp only [Bool.and_eq_true] at hn
    injection h with h
    simp only [Prod.mk.injEq] at h
    obtain ⟨rfl, rfl, rfl⟩ := h
    exact ⟨T, s, by rw [Nat.eq_of_beq_eq_true hn.1], rfl, rfl, rfl, Nat.le_of_ble_eq_true hn.2⟩
  · cases h
theorem outHead_spec {live temps : List Nat} {r : Option Stop} {bK : Code × List Kont} {tv : List (Option Value)} {bl : List (Option AObj)} {ob : List (Bool × Bool)} (h : outHead live temps r = some (bK, tv, bl, ob)) : ∃ T s, r = some (.head bK.1 bK.2 T s) ∧ temps.map T.get = tv ∧ live.map s.h.get = bl ∧ s.ob = ob ∧ s.n ≤ far := by
  unfold outHead at h
  split at h
  · rename_i b K T s
    obtain ⟨hn, h⟩ := bif_some h
    injection h with h
    simp only [Prod.mk.injEq] at h
    obtain ⟨rfl, rfl, rfl, rfl⟩ := h
    exact ⟨T, s, rfl, rfl, rfl, rfl, Nat.le_of_ble_eq_true hn⟩
  · cases h
/-- A block, its numbers anew, is (at its beginning) another one. -/
def sameRen (ρ : Nat → Nat) : AObj → AObj → Prop
  | .ro O, .ro O' => O = O'
  | .ro O true, .ro O' true => O = O'
  | .cells c t, .cells c' t' => t = t' ∧ (∃ r, c.map (renV ρ 1) = c' ++ r) ∧ allB (shallow 1) c = true
  | _, _ => False
def BlocksOK (ρ : Nat → Nat) : List (Option AObj) → List (Option AObj) → Prop
  | _, [] => True
  | some o :: bl, some p :: l => sameRen ρ o p ∧ BlocksOK ρ bl l
  | _ :: bl, none :: l => BlocksOK ρ bl l
  | _, _ => False
def TempsOK (ρ : Nat → Nat) : List (Option Value) → List (Nat × Value) → Prop
  | _, [] => True
  | some u :: tv, x :: l => (x.2 = renV ρ 3 u ∧ shallow 3 u = true) ∧ TempsOK ρ tv l
  | _, _ => False
theorem blocks_at {ρ : Nat → Nat} {h : AH} : ∀ {live : List Nat} {l : List (Option AObj)}, BlocksOK ρ (live.map h) l → ∀ j o, lkO l j = some o → ∃ k, live[j]? = some k ∧ match o with
      | .ro O m => h k = some (.ro O m)
      | .cells c t => ∃ c' r, h k = some (.cells c' t) ∧ c'.map (renV ρ 1) = c ++ r ∧ allB (shallow 1) c' = true
  | live, [], _, j, o, hj => by simp [lkO] at hj
  | [], x :: l, hb, j, o, hj => by cases x <;> exact hb.elim
  | k :: live, none :: l, hb, j, o, hj => by
    have hb' : BlocksOK ρ (live.map h) l := by
      simp only [List.map_cons] at hb
      cases hk : h k <;> rw [hk] at hb <;> exact hb
    cases j with
    | zero => simp [lkO] at hj
    | succ j => obtain ⟨k', q1, q2⟩ := blocks_at hb' j o (by simpa [lkO] using hj); exact ⟨k', by simpa using q1, q2⟩
  | k :: live, some p :: l, hb, j, o, hj => by
    simp only [List.map_cons] at hb
    cases hk : h k with
    | none => rw [hk] at hb; exact hb.elim
    | some o1 =>
      rw [hk] at hb
      cases j with
      | zero =>
        have : p = o := by simpa [lkO] using hj
        subst this
        refine ⟨k, rfl, ?_⟩
        have h1 := hb.1
        cases o1 with
        | cells c1 t1 =>
          cases p with
          | cells c2 t2 => simp only [sameRen] at h1; obtain ⟨rfl, ⟨r, hr⟩, hs⟩ := h1; exact ⟨_, r, hk, hr, hs⟩
          | ro O2 m2 => cases m2 <;> exact h1.elim
        | ro O1 m1 =>
          cases p with
          | cells c2 t2 => cases m1 <;> exact h1.elim
          | ro O2 m2 =>
            cases m1 <;> cases m2
            · obtain rfl : O1 = O2 := h1; exact hk
            · exact h1.elim
            · exact h1.elim
            · obtain rfl : O1 = O2 := h1; exact hk
      | succ j => obtain ⟨k', q1, q2⟩ := blocks_at hb.2 j o (by simpa [lkO] using hj); exact ⟨k', by simpa using q1, q2⟩
theorem temps_at {ρ : Nat → Nat} {T : Tr Value} : ∀ {l : List (Nat × Value)}, TempsOK ρ ((l.map (·.1)).map T.get) l → ∀ t v, look t l = some v → v = renV ρ 3 ((T.get t).getD undef) ∧ shallow 3 ((T.get t).getD undef) = true
  | [], _, t, v, h => by cases h
  | x :: l, ht, t, v, h => by
    simp only [List.map_cons] at ht
    cases hx : T.get x.1 with
    | none => rw [hx] at ht; exact ht.elim
    | some u =>
      rw [hx] at ht
      unfold look at h
      cases hb : Nat.beq x.1 t with
      | true =>
        rw [hb] at h
        injection h with h
        obtain rfl := Nat.eq_of_beq_eq_true hb
        subst h
        rw [hx]
        exact ht.1
      | false => rw [hb] at h; exact temps_at ht.2 t v h
theorem into_of {nt m : Nat} {lt : List (Nat × Value)} {H : List AObj} {T : Tr Value} {s : St} {live : List Nat} (hl : live.length = m) (hn : live.Nodup) (ht : TempsOK (rho live far) ((lt.map (·.1)).map T.get) lt) (hb : BlocksOK (rho live far) (live.map s.h.get) (H.map some)) : Into nt m (fun t => look t lt) (treeL 0 H) T s live := by
  refine ⟨hl, hn, fun t v _ h => temps_at ht t v h, fun j o ho => ?_⟩
  rw [get_treeL] at ho
  simp only [Nat.zero_le, if_true, Nat.sub_zero] at ho
  exact blocks_at hb j o (by simp [lkO, ho])
section
variable {P : Program} {ext : FuncId → Option Ext}
/-- A function without loops, or what it comes to ahead of any. -/
theorem spec_fin (F : Fit P ext) {f : FuncId} {fn : Func} (hfn : P.funcs[f]? = some fn) (hb : fn.body = some (bodyC fn)) {A : Array Value} {pre : List AObj} {v u : Value} {post bl : List (Option AObj)} {ob : List (Bool × Bool)} (hA : Nat.ble A.size fn.ntmps = true) {fu : Nat} {orc : Orc} {live : List Nat}
    (hev : outFin live (evTo P ext fn fn.ntmps fu (bodyC fn) [] (argsT 0 A.toList .nil) ⟨treeL 0 pre, pre.length, [], orc, []⟩) = some (u, bl, ob)) (ho : ∀ p ∈ ob, p.1 = p.2) (hl : live.length = post.length) (hle : post.length ≤ far) (hn : live.Nodup) (hk : keeps pre.length live = true) (hv : v = renV (rho live far) 3 u ∧ shallow 3 u = true) (hbl : BlocksOK (rho live far) bl post) : LSpec P f A pre v post := by
  obtain ⟨s, h1, rfl, rfl, h4⟩ := outFin_spec hev
  exact lspec_fin F hfn hb hA h1 ho h4 hle live ⟨hl, hn, hk, hv, blocks_at hbl⟩
/-- A round that comes to the next one. -/
theorem round_next {X : Type} {fn : Func} {nt m n0 i : Nat} {L : X → List (Nat × Value)} {H : X → List AObj} {μ : X → Nat} {V : X → Value} {Po : X → List (Option AObj)} {x : X} {c : Code} {K : List Kont} {T0 : Tr Value} {fu : Nat} {orc : Orc} {live : List Nat} {tv : List (Option Value)} {bl : List (Option AObj)} {ob : List (Bool × Bool)} (y : X)
    (hev : outNext i live ((L y).map (·.1)) (evTo P ext fn nt fu c K T0 ⟨treeL 0 (H x), m, [], orc, []⟩) = some (tv, bl, ob)) (ho : ∀ p ∈ ob, p.1 = p.2) (hμ : μ y < μ x) (hV : V y = V x) (hP : Po y = Po x) (hl : live.length = m) (hn : live.Nodup) (hk : keeps n0 live = true) (ht : TempsOK (rho live far) tv (L y)) (hbl : BlocksOK (rho live far) bl ((H y).map some)) :
    ∃ fu orc st, evTo P ext fn nt fu c K T0 ⟨treeL 0 (H x), m, [], orc, []⟩ = some st ∧ (∀ p ∈ st.s.ob, p.1 = p.2) ∧ st.s.n ≤ far ∧ RoundF nt m n0 i (fun x t => look t (L x)) (fun x => treeL 0 (H x)) μ V Po x st := by
  obtain ⟨T, s, h1, rfl, rfl, rfl, h4⟩ := outNext_spec hev
  exact ⟨fu, orc, _, h1, ho, h4, rfl, y, live, hμ, hV, hP, hk, into_of hl hn ht hbl⟩
/-- A round that comes to the function's end. -/
theorem round_fin {X : Type} {fn : Func} {nt m n0 i : Nat} {L : X → List (Nat × Value)} {H : X → List AObj} {μ : X → Nat} {V : X → Value} {Po : X → List (Option AObj)} {x : X} {c : Code} {K : List Kont} {T0 : Tr Value} {fu : Nat} {orc : Orc} {live : List Nat} {u : Value} {bl : List (Option AObj)} {ob : List (Bool × Bool)}
    (hev : outFin live (evTo P ext fn nt fu c K T0 ⟨treeL 0 (H x), m, [], orc, []⟩) = some (u, bl, ob)) (ho : ∀ p ∈ ob, p.1 = p.2) (hl : live.length = (Po x).length) (hn : live.Nodup) (hk : keeps n0 live = true) (hv : V x = renV (rho live far) 3 u ∧ shallow 3 u = true) (hbl : BlocksOK (rho live far) bl (Po x)) :
    ∃ fu orc st, evTo P ext fn nt fu c K T0 ⟨treeL 0 (H x), m, [], orc, []⟩ = some st ∧ (∀ p ∈ st.s.ob, p.1 = p.2) ∧ st.s.n ≤ far ∧ RoundF nt m n0 i (fun x t => look t (L x)) (fun x => treeL 0 (H x)) μ V Po x st := by
  obtain ⟨s, h1, rfl, rfl, h4⟩ := outFin_spec hev
  exact ⟨fu, orc, _, h1, ho, h4, live, hl, hn, hk, hv, blocks_at hbl⟩
/-- A function that comes to a loop whose rounds are known. -/
theorem spec_loop (F : Fit P ext) {f : FuncId} {fn : Func} (hfn : P.funcs[f]? = some fn) (hb : fn.body = some (bodyC fn)) {A : Array Value} {pre : List AObj} {bl : List (Option AObj)} {tv : List (Option Value)} {ob : List (Bool × Bool)} (hA : Nat.ble A.size fn.ntmps = true) {fu : Nat} {orc : Orc} {live : List Nat}
    {X : Type} {m i : Nat} {L : X → List (Nat × Value)} {H : X → List AObj} {μ : X → Nat} {V : X → Value} {Po : X → List (Option AObj)} {bK : Code × List Kont} (hK : inK i bK.2 = false) (hm : m ≤ far) (hPo : ∀ x, (Po x).length ≤ far)
    (round : ∀ x gv, ∃ fu orc st, evTo P ext fn fn.ntmps fu bK.1 (.rnd i :: bK.2) (tmps fn.ntmps (fun t => look t (L x)) gv) ⟨treeL 0 (H x), m, [], orc, []⟩ = some st ∧ (∀ p ∈ st.s.ob, p.1 = p.2) ∧ st.s.n ≤ far ∧ RoundF fn.ntmps m pre.length i (fun x t => look t (L x)) (fun x => treeL 0 (H x)) μ V Po x st)
    (x : X) (hev : outHead live ((L x).map (·.1)) (evTo P ext fn fn.ntmps fu (bodyC fn) [] (argsT 0 A.toList .nil) ⟨treeL 0 pre, pre.length, [], orc, []⟩) = some (bK, tv, bl, ob)) (ho : ∀ p ∈ ob, p.1 = p.2) (hl : live.length = m) (hn : live.Nodup) (hk : keeps pre.length live = true) (ht : TempsOK (rho live far) tv (L x)) (hbl : BlocksOK (rho live far) bl ((H x).map some)) {v : Value} {post : List (Option AObj)} (hv : V x = v) (hpo : Po x = post) : LSpec P f A pre v post := by
  obtain ⟨T, s, h1, rfl, rfl, rfl, h4⟩ := outHead_spec hev
  subst hv hpo
  refine lspec_of F hfn hb hA h1 ho h4 fun ι0 w0 hd ι' a' w' hS hT => ?_
  exact loop_fun F i hm (fun x t => look t (L x)) (fun x => treeL 0 (H x)) μ V Po hPo bK.1 bK.2 hK round x live (into_of hl hn ht hbl) hk hd hT hS
end
/-! ### Rows of numbers -/
theorem ints_get (l : List Int) (i : Nat) : (int64s l)[i]? = (l[i]?).map (Value.int .i64) := by simp [int64s]
theorem ints_len (l : List Int) : (int64s l).length = l.length := by simp [int64s]
theorem ints_app (a b : List Int) : int64s (a ++ b) = int64s a ++ int64s b := by simp [int64s]
theorem ren_ints (ρ : Nat → Nat) (d : Nat) (l : List Int) : (int64s l).map (renV ρ d) = int64s l := by
  simp only [int64s, List.map_map]
  congr 1
  funext n
  exact renV_atom d rfl
theorem shallow_ints (d : Nat) : ∀ l : List Int, allB (shallow d) (int64s l) = true
  | [] => rfl
  | x :: l => by
    show (shallow d (.int .i64 x) && allB (shallow d) (int64s l)) = true
    rw [shallow_ints d l]
    cases d <;> rfl
theorem under_ints (m d : Nat) : ∀ l : List Int, allB (under m d) (int64s l) = true
  | [] => rfl
  | x :: l => by
    show (under m d (.int .i64 x) && allB (under m d) (int64s l)) = true
    rw [under_ints m d l]
    cases d <;> rfl
theorem cell1_ints : ∀ l : List Int, allB cell1 (int64s l) = true
  | [] => rfl
  | x :: l => by
    show (cell1 (.int .i64 x) && allB cell1 (int64s l)) = true
    rw [cell1_ints l]
    rfl
theorem same_ints (ρ : Nat → Nat) (l : List Int) (t : TypeId) : sameRen ρ (.cells (int64s l) t) (.cells (int64s l) t) := ⟨rfl, ⟨[], by rw [ren_ints, List.append_nil]⟩, shallow_ints 1 l⟩
theorem same_ints' (ρ : Nat → Nat) {l l' : List Int} (t : TypeId) (h : l = l') : sameRen ρ (.cells (int64s l) t) (.cells (int64s l') t) := h ▸ same_ints ρ l t
theorem takeN_take {α : Type} : ∀ (m : Nat) (l : List α), m ≤ l.length → takeN m l = some (l.take m)
  | 0, l, _ => by simp [takeN]
  | m + 1, [], h => by simp at h
  | m + 1, x :: l, h => by
    simp only [takeN]
    rw [takeN_take m l (by simpa using h)]
    rfl
theorem take_ints {L : List Int} {o m : Nat} (h : o + m ≤ L.length) : takeN m ((int64s L).drop o) = some (int64s ((List.range m).map fun j => L.getD (o + j) 0)) := by
  rw [takeN_take m _ (by simp [ints_len]; omega)]
  congr 1
  apply List.ext_getElem?
  intro j
  rw [ints_get]
  by_cases hj : j < m
  · rw [List.getElem?_take_of_lt hj, List.getElem?_drop, ints_get]
    simp [hj, List.getElem?_eq_getElem (show o + j < L.length by omega)]
  · rw [List.getElem?_eq_none (by simp; omega)]
    simp [hj]
theorem sameC_ints : ∀ l : List Int, sameC (int64s l) (l.map Cell.i) = true
  | [] => rfl
  | x :: l => by
    show ((x == x) && sameC (int64s l) (l.map Cell.i)) = true
    rw [sameC_ints l]
    simp
theorem load_ints {L : List Int} {o m : Nat} {cs : List Cell} (h : o + m ≤ L.length) (hc : (List.range m).map (fun j => Cell.i (L.getD (o + j) 0)) = cs) : sameR (takeN m ((int64s L).drop o)) cs = true := by
  rw [take_ints h, ← hc]
  have := sameC_ints ((List.range m).map fun j => L.getD (o + j) 0)
  simpa [sameR, List.map_map, Function.comp_def] using this
theorem load1 {L : List Int} {o i : Nat} (h : o < L.length) (e : o = i) : sameR (takeN 1 ((int64s L).drop o)) [.i (L.getD i 0)] = true := load_ints h (by subst e; rfl)
theorem load2 {L : List Int} {o i j : Nat} (h : o + 1 < L.length) (e : o = i) (e' : o + 1 = j) : sameR (takeN 2 ((int64s L).drop o)) [.i (L.getD i 0), .i (L.getD j 0)] = true := load_ints h (by subst e e'; rfl)
theorem load3 {L : List Int} {o i j k : Nat} (h : o + 2 < L.length) (e : o = i) (e' : o + 1 = j) (e2 : o + 2 = k) : sameR (takeN 3 ((int64s L).drop o)) [.i (L.getD i 0), .i (L.getD j 0), .i (L.getD k 0)] = true := load_ints h (by subst e e' e2; rfl)
theorem load4 {L : List Int} {o i j k l : Nat} (h : o + 3 < L.length) (e : o = i) (e' : o + 1 = j) (e2 : o + 2 = k) (e3 : o + 3 = l) : sameR (takeN 4 ((int64s L).drop o)) [.i (L.getD i 0), .i (L.getD j 0), .i (L.getD k 0), .i (L.getD l 0)] = true := load_ints h (by subst e e' e2 e3; rfl)
theorem load5 {L : List Int} {o i j k l p : Nat} (h : o + 4 < L.length) (e : o = i) (e' : o + 1 = j) (e2 : o + 2 = k) (e3 : o + 3 = l) (e4 : o + 4 = p) : sameR (takeN 5 ((int64s L).drop o)) [.i (L.getD i 0), .i (L.getD j 0), .i (L.getD k 0), .i (L.getD l 0), .i (L.getD p 0)] = true := load_ints h (by subst e e' e2 e3 e4; rfl)
/-- A row with others from a place on. -/
def putI (L : List Int) (o : Nat) (l : List Int) : List Int := L.take o ++ l ++ L.drop (o + l.length)
theorem putN_ints (L l : List Int) (o : Nat) : putN (int64s L) o (int64s l) = int64s (putI L o l) := by
  simp [putN, putI, int64s, List.map_take, List.map_drop]
theorem putI_one (L : List Int) (o : Nat) (v : Int) (h : o < L.length) : putI L o [v] = L.set o v := by
  simp [putI, List.set_eq_take_append_cons_drop, h]
theorem put1 {L : List Int} {o i : Nat} {v : Int} (h : o < L.length) (e : o = i) : o + [Value.int .i64 v].length ≤ (int64s L).length ∧ putN (int64s L) o [.int .i64 v] = int64s (L.set i v) := by
  subst e
  refine ⟨by rw [ints_len]; exact h, ?_⟩
  have := putN_ints L [v] o
  rw [putI_one L o v h] at this
  exact this
theorem puts {L l : List Int} {o i : Nat} (h : o + l.length ≤ L.length) (e : o = i) : o + (int64s l).length ≤ (int64s L).length ∧ putN (int64s L) o (int64s l) = int64s (putI L i l) := by
  subst e
  exact ⟨by rw [ints_len, ints_len]; exact h, putN_ints L l o⟩
theorem put3_get {L : List Int} {o : Nat} {a b c : Int} (h : o + 3 ≤ L.length) : (putI L o [a, b, c]).getD o 0 = a ∧ (putI L o [a, b, c]).getD (o + 1) 0 = b ∧ (putI L o [a, b, c]).getD (o + 2) 0 = c ∧ (putI L o [a, b, c]).length = L.length := by
  have hl : (L.take o).length = o := by simp; omega
  have key : ∀ j, (putI L o [a, b, c]).getD (o + j) 0 = ([a, b, c] ++ L.drop (o + 3)).getD j 0 := fun j => by
    rw [List.getD_eq_getElem?_getD, List.getD_eq_getElem?_getD]
    unfold putI
    rw [List.append_assoc, List.getElem?_append_right (by omega), hl, Nat.add_sub_cancel_left]
    rfl
  refine ⟨key 0, key 1, key 2, ?_⟩
  simp [putI]
  omega
theorem set_get {L : List Int} {i : Nat} {v : Int} (h : i < L.length) : (L.set i v).getD i 0 = v ∧ (L.set i v).length = L.length := by simp [h]
/-- What is left of a number, by one that is not known. -/
def umod (a b : Int) : Int := a % b
theorem umod_lt (a b : Int) (h : 0 < b) : 0 ≤ umod a b ∧ umod a b < b := ⟨Int.emod_nonneg _ (by omega), Int.emod_lt_of_pos _ h⟩
theorem tmod_umod {a b : Int} (ha : 0 ≤ a) : Int.tmod a b = umod a b := Int.tmod_eq_emod_of_nonneg ha
theorem wrapu_le (x : Int) : 0 ≤ IntKind.u64.wrap x ∧ IntKind.u64.wrap x ≤ 18446744073709551615 := by
  have e : IntKind.u64.wrap x = x % 18446744073709551616 := by simp [IntKind.wrap, IntKind.bits, IntKind.signed]
  rw [e]; omega
/-- What is left of a number, by a count: a count below it. -/
theorem rem_count (x : Int) {n : Nat} (h : 0 < n) : ∃ k : Nat, Int.tmod (IntKind.u64.wrap x) (n : Int) = (k : Int) ∧ k < n := by
  have h1 := wrapu_le x
  have h2 := umod_lt (IntKind.u64.wrap x) (n : Int) (by omega)
  exact ⟨(umod (IntKind.u64.wrap x) (n : Int)).toNat, by rw [tmod_umod h1.1]; omega, by omega⟩
/-- An atomic number: read, written. -/
theorem at_load {L : List Int} {o i : Nat} (h : o < L.length) (e : o = i) : takeN 1 ((int64s L).drop o) = some [.int .i64 (L.getD i 0)] := by
  subst e
  rw [take_ints h]
  rfl
theorem at_put {L : List Int} {o i : Nat} {v : Int} (h : o < L.length) (e : o = i) : o + 1 ≤ (int64s L).length ∧ putN (int64s L) o [.int .i64 v] = int64s (L.set i v) := put1 h e
theorem at_upd {L : List Int} {o i : Nat} {v : Int} (h : o < L.length) (e : o = i) : takeN 1 ((int64s L).drop o) = some [.int .i64 (L.getD i 0)] ∧ o + 1 ≤ (int64s L).length ∧ putN (int64s L) o [.int .i64 v] = int64s (L.set i v) := ⟨at_load h e, put1 h e⟩
/-- What is appended: some numbers, or another row. -/
theorem src_ints {L : List Int} {n size : Nat} (h : n * size = L.length) {l : List Int} (hl : L = l) : takeN (n * size) ((int64s L).drop 0) = some (int64s l) ∧ allB cell1 (int64s l) = true := by
  subst hl
  refine ⟨?_, cell1_ints L⟩
  rw [takeN_take _ _ (by simp [ints_len, h])]
  congr 1
  rw [List.drop_zero, List.take_of_length_le (by rw [ints_len]; omega)]
theorem app_ints {L l R : List Int} {n size : Nat} (h : n * size = L.length) (hR : L ++ l = R) : (int64s L).take (n * size) ++ int64s l = int64s R := by
  subst hR
  rw [ints_app, List.take_of_length_le (by rw [ints_len]; omega)]
theorem and_one (n : Int) : IntKind.i64.wrap (((BitVec.ofInt IntKind.i64.bits n &&& BitVec.ofInt IntKind.i64.bits 1).toNat : Nat) : Int) = n % 2 := by
  have hb : IntKind.i64.bits = 64 := rfl
  have e1 : (BitVec.ofInt 64 n &&& BitVec.ofInt 64 1).toNat = (BitVec.ofInt 64 n).toNat % 2 := by
    rw [BitVec.toNat_and]
    have : (BitVec.ofInt 64 1).toNat = 1 := by decide
    rw [this, Nat.and_one_is_mod]
  have e2 : ((BitVec.ofInt 64 n).toNat : Int) = n % 18446744073709551616 := by
    rw [BitVec.toNat_ofInt]
    omega
  show IntKind.i64.wrap (((BitVec.ofInt 64 n &&& BitVec.ofInt 64 1).toNat : Nat) : Int) = n % 2
  rw [e1, wrap64 (by omega)]
  omega
theorem tmod_pos {a b : Int} (h : 0 ≤ a) : Int.tmod a b = a % b := Int.tmod_eq_emod_of_nonneg h
theorem tdiv_pos {a b : Int} (h : 0 ≤ a) : Int.tdiv a b = a / b := Int.tdiv_eq_ediv_of_nonneg h
theorem wrap_i64 {x : Int} (h : -9223372036854775808 ≤ x ∧ x ≤ 9223372036854775807) : IntKind.i64.wrap x = x := wrap64 (by omega)
theorem wrap_i8 {x : Int} (h : -128 ≤ x ∧ x ≤ 127) : IntKind.i8.wrap x = x := by
  have e : IntKind.i8.wrap x = if 128 ≤ x % 256 then x % 256 - 256 else x % 256 := by
    simp [IntKind.wrap, IntKind.bits, IntKind.signed]
  rw [e]; split <;> omega
theorem wrap_u8 {x : Int} (h : 0 ≤ x ∧ x ≤ 255) : IntKind.u8.wrap x = x := by
  have e : IntKind.u8.wrap x = x % 256 := by simp [IntKind.wrap, IntKind.bits, IntKind.signed]
  rw [e]; omega
theorem wrap_u16 {x : Int} (h : 0 ≤ x ∧ x ≤ 65535) : IntKind.u16.wrap x = x := by
  have e : IntKind.u16.wrap x = x % 65536 := by simp [IntKind.wrap, IntKind.bits, IntKind.signed]
  rw [e]; omega
theorem wrap_u32 {x : Int} (h : 0 ≤ x ∧ x ≤ 4294967295) : IntKind.u32.wrap x = x := by
  have e : IntKind.u32.wrap x = x % 4294967296 := by simp [IntKind.wrap, IntKind.bits, IntKind.signed]
  rw [e]; omega
theorem wrap_u64 {x : Int} (h : 0 ≤ x ∧ x ≤ 18446744073709551615) : IntKind.u64.wrap x = x := by
  have e : IntKind.u64.wrap x = x % 18446744073709551616 := by simp [IntKind.wrap, IntKind.bits, IntKind.signed]
  rw [e]; omega
theorem slice_eq {k o o' n n' c c' : Nat} (h1 : o = o') (h2 : n = n') (h3 : c = c') : Value.slice (some ⟨k, o, none⟩) n c = .slice (some ⟨k, o', none⟩) n' c' := by rw [h1, h2, h3]
theorem ptr_eq {k o o' : Nat} (h : o = o') : Value.pointer (some ⟨k, o, none⟩) = .pointer (some ⟨k, o', none⟩) := by rw [h]
theorem cons_eq {α : Type} {a b : α} {l r : List α} (h : a = b) (t : l = r) : a :: l = b :: r := by rw [h, t]
theorem agg_eq {l r : List Value} (h : l = r) : Value.agg l.toArray = .agg r.toArray := by rw [h]
theorem tuple_eq {l r : List Value} (h : l = r) : Value.tuple l.toArray = .tuple r.toArray := by rw [h]
theorem rep_zero1 (n : Nat) : rep [Value.int .i64 0] (n * 1) = int64s (List.replicate n 0) := by
  simp only [rep, int64s, Nat.mul_one, List.map_replicate]
  apply List.ext_getElem?
  intro j
  by_cases hj : j < n <;> simp [hj, Nat.mod_one]
/-! ### Rows of bools -/
def boolsV (l : List Bool) : List Value := l.map Value.bool
theorem bools_len (l : List Bool) : (boolsV l).length = l.length := by simp [boolsV]
theorem ren_bools (ρ : Nat → Nat) (d : Nat) (l : List Bool) : (boolsV l).map (renV ρ d) = boolsV l := by
  simp only [boolsV, List.map_map]
  congr 1
  funext n
  exact renV_atom d rfl
theorem shallow_bools (d : Nat) : ∀ l : List Bool, allB (shallow d) (boolsV l) = true
  | [] => rfl
  | x :: l => by
    show (shallow d (.bool x) && allB (shallow d) (boolsV l)) = true
    rw [shallow_bools d l]
    cases d <;> rfl
theorem under_bools (m d : Nat) : ∀ l : List Bool, allB (under m d) (boolsV l) = true
  | [] => rfl
  | x :: l => by
    show (under m d (.bool x) && allB (under m d) (boolsV l)) = true
    rw [under_bools m d l]
    cases d <;> rfl
theorem same_bools (ρ : Nat → Nat) (l : List Bool) (t : TypeId) : sameRen ρ (.cells (boolsV l) t) (.cells (boolsV l) t) := ⟨rfl, ⟨[], by rw [ren_bools, List.append_nil]⟩, shallow_bools 1 l⟩
theorem same_bools' (ρ : Nat → Nat) {l l' : List Bool} (t : TypeId) (h : l = l') : sameRen ρ (.cells (boolsV l) t) (.cells (boolsV l') t) := h ▸ same_bools ρ l t
theorem loadb1 {L : List Bool} {o i : Nat} (h : o < L.length) (e : o = i) : sameR (takeN 1 ((boolsV L).drop o)) [.b (L.getD i false)] = true := by
  subst e
  have hd : (boolsV L).drop o = .bool L[o] :: (boolsV L).drop (o + 1) := by
    rw [List.drop_eq_getElem_cons (by rw [bools_len]; exact h)]
    simp [boolsV]
  rw [hd]
  simp [takeN, sameR, sameC, h]
theorem putb1 {L : List Bool} {o i : Nat} {v : Bool} (h : o < L.length) (e : o = i) : o + [Value.bool v].length ≤ (boolsV L).length ∧ putN (boolsV L) o [.bool v] = boolsV (L.set i v) := by
  subst e
  refine ⟨by rw [bools_len]; exact h, ?_⟩
  simp [putN, boolsV, List.set_eq_take_append_cons_drop, h, List.map_take, List.map_drop]
theorem renO_bools (ρ : Nat → Nat) (L : List Bool) (t : TypeId) : AObj.cells (boolsV L) t = renO ρ (.cells (boolsV L) t) := by
  show _ = AObj.cells ((boolsV L).map (renV ρ 1)) t
  rw [ren_bools]
/-! ### Rows of the caller's -/
/-- What is told of a row of the caller's that begins at o. -/
def RowOK (O : Obj) (o : Nat) (l : List Cell) : Prop := ∀ f m, f + m ≤ l.length → sameR (roRow O (o + f) m) ((l.drop f).take m) = true
theorem sameC_cons {x : Value} {b : Cell} {c : List Value} {l : List Cell} (h : sameC [x] [b] = true) (t : sameC c l = true) : sameC (x :: c) (b :: l) = true := by
  cases x <;> cases b <;> first | (rename_i k _ _; cases k <;> simp_all [sameC]) | simp_all [sameC]
theorem takeN_of {α : Type} {m : Nat} {l r : List α} (h : takeN m l = some r) : m ≤ l.length ∧ r = l.take m := by
  obtain ⟨h1, h2⟩ := takeN_spec h
  exact ⟨h2, h1⟩
/-- A row whose cells are told one by one. -/
theorem row_ok {C : Array Value} {t : TypeId} {fr : Nat × Nat} {o : Nat} : ∀ {l : List Cell}, (∀ (j : Nat) (b : Cell), l[j]? = some b → ∃ x, C[o + j]? = some x ∧ sameC [x] [b] = true) → RowOK (.cells C t fr) o l := by
  intro l h f m hfm
  show sameR (takeN m (C.toList.drop (o + f))) _ = true
  have key : ∀ (m f : Nat), f + m ≤ l.length → sameR (takeN m (C.toList.drop (o + f))) ((l.drop f).take m) = true := by
    intro m
    induction m with
    | zero => intro f _; simp [takeN, sameR, sameC]
    | succ m ih =>
      intro f hf
      obtain ⟨x, hx, hs⟩ := h f l[f] (List.getElem?_eq_getElem (by omega))
      have hlt : o + f < C.toList.length := by
        have := (Array.getElem?_eq_some_iff.1 hx).1
        simpa using this
      have hx' : C.toList[o + f] = x := by
        have := Array.getElem?_eq_some_iff.1 hx
        obtain ⟨h1, h2⟩ := this
        simpa using h2
      rw [List.drop_eq_getElem_cons hlt, hx', List.drop_eq_getElem_cons (show f < l.length by omega), List.take_succ_cons]
      have r := ih (f + 1) (by omega)
      rw [show o + (f + 1) = o + f + 1 by omega] at r
      simp only [takeN]
      cases ht : takeN m (C.toList.drop (o + f + 1)) with
      | none => rw [ht] at r; simp [sameR] at r
      | some c =>
        rw [ht] at r
        exact sameC_cons hs r
  exact key m f hfm
end Ev
end Go.Proofs.YtldlnclkdgfahaaGreat
