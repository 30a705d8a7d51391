/- Part 6. -/
import Derived.Test.YtlbbiflodemagaaDoorZae
import Derived.Test.YtlbbiflodemagaaDoorZad
import Derived.Test.YtlbbiflodemagaaDoorZac
set_option linter.unusedSimpArgs false
set_option linter.unusedVariables false
/- Calls do what the plain functions say. -/
namespace Go.Proofs.YtlbbiflodemagaaDoor
open Go.RowKit
namespace Ev
set_option linter.unusedVariables false
set_option maxRecDepth 100000
noncomputable abbrev κdA := [(0, true), (1, true), (3, false), (4, false), (5, true)]
noncomputable abbrev κdi (v1 : List Int) := (((bAt (Zz (10 : Int) v1) 0) == (58 : Int)), false)
noncomputable abbrev κdh (v2 : Int) := (Value.agg #[vi (IntKind.i64.wrap (v2 + (1 : Int)))])
noncomputable abbrev κdb := [(0, true), (1, true), (3, false), (4, false), (5, false)]
noncomputable abbrev κcB (v6 : List (List Int)) := (dS (Zg Zag v6), true)
noncomputable abbrev κcA (v5 : List R_is) := (dS (Zg ZM v5), true)
noncomputable abbrev κcy (v1 : List Int) := #[vp 0 0, Value.string (Zb ((Zz (10 : Int) v1).drop 1))]
noncomputable abbrev κcv (v3 : List RA) := (dS (Zg E_iiii v3), true)
noncomputable abbrev κcf (v4 : List Int) (v2 : Int) := (AObj.cells (Zg eI (v4 ++ ([(IntKind.i64.wrap (v2 + (1 : Int)))] : List Int))) 3)
noncomputable abbrev κbv (v1 : List Int) := (Zb (Zap (10 : Int) v1))
noncomputable abbrev κp (v1 : List Int) (v2 : Int) (v3 : List RA) (v4 : List Int) (v5 : List R_is) (v6 : List (List Int)) := [Value.string (κbv v1), vi (IntKind.i64.wrap (v2 + (1 : Int))), vs 2 0 v3.length v3.length, vs 3 0 v4.length v4.length, vs 4 0 v5.length v5.length, vs 5 0 v6.length v6.length, Value.map (some 1)]
set_option maxHeartbeats 4000000 in
theorem Zk8 (L0 : List Int) (a1 : Int) (L2 v0 : List R_si) (v1 : List Int) (v2 : Int) (v3 : List RA) (v4 : List Int) (v5 : List R_is) (v6 : List (List Int)) (N : Nat) : (ZaL L0 a1 L2 N).Ok Tryd.prog ZG (.h1m0 v0 v1 v2 v3 v4 v5 v6 : ZF) (Zaw L0 a1 L2 N (.h1m0 v0 v1 v2 v3 v4 v5 v6 : ZF)) := by
 show (ZaL L0 a1 L2 N).Ok Tryd.prog ZG (.h1m0 v0 v1 v2 v3 v4 v5 v6 : ZF) (Za2 L0 a1 L2 N v0 v1 v2 v3 v4 v5 v6)
 unfold Za2
 refine Mach.ok_ite (fun g0 => ?_) (fun g0 => ?_)
 ·
  have w1 : OkL (Zia L0 a1 L2 v0 v1 v2 v3 v4 v5 v6) :=
   Za (Zyw (x := v1) (y := ([] : List Int)) (by assumption)) <| Z6
  refine Mach.ok_ite (fun g1 => ?_) (fun _ => Mach.ok_none)
  refine Mach.ok_ite (fun g2 => ?_) (fun _ => Mach.ok_none)
  have w3 : OkL (ZdN L0 a1 L2 v0 v1 v2 v3 v4 v5 v6) :=
   Za (Zj ⟨rfl, by assumption, ltA⟩) <| w1
  refine Mach.ok_ite (fun g3 => ?_) (fun g3 => ?_)
  ·
   refine Mach.ok_ite (fun g4 => ?_) (fun g4 => ?_)
   ·
    exact Mach.oN (orc := (Zp [(0, true), (1, true), (3, true)] [] [] [] [(1, .bs v1)])) (live := [0, 1, 2, 3, 4, 5]) (tv := fun _ => [some (vp 0 0)]) (bl := [some (.cells (κp v1 v2 v3 v4 v5 v6) 57), some (.ro (Zm v0) true), some (κcN v3), some (κcI v4), some (κb9 v5), some (κce v6)]) (ob := ((((κbD v1).toList == (⟨#[]⟩ : ByteArray).toList), true) :: ((ZaT (10 : Int) v1), true) :: ZdN L0 a1 L2 v0 v1 v2 v3 v4 v5 v6)) (Za (Zbw (x := (Zz (10 : Int) v1)) (y := ([] : List Int)) (by assumption)) <| Za (by assumption) <| w3) (fun _ => ⟨rr, trivial⟩) ⟨sm, ⟨(show Zm v0 = Zm v0 from rfl), ⟨(Zl (E := E_iiii) _ v3 _), ⟨(Zl (E := eI) _ v4 _), ⟨(Zl (E := ZM) _ v5 _), ⟨(Zl (E := Zag) _ v6 _), trivial⟩⟩⟩⟩⟩⟩
   ·
    have w5 : OkL (Zib L0 a1 L2 v0 v1 v2 v3 v4 v5 v6) :=
     Za (ZaW (x := (Zz (10 : Int) v1)) (y := ([] : List Int)) (by assumption)) <| Za (by assumption) <| w3
    refine Mach.ok_ite (fun g5 => ?_) (fun _ => Mach.ok_none)
    have w6 : OkL (Zf8 L0 a1 L2 v0 v1 v2 v3 v4 v5 v6) :=
     Za (Zj (ZlX (M := (Zz (10 : Int) v1)) (i := 0) rfl (by first | rfl | exact Zgc (by omega)) (by (try simp only [ZH] at *); first | omega | (simp only [List.length_set, List.length_append, List.length_cons, List.length_nil, List.length_replicate, List.length_take, List.length_drop] at * <;> omega)))) <| w5
    refine Mach.ok_ite (fun g6 => ?_) (fun g6 => ?_)
    ·
     exact Mach.oN (orc := (Zp [(0, true), (1, true), (3, false), (4, true)] [] [] [] [(1, .bs v1), (3, .bs [(bAt (Zz (10 : Int) v1) 0)])])) (live := [0, 1, 2, 3, 4, 5]) (tv := fun _ => [some (vp 0 0)]) (bl := [some (.cells (κp v1 v2 v3 v4 v5 v6) 57), some (.ro (Zm v0) true), some (κcN v3), some (κcI v4), some (κb9 v5), some (κce v6)]) (ob := ((((bAt (Zz (10 : Int) v1) 0) == (35 : Int)), true) :: Zf8 L0 a1 L2 v0 v1 v2 v3 v4 v5 v6)) (oT <| w6) (fun _ => ⟨rr, trivial⟩) ⟨sm, ⟨(show Zm v0 = Zm v0 from rfl), ⟨(Zl (E := E_iiii) _ v3 _), ⟨(Zl (E := eI) _ v4 _), ⟨(Zl (E := ZM) _ v5 _), ⟨(Zl (E := Zag) _ v6 _), trivial⟩⟩⟩⟩⟩⟩
    ·
     have w7 : OkL (ZcA L0 a1 L2 v0 v1 v2 v3 v4 v5 v6) :=
      Za (Zj (ZlX (M := (Zz (10 : Int) v1)) (i := 0) rfl (by first | rfl | exact Zgc (by omega)) (by (try simp only [ZH] at *); first | omega | (simp only [List.length_set, List.length_append, List.length_cons, List.length_nil, List.length_replicate, List.length_take, List.length_drop] at * <;> omega)))) <| oF <| w6
     refine Mach.ok_ite (fun g7 => ?_) (fun g7 => ?_)
     ·
      have w8 : OkL (Zf9 L0 a1 L2 v0 v1 v2 v3 v4 v5 v6) :=
       Za (Zj (ZwM (M := (Zz (10 : Int) v1)) (R := ((Zz (10 : Int) v1).drop 1)) rfl (by (try simp only [ZH] at *); omega) (by (try simp only [ZH] at *); first | omega | (simp only [List.length_set, List.length_append, List.length_cons, List.length_nil, List.length_replicate, List.length_take, List.length_drop] at * <;> omega)) (by first | rfl | simp))) <| oT <| w7
      refine Mach.ok_bind (fun z8 c8 => ?_)
      cases z8 with
      | r0 =>
       exact Mach.ok_thr (M := ZaL L0 a1 L2 N) (cd := 1000000) (cm := 0) (r := (.r0 ((IntKind.i64.wrap (v2 + (1 : Int)))) : ZE)) (fu := 4000) (orc := (Zp κdA [] [] [] [(1, .bs v1), (3, .bs [(bAt (Zz (10 : Int) v1) 0)]), (4, .bs [(bAt (Zz (10 : Int) v1) 0)]), (5, .bs ((Zz (10 : Int) v1).drop 1)), (6, (ZmB (((Zz (10 : Int) v1).drop 1)) ((Zap (10 : Int) v1)) ((IntKind.i64.wrap (v2 + (1 : Int)))) (v3) (v4) (v5) (v6) (v0)   0 2 3 4 5 1 6))])) (u := Value.iface 88 (κdh v2)) (ob := ((dP (Zin (κcy v1) (((Zz (10 : Int) v1).drop 1)) ((Zap (10 : Int) v1)) ((IntKind.i64.wrap (v2 + (1 : Int)))) (v3) (v4) (v5) (v6) (v0)   0 2 3 4 5 1 6), true) :: (dS (κp v1 v2 v3 v4 v5 v6), true) :: (κcv v3) :: (dS (Zg eI v4), true) :: (κcA v5) :: (κcB v6) :: (dS (Zm v0), true) :: Zf9 L0 a1 L2 v0 v1 v2 v3 v4 v5 v6)) (fun gv => by as_aux_lemma => kernel_rfl) (Za (Zj (ZmC (κcy v1) (((Zz (10 : Int) v1).drop 1)) ((Zap (10 : Int) v1)) ((IntKind.i64.wrap (v2 + (1 : Int)))) (v3) (v4) (v5) (v6) (v0)   N c8 0 2 3 4 5 1 6 rfl dcd dcd)) <| oR <| oR <| oR <| oR <| oR <| oR <| w8) rfl (by rfl) (by rfl)
      | r1 =>
       exact Mach.oW [some (.cells [Value.string (κbv v1), vi (IntKind.i64.wrap (v2 + (1 : Int))), vs 2 0 v3.length v3.length, vs 3 0 v4.length v4.length, vs 4 0 v5.length v5.length, vs 5 0 (v6 ++ ([((Zz (10 : Int) v1).drop 1)] : List (List Int))).length (v6 ++ ([((Zz (10 : Int) v1).drop 1)] : List (List Int))).length, Value.map (some 1)] 57), some (.ro (Zm (ZaS v0 ((Zz (10 : Int) v1).drop 1) (v3.length : Int))) true), some (κcN v3), some (κcI v4), some (κb9 v5), some (.cells (Zg Zag (v6 ++ ([((Zz (10 : Int) v1).drop 1)] : List (List Int)))) 9)] [] 0 ⟨(.inl rfl), ⟨(.inl rfl), ⟨(.inl rfl), ⟨(.inl rfl), ⟨(.inl rfl), ⟨(Zpc (E := Zag) (L := (v6 ++ ([((Zz (10 : Int) v1).drop 1)] : List (List Int)))) ltA (by decide)), trivial⟩⟩⟩⟩⟩⟩ (orc := (Zp κdA [] [] [] [(1, .bs v1), (3, .bs [(bAt (Zz (10 : Int) v1) 0)]), (4, .bs [(bAt (Zz (10 : Int) v1) 0)]), (5, .bs ((Zz (10 : Int) v1).drop 1)), (6, (ZmD (((Zz (10 : Int) v1).drop 1)) ((Zap (10 : Int) v1)) ((IntKind.i64.wrap (v2 + (1 : Int)))) (v3) (v4) (v5) (v6) (v0)   0 2 3 4 5 1 6))])) (live := [0, 1, 2, 3, 4, 6]) (tv := fun _ => [some (vp 0 0)]) (bl := [some (.cells [Value.string (κbv v1), vi (IntKind.i64.wrap (v2 + (1 : Int))), vs 2 0 v3.length v3.length, vs 3 0 v4.length v4.length, vs 4 0 v5.length v5.length, vs 6 0 (v6.length + 1) (v6.length + 1), Value.map (some 1)] 57), some (.ro (Zm (ZaS v0 ((Zz (10 : Int) v1).drop 1) (v3.length : Int))) true), some (κcN v3), some (κcI v4), some (κb9 v5), some (.cells (Zg Zag (v6 ++ ([((Zz (10 : Int) v1).drop 1)] : List (List Int)))) 9)]) (ob := ((dP (Zio (κcy v1) (((Zz (10 : Int) v1).drop 1)) ((Zap (10 : Int) v1)) ((IntKind.i64.wrap (v2 + (1 : Int)))) (v3) (v4) (v5) (v6) (v0)   0 2 3 4 5 1 6), true) :: (dS (κp v1 v2 v3 v4 v5 v6), true) :: (κcv v3) :: (dS (Zg eI v4), true) :: (κcA v5) :: (κcB v6) :: (dS (Zm v0), true) :: Zf9 L0 a1 L2 v0 v1 v2 v3 v4 v5 v6)) (Za (Zj (ZmE (κcy v1) (((Zz (10 : Int) v1).drop 1)) ((Zap (10 : Int) v1)) ((IntKind.i64.wrap (v2 + (1 : Int)))) (v3) (v4) (v5) (v6) (v0)   N c8 0 2 3 4 5 1 6 rfl dcd dcd)) <| oR <| oR <| oR <| oR <| oR <| oR <| w8) (fun _ => ⟨rr, trivial⟩) ⟨⟨rfl, ⟨[], (show ([Value.string (κbv v1), vi (IntKind.i64.wrap (v2 + (1 : Int))), vs 2 0 v3.length v3.length, vs 3 0 v4.length v4.length, vs 4 0 v5.length v5.length, vs 5 0 (v6.length + 1) (v6.length + 1), Value.map (some 1)] : List Value) = _ from (Zh rfl (Zh rfl (Zh rfl (Zh rfl (Zh rfl (Zh (ZC rfl eqA eqA) (Zh rfl rfl))))))).symm)⟩, by rfl⟩, ⟨(show Zm (ZaS v0 ((Zz (10 : Int) v1).drop 1) (v3.length : Int)) = Zm (ZaS v0 ((Zz (10 : Int) v1).drop 1) (v3.length : Int)) from rfl), ⟨(Zl (E := E_iiii) _ v3 _), ⟨(Zl (E := eI) _ v4 _), ⟨(Zl (E := ZM) _ v5 _), ⟨(Zx (E := Zag) _ (v6 ++ ([((Zz (10 : Int) v1).drop 1)] : List (List Int))) _), trivial⟩⟩⟩⟩⟩⟩
     ·
      refine Mach.ok_bind (fun z8 c8 => ?_)
      cases z8 with
      | r0 =>
       exact Mach.ok_thr (M := ZaL L0 a1 L2 N) (cd := 1000000) (cm := 0) (r := (.r0 ((IntKind.i64.wrap (v2 + (1 : Int)))) : ZE)) (fu := 4000) (orc := (Zp κdb [] [] [] [(1, .bs v1), (3, .bs [(bAt (Zz (10 : Int) v1) 0)]), (4, .bs [(bAt (Zz (10 : Int) v1) 0)]), (5, (Zjf ((Zz (10 : Int) v1)) ((Zap (10 : Int) v1)) ((IntKind.i64.wrap (v2 + (1 : Int)))) (v3) (v4) (v5) (v6) (v0)   0 2 3 4 5 1 6))])) (u := Value.iface 88 (κdh v2)) (ob := ((dP (Zfu #[vp 0 0, Value.string (κbD v1)] ((Zz (10 : Int) v1)) ((Zap (10 : Int) v1)) ((IntKind.i64.wrap (v2 + (1 : Int)))) (v3) (v4) (v5) (v6) (v0)   0 2 3 4 5 1 6), true) :: (dS (κp v1 v2 v3 v4 v5 v6), true) :: (κcv v3) :: (dS (Zg eI v4), true) :: (κcA v5) :: (κcB v6) :: (dS (Zm v0), true) :: (κdi v1) :: ZcA L0 a1 L2 v0 v1 v2 v3 v4 v5 v6)) (fun gv => by as_aux_lemma => kernel_rfl) (Za (Zj (Zjg #[vp 0 0, Value.string (κbD v1)] ((Zz (10 : Int) v1)) ((Zap (10 : Int) v1)) ((IntKind.i64.wrap (v2 + (1 : Int)))) (v3) (v4) (v5) (v6) (v0)   N c8 0 2 3 4 5 1 6 rfl dcd dcd)) <| oR <| oR <| oR <| oR <| oR <| oR <| oF <| w7) rfl (by rfl) (by rfl)
      | r1 y8_0 =>
       refine Mach.ok_ite (fun g9 => ?_) (fun _ => Mach.ok_none)
       exact Mach.oW [some (.cells [Value.string (κbv v1), vi (IntKind.i64.wrap (v2 + (1 : Int))), vs 2 0 y8_0.length y8_0.length, vs 3 0 (v4 ++ ([(IntKind.i64.wrap (v2 + (1 : Int)))] : List Int)).length (v4 ++ ([(IntKind.i64.wrap (v2 + (1 : Int)))] : List Int)).length, vs 4 0 v5.length v5.length, vs 5 0 v6.length v6.length, Value.map (some 1)] 57), some (.ro (Zm v0) true), some (.cells (Zg E_iiii y8_0) 24), some (κcf v4 v2), some (κb9 v5), some (κce v6)] [] 0 ⟨(.inl rfl), ⟨(.inl rfl), ⟨(Zpc (E := E_iiii) (L := y8_0) ltA (by decide)), ⟨(Zpc (E := eI) (L := (v4 ++ ([(IntKind.i64.wrap (v2 + (1 : Int)))] : List Int))) ltA (by decide)), ⟨(.inl rfl), ⟨(.inl rfl), trivial⟩⟩⟩⟩⟩⟩ (orc := (Zp κdb [] [] [] [(1, .bs v1), (3, .bs [(bAt (Zz (10 : Int) v1) 0)]), (4, .bs [(bAt (Zz (10 : Int) v1) 0)]), (5, (Zjh ((Zz (10 : Int) v1)) ((Zap (10 : Int) v1)) ((IntKind.i64.wrap (v2 + (1 : Int)))) (v3) (v4) (v5) (v6) (v0)  y8_0 0 2 3 4 5 1 6))])) (live := [0, 1, 6, 7, 4, 5]) (tv := fun _ => [some (vp 0 0)]) (bl := [some (.cells [Value.string (κbv v1), vi (IntKind.i64.wrap (v2 + (1 : Int))), vs 6 0 y8_0.length y8_0.length, vs 7 0 (v4.length + 1) (v4.length + 1), vs 4 0 v5.length v5.length, vs 5 0 v6.length v6.length, Value.map (some 1)] 57), some (.ro (Zm v0) true), some (.cells (Zg E_iiii y8_0) 24), some (κcf v4 v2), some (κb9 v5), some (κce v6)]) (ob := ((dP (Zfv #[vp 0 0, Value.string (κbD v1)] ((Zz (10 : Int) v1)) ((Zap (10 : Int) v1)) ((IntKind.i64.wrap (v2 + (1 : Int)))) (v3) (v4) (v5) (v6) (v0)  y8_0 0 2 3 4 5 1 6), true) :: (dS (κp v1 v2 v3 v4 v5 v6), true) :: (κcv v3) :: (dS (Zg eI v4), true) :: (κcA v5) :: (κcB v6) :: (dS (Zm v0), true) :: (κdi v1) :: ZcA L0 a1 L2 v0 v1 v2 v3 v4 v5 v6)) (Za (Zj (Zji #[vp 0 0, Value.string (κbD v1)] ((Zz (10 : Int) v1)) ((Zap (10 : Int) v1)) ((IntKind.i64.wrap (v2 + (1 : Int)))) (v3) (v4) (v5) (v6) (v0)  y8_0 N c8 0 2 3 4 5 1 6 rfl dcd dcd)) <| oR <| oR <| oR <| oR <| oR <| oR <| oF <| w7) (fun _ => ⟨rr, trivial⟩) ⟨⟨rfl, ⟨[], (show ([Value.string (κbv v1), vi (IntKind.i64.wrap (v2 + (1 : Int))), vs 2 0 y8_0.length y8_0.length, vs 3 0 (v4.length + 1) (v4.length + 1), vs 4 0 v5.length v5.length, vs 5 0 v6.length v6.length, Value.map (some 1)] : List Value) = _ from (Zh rfl (Zh rfl (Zh rfl (Zh (ZC rfl eqA eqA) (Zh rfl (Zh rfl (Zh rfl rfl))))))).symm)⟩, by rfl⟩, ⟨(show Zm v0 = Zm v0 from rfl), ⟨(Zx (E := E_iiii) _ y8_0 _), ⟨(Zx (E := eI) _ (v4 ++ ([(IntKind.i64.wrap (v2 + (1 : Int)))] : List Int)) _), ⟨(Zl (E := ZM) _ v5 _), ⟨(Zl (E := Zag) _ v6 _), trivial⟩⟩⟩⟩⟩⟩
      | r2 y8_0 y8_1 =>
       refine Mach.ok_ite (fun g9 => ?_) (fun _ => Mach.ok_none)
       refine Mach.ok_ite (fun g10 => ?_) (fun _ => Mach.ok_none)
       exact Mach.oW [some (.cells [Value.string (κbv v1), vi (IntKind.i64.wrap (v2 + (1 : Int))), vs 2 0 y8_0.length y8_0.length, vs 3 0 (v4 ++ ([(IntKind.i64.wrap (v2 + (1 : Int)))] : List Int)).length (v4 ++ ([(IntKind.i64.wrap (v2 + (1 : Int)))] : List Int)).length, vs 4 0 y8_1.length y8_1.length, vs 5 0 v6.length v6.length, Value.map (some 1)] 57), some (.ro (Zm v0) true), some (.cells (Zg E_iiii y8_0) 24), some (κcf v4 v2), some (.cells (Zg ZM y8_1) 122), some (κce v6)] [] 0 ⟨(.inl rfl), ⟨(.inl rfl), ⟨(Zpc (E := E_iiii) (L := y8_0) ltA (by decide)), ⟨(Zpc (E := eI) (L := (v4 ++ ([(IntKind.i64.wrap (v2 + (1 : Int)))] : List Int))) ltA (by decide)), ⟨(Zpc (E := ZM) (L := y8_1) ltA (by decide)), ⟨(.inl rfl), trivial⟩⟩⟩⟩⟩⟩ (orc := (Zp κdb [] [] [] [(1, .bs v1), (3, .bs [(bAt (Zz (10 : Int) v1) 0)]), (4, .bs [(bAt (Zz (10 : Int) v1) 0)]), (5, (Zjj ((Zz (10 : Int) v1)) ((Zap (10 : Int) v1)) ((IntKind.i64.wrap (v2 + (1 : Int)))) (v3) (v4) (v5) (v6) (v0)  y8_0 y8_1 0 2 3 4 5 1 6))])) (live := [0, 1, 6, 7, 8, 5]) (tv := fun _ => [some (vp 0 0)]) (bl := [some (.cells [Value.string (κbv v1), vi (IntKind.i64.wrap (v2 + (1 : Int))), vs 6 0 y8_0.length y8_0.length, vs 7 0 (v4.length + 1) (v4.length + 1), vs 8 0 y8_1.length y8_1.length, vs 5 0 v6.length v6.length, Value.map (some 1)] 57), some (.ro (Zm v0) true), some (.cells (Zg E_iiii y8_0) 24), some (κcf v4 v2), some (.cells (Zg ZM y8_1) 122), some (κce v6)]) (ob := ((dP (Zfw #[vp 0 0, Value.string (κbD v1)] ((Zz (10 : Int) v1)) ((Zap (10 : Int) v1)) ((IntKind.i64.wrap (v2 + (1 : Int)))) (v3) (v4) (v5) (v6) (v0)  y8_0 y8_1 0 2 3 4 5 1 6), true) :: (dS (κp v1 v2 v3 v4 v5 v6), true) :: (κcv v3) :: (dS (Zg eI v4), true) :: (κcA v5) :: (κcB v6) :: (dS (Zm v0), true) :: (κdi v1) :: ZcA L0 a1 L2 v0 v1 v2 v3 v4 v5 v6)) (Za (Zj (Zjk #[vp 0 0, Value.string (κbD v1)] ((Zz (10 : Int) v1)) ((Zap (10 : Int) v1)) ((IntKind.i64.wrap (v2 + (1 : Int)))) (v3) (v4) (v5) (v6) (v0)  y8_0 y8_1 N c8 0 2 3 4 5 1 6 rfl dcd dcd)) <| oR <| oR <| oR <| oR <| oR <| oR <| oF <| w7) (fun _ => ⟨rr, trivial⟩) ⟨⟨rfl, ⟨[], (show ([Value.string (κbv v1), vi (IntKind.i64.wrap (v2 + (1 : Int))), vs 2 0 y8_0.length y8_0.length, vs 3 0 (v4.length + 1) (v4.length + 1), vs 4 0 y8_1.length y8_1.length, vs 5 0 v6.length v6.length, Value.map (some 1)] : List Value) = _ from (Zh rfl (Zh rfl (Zh rfl (Zh (ZC rfl eqA eqA) (Zh rfl (Zh rfl (Zh rfl rfl))))))).symm)⟩, by rfl⟩, ⟨(show Zm v0 = Zm v0 from rfl), ⟨(Zx (E := E_iiii) _ y8_0 _), ⟨(Zx (E := eI) _ (v4 ++ ([(IntKind.i64.wrap (v2 + (1 : Int)))] : List Int)) _), ⟨(Zx (E := ZM) _ y8_1 _), ⟨(Zl (E := Zag) _ v6 _), trivial⟩⟩⟩⟩⟩⟩
  ·
   exact Mach.ok_thr (M := ZaL L0 a1 L2 N) (cd := 1000000) (cm := 0) (r := (.r0 ((IntKind.i64.wrap (v2 + (1 : Int)))) : ZE)) (fu := 4000) (orc := (Zs [o1, o0] [] [] [] [(1, .bs v1)])) (u := Value.iface 88 (κdh v2)) (ob := (((ZaT (10 : Int) v1), false) :: ZdN L0 a1 L2 v0 v1 v2 v3 v4 v5 v6)) (fun gv => by as_aux_lemma => kernel_rfl) (Za (Bool.eq_false_iff.2 (by assumption)) <| w3) rfl (by rfl) (by rfl)
 ·
  refine Mach.ok_bind (fun z1 c1 => ?_)
  cases z1 with
  | r0 y1_0 =>
   exact Mach.ok_thr (M := ZaL L0 a1 L2 N) (cd := 1000000) (cm := 0) (r := (.r0 (y1_0) : ZE)) (fu := 4000) (orc := (Zs [o0] [] [] [] [(0, (Zn9 (v1) (v2) (v3) (v4) (v5) (v6) (v0)  y1_0 0 2 3 4 5 1 6))])) (u := Value.iface 88 (Value.agg #[vi y1_0])) (ob := ((dP (Zjn #[vp 0 0] (v1) (v2) (v3) (v4) (v5) (v6) (v0)  y1_0 0 2 3 4 5 1 6), true) :: (dS (κbh v1 v2 v3 v4 v5 v6), true) :: (κcv v3) :: (dS (Zg eI v4), true) :: (κcA v5) :: (κcB v6) :: (dS (Zm v0), true) :: ((!((Zb v1).toList == (⟨#[]⟩ : ByteArray).toList)), false) :: [])) (fun gv => by as_aux_lemma => kernel_rfl) (Za (Zj (ZnA #[vp 0 0] (v1) (v2) (v3) (v4) (v5) (v6) (v0)  y1_0 N c1 0 2 3 4 5 1 6 rfl dcd dcd)) <| oR <| oR <| oR <| oR <| oR <| oR <| Za (ZrU (x := v1) (y := ([] : List Int)) (by first | assumption | exact Decidable.not_not.1 (by assumption))) <| Z6) rfl (by rfl) (by rfl)
  | r1 y1_0 =>
   exact Mach.oF (orc := (Zs [o0] [] [] [] [(0, (ZnB (v1) (v2) (v3) (v4) (v5) (v6) (v0)  y1_0 0 2 3 4 5 1 6))])) (live := [0, 1, 2, 3, 4, 5]) (u := vtt) (bl := [some (.cells [Value.string (Zb v1), vi y1_0, vs 2 0 v3.length v3.length, vs 3 0 v4.length v4.length, vs 4 0 v5.length v5.length, vs 5 0 v6.length v6.length, Value.map (some 1)] 57), some (.ro (Zm v0) true), some (κcN v3), some (κcI v4), some (κb9 v5), some (κce v6)]) (ob := ((dP (Zjo #[vp 0 0] (v1) (v2) (v3) (v4) (v5) (v6) (v0)  y1_0 0 2 3 4 5 1 6), true) :: (dS (κbh v1 v2 v3 v4 v5 v6), true) :: (κcv v3) :: (dS (Zg eI v4), true) :: (κcA v5) :: (κcB v6) :: (dS (Zm v0), true) :: ((!((Zb v1).toList == (⟨#[]⟩ : ByteArray).toList)), false) :: [])) (Za (Zj (ZnC #[vp 0 0] (v1) (v2) (v3) (v4) (v5) (v6) (v0)  y1_0 N c1 0 2 3 4 5 1 6 rfl dcd dcd)) <| oR <| oR <| oR <| oR <| oR <| oR <| Za (ZrU (x := v1) (y := ([] : List Int)) (by first | assumption | exact Decidable.not_not.1 (by assumption))) <| Z6) rr ⟨sm, ⟨(show Zm v0 = Zm v0 from rfl), ⟨(Zl (E := E_iiii) _ v3 _), ⟨(Zl (E := eI) _ v4 _), ⟨(Zl (E := ZM) _ v5 _), ⟨(Zl (E := Zag) _ v6 _), trivial⟩⟩⟩⟩⟩⟩
  | r2 y1_0 y1_1 y1_2 y1_3 =>
   exact Mach.oF (orc := (Zs [o0] [] [] [] [(0, (ZnD (v1) (v2) (v3) (v4) (v5) (v6) (v0)  y1_0 y1_1 y1_2 y1_3 0 2 3 4 5 1 6))])) (live := [0, 1, 2, 3, 4, 5]) (u := vtt) (bl := [some (.cells [Value.string (Zb v1), vi y1_1, vs 2 0 y1_0.length y1_0.length, vs 3 0 v4.length v4.length, vs 4 (y1_2 * 2) y1_3 y1_3, vs 5 0 v6.length v6.length, Value.map (some 1)] 57), some (.ro (Zm v0) true), some (.cells (Zg E_iiii y1_0) 24 true), some (κcI v4), some (κb9 v5), some (κce v6)]) (ob := ((dP (Zjp #[vp 0 0] (v1) (v2) (v3) (v4) (v5) (v6) (v0)  y1_0 y1_1 y1_2 y1_3 0 2 3 4 5 1 6), true) :: (dS (κbh v1 v2 v3 v4 v5 v6), true) :: (κcv v3) :: (dS (Zg eI v4), true) :: (κcA v5) :: (κcB v6) :: (dS (Zm v0), true) :: ((!((Zb v1).toList == (⟨#[]⟩ : ByteArray).toList)), false) :: [])) (Za (Zj (ZnE #[vp 0 0] (v1) (v2) (v3) (v4) (v5) (v6) (v0)  y1_0 y1_1 y1_2 y1_3 N c1 0 2 3 4 5 1 6 rfl dcd dcd)) <| oR <| oR <| oR <| oR <| oR <| oR <| Za (ZrU (x := v1) (y := ([] : List Int)) (by first | assumption | exact Decidable.not_not.1 (by assumption))) <| Z6) rr ⟨sm, ⟨(show Zm v0 = Zm v0 from rfl), ⟨(Zl (E := E_iiii) _ y1_0 _), ⟨(Zl (E := eI) _ v4 _), ⟨(Zl (E := ZM) _ v5 _), ⟨(Zl (E := Zag) _ v6 _), trivial⟩⟩⟩⟩⟩⟩

set_option maxHeartbeats 4000000 in
theorem Zmd (L0 : List Int) (a1 : Int) (L2 : List R_si) (N : Nat) : (ZaL L0 a1 L2 N).Enter Tryd.prog ZG #[vp 0 0] (Zee L0 a1 L2 N) := by
 unfold Zee
 exact Mach.en_headW (bK := ZeA 1) (M := ZaL L0 a1 L2 N) (cd := 1000000) (cm := 0) (y := (.h1m0 (L2) (L0) (a1) (([] : List RA)) (([] : List Int)) (([] : List R_is)) (([] : List (List Int))) : ZF)) (fu := 4000) (orc := (Zp [] [] [] [] [])) (live := [0, 1, 500000002, 500000003, 500000004, 500000005]) (tv := [some (vp 0 0)]) (bl := [some (.cells (κbA L0 a1) 57), some (.ro (Zm L2) true), none, none, none, none]) (ob := ([])) [some (.cells (κbA L0 a1) 57), some (.ro (Zm L2) true), none, none, none, none] [(2, 24), (3, 3), (4, 122), (5, 9)] 0 ⟨(wk_c ⟨.inl rfl, ⟨.inl rfl, ⟨.inr ⟨rfl, _, rfl⟩, ⟨.inr ⟨rfl, _, rfl⟩, ⟨.inr ⟨rfl, _, rfl⟩, ⟨.inr ⟨rfl, _, rfl⟩, ⟨.inl rfl, trivial⟩⟩⟩⟩⟩⟩⟩), ⟨(.inl rfl), ⟨(.inl rfl), ⟨(.inl rfl), ⟨(.inl rfl), ⟨(.inl rfl), trivial⟩⟩⟩⟩⟩⟩ (by rfl) (by rfl) rfl rfl (show Za9 (ZeA 1).2 = [] from rfl) (by as_aux_lemma => kernel_rfl) (Z6) rfl (by decide) (by rfl) ⟨rr, trivial⟩ ⟨sm, ⟨(show Zm L2 = Zm L2 from rfl), trivial⟩⟩

theorem ZeB (L0 : List Int) (a1 : Int) (L2 : List R_si) (N : Nat) (r : ZE) (h : ZcI L0 a1 L2 N = some r) : LSpec Tryd.prog 38 #[vp 0 0] [.cells (κbA L0 a1) 57, .ro (Zm L2) true] (Zjq L0 a1 L2 r) (Zit L0 a1 L2 r) :=
 Mach.spec ZdD (ZaL L0 a1 L2 N) Tryd.func38 (by kernel_rfl) (by kernel_rfl) (fun x => by cases x <;> exact ZaV _ rfl) (fun r => by cases r <;> exact ZaV _ rfl) (fun x => by
  cases x with
  | h1m0 _ _ _ _ _ _ _ => exact fun _ => (show ¬ (1 ∈ Za9 (ZeA 1).2) from by decide +kernel)
  ) (fun x => (show (ZaL L0 a1 L2 N).Ok Tryd.prog ZG x (Zaw L0 a1 L2 N x) from by
  cases x with
  | h1m0 v0 v1 v2 v3 v4 v5 v6 => exact Zk8 L0 a1 L2 v0 v1 v2 v3 v4 v5 v6 N
  )) (Zmd L0 a1 L2 N) (n := N) h

noncomputable abbrev κZ (k0 : Nat) (L0 : List Int) (a1 : Int) (k1 : Nat) (L2 : List R_si) := [(k0, AObj.cells [Value.string (Zb L0), vi a1, vn, vn, vn, vn, Value.map (some k1)] 57), (k1, AObj.ro (Zm L2) true)]
noncomputable def ZmJ (L0 : List Int) (a1 : Int) (L2 : List R_si) (w0 : Int) (k0 k1 n : Nat) : Za5 := .call (κZ k0 L0 a1 k1 L2) (κcw w0) [(k0, none), (k1, none)] 0
def Ziu (A : Array Value) (L0 : List Int) (a1 : Int) (L2 : List R_si) (w0 : Int) (k0 k1 n : Nat) : Prop := Z3 Tryd.prog 38 A (κZ k0 L0 a1 k1 L2) (κcw w0) [(k0, none), (k1, none)] n 0

theorem ZmK (A : Array Value) (L0 : List Int) (a1 : Int) (L2 : List R_si) (w0 : Int) (N : Nat) (h : ZcI L0 a1 L2 N = some (.r0 w0)) (k0 k1 n : Nat) (hA : A = #[vp k0 0]) (hnd : ([k0, k1] : List Nat).Nodup) (hlt : ∀ k ∈ ([k0, k1] : List Nat), k < n) : Ziu A L0 a1 L2 w0 k0 k1 n :=
 Zae hA (cX0 (show LSpec Tryd.prog 38 #[vp 0 0] [.cells (κbA L0 a1) 57, .ro (Zm L2) true] (κcw w0) [none, none] from ZeB L0 a1 L2 N _ h) [k0, k1] n [0, 1] hnd hlt)

noncomputable abbrev κbt (k0 : Nat) (w1 : List Int) (w2 : Int) (n : Nat) (w3 : List RA) (w4 : List Int) (w5 : List R_is) (w6 : List (List Int)) (k1 : Nat) (w0 : List R_si) := [(k0, some (AObj.cells [Value.string (Zb w1), vi w2, vs n 0 w3.length w3.length, vs (n + 1) 0 w4.length w4.length, vs (n + 2) 0 w5.length w5.length, vs (n + 3) 0 w6.length w6.length, Value.map (some k1)] 57)), (k1, some (AObj.ro (Zm w0) true)), (n, some (AObj.cells (Zg E_iiii w3) 24 true)), ((n + 1), some (AObj.cells (Zg eI w4) 3 true)), ((n + 2), some (AObj.cells (Zg ZM w5) 122 true)), ((n + 3), some (AObj.cells (Zg Zag w6) 9 true))]
noncomputable def ZmL (L0 : List Int) (a1 : Int) (L2 w0 : List R_si) (w1 : List Int) (w2 : Int) (w3 : List RA) (w4 : List Int) (w5 : List R_is) (w6 : List (List Int)) (k0 k1 n : Nat) : Za5 := .call (κZ k0 L0 a1 k1 L2) (vtt) (κbt k0 w1 w2 n w3 w4 w5 w6 k1 w0) 4
def Ziv (A : Array Value) (L0 : List Int) (a1 : Int) (L2 w0 : List R_si) (w1 : List Int) (w2 : Int) (w3 : List RA) (w4 : List Int) (w5 : List R_is) (w6 : List (List Int)) (k0 k1 n : Nat) : Prop := Z3 Tryd.prog 38 A (κZ k0 L0 a1 k1 L2) (vtt) (κbt k0 w1 w2 n w3 w4 w5 w6 k1 w0) n 4

theorem ZmM (A : Array Value) (L0 : List Int) (a1 : Int) (L2 w0 : List R_si) (w1 : List Int) (w2 : Int) (w3 : List RA) (w4 : List Int) (w5 : List R_is) (w6 : List (List Int)) (N : Nat) (h : ZcI L0 a1 L2 N = some (.r1 w0 w1 w2 w3 w4 w5 w6)) (k0 k1 n : Nat) (hA : A = #[vp k0 0]) (hnd : ([k0, k1] : List Nat).Nodup) (hlt : ∀ k ∈ ([k0, k1] : List Nat), k < n) : Ziv A L0 a1 L2 w0 w1 w2 w3 w4 w5 w6 k0 k1 n :=
 Zae hA (cX0 (show LSpec Tryd.prog 38 #[vp 0 0] [.cells (κbA L0 a1) 57, .ro (Zm L2) true] (vtt) [some (.cells [Value.string (Zb w1), vi w2, vs 2 0 w3.length w3.length, vs 3 0 w4.length w4.length, vs 4 0 w5.length w5.length, vs 5 0 w6.length w6.length, Value.map (some 1)] 57), some (.ro (Zm w0) true), some (.cells (Zg E_iiii w3) 24 true), some (.cells (Zg eI w4) 3 true), some (.cells (Zg ZM w5) 122 true), some (.cells (Zg Zag w6) 9 true)] from ZeB L0 a1 L2 N _ h) [k0, k1] n [0, 1, 2, 3, 4, 5] hnd hlt)

noncomputable abbrev κbu (k0 : Nat) (w1 : List Int) (w2 : Int) (n : Nat) (w3 : List RA) (w4 : List Int) (w6 : Nat) (w7 : Nat) (w8 : List (List Int)) (k1 : Nat) (w0 : List R_si) (w5 : List R_is) := [(k0, some (AObj.cells [Value.string (Zb w1), vi w2, vs n 0 w3.length w3.length, vs (n + 1) 0 w4.length w4.length, vs (n + 2) (w6 * 2) w7 w7, vs (n + 3) 0 w8.length w8.length, Value.map (some k1)] 57)), (k1, some (AObj.ro (Zm w0) true)), (n, some (AObj.cells (Zg E_iiii w3) 24 true)), ((n + 1), some (AObj.cells (Zg eI w4) 3 true)), ((n + 2), some (AObj.cells (Zg ZM w5) 122 true)), ((n + 3), some (AObj.cells (Zg Zag w8) 9 true))]
noncomputable def ZmN (L0 : List Int) (a1 : Int) (L2 w0 : List R_si) (w1 : List Int) (w2 : Int) (w3 : List RA) (w4 : List Int) (w5 : List R_is) (w6 w7 : Nat) (w8 : List (List Int)) (k0 k1 n : Nat) : Za5 := .call (κZ k0 L0 a1 k1 L2) (vtt) (κbu k0 w1 w2 n w3 w4 w6 w7 w8 k1 w0 w5) 4
def Ziw (A : Array Value) (L0 : List Int) (a1 : Int) (L2 w0 : List R_si) (w1 : List Int) (w2 : Int) (w3 : List RA) (w4 : List Int) (w5 : List R_is) (w6 w7 : Nat) (w8 : List (List Int)) (k0 k1 n : Nat) : Prop := Z3 Tryd.prog 38 A (κZ k0 L0 a1 k1 L2) (vtt) (κbu k0 w1 w2 n w3 w4 w6 w7 w8 k1 w0 w5) n 4

theorem ZmO (A : Array Value) (L0 : List Int) (a1 : Int) (L2 w0 : List R_si) (w1 : List Int) (w2 : Int) (w3 : List RA) (w4 : List Int) (w5 : List R_is) (w6 w7 : Nat) (w8 : List (List Int)) (N : Nat) (h : ZcI L0 a1 L2 N = some (.r2 w0 w1 w2 w3 w4 w5 w6 w7 w8)) (k0 k1 n : Nat) (hA : A = #[vp k0 0]) (hnd : ([k0, k1] : List Nat).Nodup) (hlt : ∀ k ∈ ([k0, k1] : List Nat), k < n) : Ziw A L0 a1 L2 w0 w1 w2 w3 w4 w5 w6 w7 w8 k0 k1 n :=
 Zae hA (cX0 (show LSpec Tryd.prog 38 #[vp 0 0] [.cells (κbA L0 a1) 57, .ro (Zm L2) true] (vtt) [some (.cells [Value.string (Zb w1), vi w2, vs 2 0 w3.length w3.length, vs 3 0 w4.length w4.length, vs 4 (w6 * 2) w7 w7, vs 5 0 w8.length w8.length, Value.map (some 1)] 57), some (.ro (Zm w0) true), some (.cells (Zg E_iiii w3) 24 true), some (.cells (Zg eI w4) 3 true), some (.cells (Zg ZM w5) 122 true), some (.cells (Zg Zag w8) 9 true)] from ZeB L0 a1 L2 N _ h) [k0, k1] n [0, 1, 2, 3, 4, 5] hnd hlt)

noncomputable def Znc (L0 : List Int) : Zbr → Value
 | .r0 w0 w1 => Value.tuple #[vn, vi w0, vi w1]
 | .r1 w0 => Value.tuple #[vs 0 0 w0.length w0.length, vq, vq]
noncomputable def Zme (L0 : List Int) : Zbr → List (Option AObj)
 | .r0 w0 w1 => []
 | .r1 w0 => [some (.cells (Zg E_iiii w0) 24 true)]

noncomputable def ZuE (L0 : List Int) : Zbr → Value
 | .r0 w0 w1 => Value.tuple #[vn, vi w0, vi w1]
 | .r1 w0 => Value.tuple #[ms E_iiii w0, vq, vq]
noncomputable def Ztc (L0 : List Int) : Zbr → List (Option AObj)
 | .r0 w0 w1 => []
 | .r1 w0 => []

noncomputable abbrev κdv := (dS (Zm ([] : List R_si)), true)
noncomputable abbrev κcQ (L0 : List Int) := (dS [Value.string (Zb L0), vq, vn, vn, vn, vn, Value.map (some 2)], true)
noncomputable abbrev κcz (L0 : List Int) := (decide ((((Zb L0).size : Nat) : Int) > (262144 : Int)))
theorem Zsa (L0 : List Int) (N : Nat) : Fx Tryd.prog ZG Tryd.f9 [] (κt L0) (Znc L0) (Zme L0) (Zcs L0 N) := by
 unfold Zcs
 refine Zbm (fun g0 => ?_) (fun g0 => ?_)
 ·
  exact fxF (orc := (Zs [o1] [] [] [] [])) (live := []) (u := Value.tuple #[vn, vq, vi (2 : Int)]) (bl := []) (ob := [((κcz L0), true)]) (oY Z6) rr trivial
 ·
  refine ZxK (fun z1 c1 => ?_)
  cases z1 with
  | r0 y1_0 =>
   exact fxF (orc := (Zs [o0] [] [] [] [(1, (ZmJ (L0) ((0 : Int)) (([] : List R_si))  y1_0 3 2 4))])) (live := []) (u := Value.tuple #[vn, vi y1_0, vi (130 : Int)]) (bl := []) (ob := [(dP (Ziu #[vp 3 0] (L0) ((0 : Int)) (([] : List R_si))  y1_0 3 2 4), true), (κcQ L0), κdv, ((κcz L0), false)]) (Za (Zj (ZmK #[vp 3 0] (L0) ((0 : Int)) (([] : List R_si))  y1_0 N c1 3 2 4 rfl dcd dcd)) <| oR <| oR <| oN Z6) rr trivial
  | r1 y1_0 y1_1 y1_2 y1_3 y1_4 y1_5 y1_6 =>
   exact fxF (orc := (Zs [o0] [] [] [] [(1, (ZmL (L0) ((0 : Int)) (([] : List R_si))  y1_0 y1_1 y1_2 y1_3 y1_4 y1_5 y1_6 3 2 4))])) (live := [4]) (u := Value.tuple #[vs 4 0 y1_3.length y1_3.length, vq, vq]) (bl := [some (.cells (Zg E_iiii y1_3) 24 true)]) (ob := [(dP (Ziv #[vp 3 0] (L0) ((0 : Int)) (([] : List R_si))  y1_0 y1_1 y1_2 y1_3 y1_4 y1_5 y1_6 3 2 4), true), (κcQ L0), κdv, ((κcz L0), false)]) (Za (Zj (ZmM #[vp 3 0] (L0) ((0 : Int)) (([] : List R_si))  y1_0 y1_1 y1_2 y1_3 y1_4 y1_5 y1_6 N c1 3 2 4 rfl dcd dcd)) <| oR <| oR <| oN Z6) rr ⟨(Zl (E := E_iiii) _ y1_3 _), trivial⟩
  | r2 y1_0 y1_1 y1_2 y1_3 y1_4 y1_5 y1_6 y1_7 y1_8 =>
   exact fxF (orc := (Zs [o0] [] [] [] [(1, (ZmN (L0) ((0 : Int)) (([] : List R_si))  y1_0 y1_1 y1_2 y1_3 y1_4 y1_5 y1_6 y1_7 y1_8 3 2 4))])) (live := [4]) (u := Value.tuple #[vs 4 0 y1_3.length y1_3.length, vq, vq]) (bl := [some (.cells (Zg E_iiii y1_3) 24 true)]) (ob := [(dP (Ziw #[vp 3 0] (L0) ((0 : Int)) (([] : List R_si))  y1_0 y1_1 y1_2 y1_3 y1_4 y1_5 y1_6 y1_7 y1_8 3 2 4), true), (κcQ L0), κdv, ((κcz L0), false)]) (Za (Zj (ZmO #[vp 3 0] (L0) ((0 : Int)) (([] : List R_si))  y1_0 y1_1 y1_2 y1_3 y1_4 y1_5 y1_6 y1_7 y1_8 N c1 3 2 4 rfl dcd dcd)) <| oR <| oR <| oN Z6) rr ⟨(Zl (E := E_iiii) _ y1_3 _), trivial⟩

theorem Zo7 (L0 : List Int) (N : Nat) (r : Zbr) (h : Zcs L0 N = some r) : LSpec Tryd.prog 9 (κt L0) [] (Znc L0 r) (Zme L0 r) :=
 Zm1 ZdD Tryd.func9 (by kernel_rfl) (by kernel_rfl) (fun r => by cases r <;> exact ZaV _ rfl) (Zsa L0 N) h

theorem Zk9 (L0 : List Int) (N : Nat) (r : Zbr) (h : Zcs L0 N = some r) : LSpec Tryd.prog 9 (κt L0) [] (ZuE L0 r) (Ztc L0 r) := by
 have h0 := Zo7 L0 N r h
 cases r with
 | r0 _ _ => exact h0
 | r1 w0 => exact LSpec.frqt (E := E_iiii) (L := w0) (post := []) h0 (show 0 ≤ 0 from by decide) (show 0 < 1000000000 from by decide) trivial (by decide) rfl rfl rfl

noncomputable def Ztd (L0 : List Int) (w0 w1 : Int) (n : Nat) : Za5 := .call [] (Value.tuple #[vn, vi w0, vi w1]) [] 0
def Znd (A : Array Value) (L0 : List Int) (w0 w1 : Int) (n : Nat) : Prop := Z3 Tryd.prog 9 A [] (Value.tuple #[vn, vi w0, vi w1]) [] n 0

theorem Zte (A : Array Value) (L0 : List Int) (w0 w1 : Int) (N : Nat) (h : Zcs L0 N = some (.r0 w0 w1)) (n : Nat) (hA : A = (κt L0)) (hnd : ([] : List Nat).Nodup) (hlt : ∀ k ∈ ([] : List Nat), k < n) : Znd A L0 w0 w1  n :=
 Zae hA (cX0 (show LSpec Tryd.prog 9 (κt L0) [] (Value.tuple #[vn, vi w0, vi w1]) [] from Zk9 L0 N _ h) [] n [] hnd hlt)

noncomputable def ZeL (L0 : List Int) (w0 : List RA) (n : Nat) : Za5 := .call [] (Value.tuple #[ms E_iiii w0, vq, vq]) [] 0
def Zgk (A : Array Value) (L0 : List Int) (w0 : List RA) (n : Nat) : Prop := Z3 Tryd.prog 9 A [] (Value.tuple #[ms E_iiii w0, vq, vq]) [] n 0

theorem Zh8 (A : Array Value) (L0 : List Int) (w0 : List RA) (N : Nat) (h : Zcs L0 N = some (.r1 w0)) (n : Nat) (hA : A = (κt L0)) (hnd : ([] : List Nat).Nodup) (hlt : ∀ k ∈ ([] : List Nat), k < n) : Zgk A L0 w0  n :=
 Zae hA (cX0 (show LSpec Tryd.prog 9 (κt L0) [] (Value.tuple #[ms E_iiii w0, vq, vq]) [] from Zk9 L0 N _ h) [] n [] hnd hlt)

end Ev
end Go.Proofs.YtlbbiflodemagaaDoor
/- Records, and the program's functions as plain ones. -/
namespace Go.Proofs.YtlbbiflodemagaaDoor
open Go.RowKit
namespace Ev
set_option linter.unusedVariables false
abbrev fwL (L0 : List RA) : List RA := L0.take ((if (520 : Int) < (L0.length : Int) then (520 : Int) else (L0.length : Int))).toNat
abbrev lbX (v3 : Nat) : List Int := ((bl [58]) ++ ((bl [76]) ++ (Zd (v3 : Int)))) ++ (bl [10])
inductive Zhb where
 | r0 (w0 : List Int)

def Zic (L0 : List Int) (N : Nat) : Option Zhb :=
 some (.r0 ((L0.take ((if (4000 : Int) < (((Zb L0).size : Nat) : Int) then (4000 : Int) else (((Zb L0).size : Nat) : Int))).toNat)) : Zhb)

inductive asm_LineR where
 | r0 (w0 : List Int) (w1 : Int)

def Zd4 (a0 : Int) (a1 : Int) (a2 : Int) (a3 : Int) (N : Nat) : Option asm_LineR :=
 ((Z7 (a0) (a1) (a2) (a3) N).bind fun r => match r with
 | .r0 y0_0 =>
  if ¬ (y0_0 = 0) then
   some (.r0 (([] : List Int)) (y0_0) : asm_LineR)
  else
  if a0 < 0 then
   some (.r0 (([] : List Int)) ((0 : Int)) : asm_LineR)
  else
  if (21 : Int) ≤ a0 then
   some (.r0 (([] : List Int)) ((0 : Int)) : asm_LineR)
  else
  if a0 = 0 then
   some (.r0 (([] : List Int)) ((0 : Int)) : asm_LineR)
  else
  if a0 = 1 then
   if (-9223372036854775808 : Int) ≤ a1 then
    if a1 ≤ 9223372036854775807 then
     if (Zd a1).length ≤ 21 then
      if (-9223372036854775808 : Int) ≤ a2 then
       if a2 ≤ 9223372036854775807 then
        if (Zd a2).length ≤ 21 then
         some (.r0 (((((bl [99, 111, 110, 115, 116, 32]) ++ ((bl [114]) ++ (Zd a1))) ++ (bl [32])) ++ (Zd a2))) ((0 : Int)) : asm_LineR)
        else
        none
       else
       none
      else
      none
     else
     none
    else
    none
   else
   none
  else
  if a0 = 2 then
   if (-9223372036854775808 : Int) ≤ a1 then
    if a1 ≤ 9223372036854775807 then
     if (Zd a1).length ≤ 21 then
      some (.r0 (((bl [110, 105, 108, 32]) ++ ((bl [114]) ++ (Zd a1)))) ((0 : Int)) : asm_LineR)
     else
     none
    else
    none
   else
   none
  else
  if a0 = 3 then
   if (-9223372036854775808 : Int) ≤ a1 then
    if a1 ≤ 9223372036854775807 then
     if (Zd a1).length ≤ 21 then
      if (-9223372036854775808 : Int) ≤ a2 then
       if a2 ≤ 9223372036854775807 then
        if (Zd a2).length ≤ 21 then
         some (.r0 (((((bl [109, 111, 118, 101, 32]) ++ ((bl [114]) ++ (Zd a1))) ++ (bl [32])) ++ ((bl [114]) ++ (Zd a2)))) ((0 : Int)) : asm_LineR)
        else
        none
       else
       none
      else
      none
     else
     none
    else
    none
   else
   none
  else
  if a0 = 4 then
   if (-9223372036854775808 : Int) ≤ a1 then
    if a1 ≤ 9223372036854775807 then
     if (Zd a1).length ≤ 21 then
      if (-9223372036854775808 : Int) ≤ a2 then
       if a2 ≤ 9223372036854775807 then
        if (Zd a2).length ≤ 21 then
         if (-9223372036854775808 : Int) ≤ a3 then
          if a3 ≤ 9223372036854775807 then
           if (Zd a3).length ≤ 21 then
            some (.r0 (((((((bl [97, 100, 100, 32]) ++ ((bl [114]) ++ (Zd a1))) ++ (bl [32])) ++ ((bl [114]) ++ (Zd a2))) ++ (bl [32])) ++ ((bl [114]) ++ (Zd a3)))) ((0 : Int)) : asm_LineR)
           else
           none
          else
          none
         else
         none
        else
        none
       else
       none
      else
      none
     else
     none
    else
    none
   else
   none
  else
  if a0 = 5 then
   if (-9223372036854775808 : Int) ≤ a1 then
    if a1 ≤ 9223372036854775807 then
     if (Zd a1).length ≤ 21 then
      if (-9223372036854775808 : Int) ≤ a2 then
       if a2 ≤ 9223372036854775807 then
        if (Zd a2).length ≤ 21 then
         if (-9223372036854775808 : Int) ≤ a3 then
          if a3 ≤ 9223372036854775807 then
           if (Zd a3).length ≤ 21 then
            some (.r0 (((((((bl [115, 117, 98, 32]) ++ ((bl [114]) ++ (Zd a1))) ++ (bl [32])) ++ ((bl [114]) ++ (Zd a2))) ++ (bl [32])) ++ ((bl [114]) ++ (Zd a3)))) ((0 : Int)) : asm_LineR)
           else
           none
          else
          none
         else
         none
        else
        none
       else
       none
      else
      none
     else
     none
    else
    none
   else
   none
  else
  if a0 = 6 then
   if (-9223372036854775808 : Int) ≤ a1 then
    if a1 ≤ 9223372036854775807 then
     if (Zd a1).length ≤ 21 then
      if (-9223372036854775808 : Int) ≤ a2 then
       if a2 ≤ 9223372036854775807 then
        if (Zd a2).length ≤ 21 then
         if (-9223372036854775808 : Int) ≤ a3 then
          if a3 ≤ 9223372036854775807 then
           if (Zd a3).length ≤ 21 then
            some (.r0 (((((((bl [108, 101, 115, 115, 32]) ++ ((bl [114]) ++ (Zd a1))) ++ (bl [32])) ++ ((bl [114]) ++ (Zd a2))) ++ (bl [32])) ++ ((bl [114]) ++ (Zd a3)))) ((0 : Int)) : asm_LineR)
           else
           none
          else
          none
         else
         none
        else
        none
       else
       none
      else
      none
     else
     none
    else
    none
   else
   none
  else
  if a0 = 7 then
   if (-9223372036854775808 : Int) ≤ a1 then
    if a1 ≤ 9223372036854775807 then
     if (Zd a1).length ≤ 21 then
      if (-9223372036854775808 : Int) ≤ a2 then
       if a2 ≤ 9223372036854775807 then
        if (Zd a2).length ≤ 21 then
         if (-9223372036854775808 : Int) ≤ a3 then
          if a3 ≤ 9223372036854775807 then
           if (Zd a3).length ≤ 21 then
            some (.r0 (((((((bl [101, 113, 32]) ++ ((bl [114]) ++ (Zd a1))) ++ (bl [32])) ++ ((bl [114]) ++ (Zd a2))) ++ (bl [32])) ++ ((bl [114]) ++ (Zd a3)))) ((0 : Int)) : asm_LineR)
           else
           none
          else
          none
         else
         none
        else
        none
       else
       none
      else
      none
     else
     none
    else
    none
   else
   none
  else
  if a0 = 8 then
   if (-9223372036854775808 : Int) ≤ a1 then
    if a1 ≤ 9223372036854775807 then
     if (Zd a1).length ≤ 21 then
      some (.r0 (((bl [106, 117, 109, 112, 32]) ++ ((bl [64]) ++ ((bl [76]) ++ (Zd a1))))) ((0 : Int)) : asm_LineR)
     else
     none
    else
    none
   else
   none
  else
  if a0 = 9 then
   if (-9223372036854775808 : Int) ≤ a1 then
    if a1 ≤ 9223372036854775807 then
     if (Zd a1).length ≤ 21 then
      if (-9223372036854775808 : Int) ≤ a2 then
       if a2 ≤ 9223372036854775807 then
        if (Zd a2).length ≤ 21 then
         some (.r0 (((((bl [106, 117, 109, 112, 122, 32]) ++ ((bl [114]) ++ (Zd a1))) ++ (bl [32])) ++ ((bl [64]) ++ ((bl [76]) ++ (Zd a2))))) ((0 : Int)) : asm_LineR)
        else
        none
       else
       none
      else
      none
     else
     none
    else
    none
   else
   none
  else
  if a0 = 10 then
   if (-9223372036854775808 : Int) ≤ a1 then
    if a1 ≤ 9223372036854775807 then
     if (Zd a1).length ≤ 21 then
      some (.r0 (((bl [114, 111, 111, 116, 32]) ++ ((bl [114]) ++ (Zd a1)))) ((0 : Int)) : asm_LineR)
     else
     none
    else
    none
   else
   none
  else
  if a0 = 11 then
   if (-9223372036854775808 : Int) ≤ a1 then
    if a1 ≤ 9223372036854775807 then
     if (Zd a1).length ≤ 21 then
      if (-9223372036854775808 : Int) ≤ a2 then
       if a2 ≤ 9223372036854775807 then
        if (Zd a2).length ≤ 21 then
         if (-9223372036854775808 : Int) ≤ a3 then
          if a3 ≤ 9223372036854775807 then
           if (Zd a3).length ≤ 21 then
            some (.r0 (((((((bl [110, 101, 119, 32]) ++ ((bl [114]) ++ (Zd a1))) ++ (bl [32])) ++ (Zd a2)) ++ (bl [32])) ++ (Zd a3))) ((0 : Int)) : asm_LineR)
           else
           none
          else
          none
         else
         none
        else
        none
       else
       none
      else
      none
     else
     none
    else
    none
   else
   none
  else
  if a0 = 12 then
   if (-9223372036854775808 : Int) ≤ a1 then
    if a1 ≤ 9223372036854775807 then
     if (Zd a1).length ≤ 21 then
      some (.r0 (((bl [102, 114, 101, 101, 32]) ++ ((bl [114]) ++ (Zd a1)))) ((0 : Int)) : asm_LineR)
     else
     none
    else
    none
   else
   none
  else
  if a0 = 13 then
   if (-9223372036854775808 : Int) ≤ a1 then
    if a1 ≤ 9223372036854775807 then
     if (Zd a1).length ≤ 21 then
      if (-9223372036854775808 : Int) ≤ a2 then
       if a2 ≤ 9223372036854775807 then
        if (Zd a2).length ≤ 21 then
         if (-9223372036854775808 : Int) ≤ a3 then
          if a3 ≤ 9223372036854775807 then
           if (Zd a3).length ≤ 21 then
            some (.r0 (((((((bl [103, 101, 116, 32]) ++ ((bl [114]) ++ (Zd a1))) ++ (bl [32])) ++ ((bl [114]) ++ (Zd a2))) ++ (bl [32])) ++ (Zd a3))) ((0 : Int)) : asm_LineR)
           else
           none
          else
          none
         else
         none
        else
        none
       else
       none
      else
      none
     else
     none
    else
    none
   else
   none
  else
  if a0 = 14 then
   if (-9223372036854775808 : Int) ≤ a1 then
    if a1 ≤ 9223372036854775807 then
     if (Zd a1).length ≤ 21 then
      if (-9223372036854775808 : Int) ≤ a2 then
       if a2 ≤ 9223372036854775807 then
        if (Zd a2).length ≤ 21 then
         if (-9223372036854775808 : Int) ≤ a3 then
          if a3 ≤ 9223372036854775807 then
           if (Zd a3).length ≤ 21 then
            some (.r0 (((((((bl [115, 101, 116, 32]) ++ ((bl [114]) ++ (Zd a1))) ++ (bl [32])) ++ (Zd a2)) ++ (bl [32])) ++ ((bl [114]) ++ (Zd a3)))) ((0 : Int)) : asm_LineR)
           else
           none
          else
          none
         else
         none
        else
        none
       else
       none
      else
      none
     else
     none
    else
    none
   else
   none
  else
  if a0 = 15 then
   some (.r0 ((bl [98, 101, 103, 105, 110])) ((0 : Int)) : asm_LineR)
  else
  if a0 = 16 then
   some (.r0 ((bl [101, 108, 115, 101])) ((0 : Int)) : asm_LineR)
  else
  if a0 = 17 then
   some (.r0 ((bl [101, 110, 100])) ((0 : Int)) : asm_LineR)
  else
  if a0 = 18 then
   some (.r0 ((bl [114, 101, 116, 114, 121])) ((0 : Int)) : asm_LineR)
  else
  if a0 = 19 then
   if (-9223372036854775808 : Int) ≤ a1 then
    if a1 ≤ 9223372036854775807 then
     if (Zd a1).length ≤ 21 then
      some (.r0 (((bl [101, 109, 105, 116, 32]) ++ ((bl [114]) ++ (Zd a1)))) ((0 : Int)) : asm_LineR)
     else
     none
    else
    none
   else
   none
  else
  some (.r0 ((bl [104, 97, 108, 116])) ((0 : Int)) : asm_LineR)
 )

inductive Za3 where
 | r0 (w0 : List Int) (w1 : Int)

inductive ZB where
 | h1m0 (v1 : List Int) (v4 : Nat)
 | h2m0 (v1 : List Int) (v3 : Nat)
 | h2m1 (v1 : List Int) (v3 : Nat) (v4 : List Int)

def Zch (L0 : List RA) (N : Nat) (v1 : List Int) (v4 : Nat) : Option (ZB ⊕ Za3) :=
 if (v4 : Int) < (L0.length : Int) then
  if (L0.getD v4 RA.z).a0 = 8 then
   ((Z7 ((L0.getD v4 RA.z).a0) ((L0.getD v4 RA.z).a1) ((L0.getD v4 RA.z).a2) ((L0.getD v4 RA.z).a3) N).bind fun r => match r with
   | .r0 y2_0 =>
    if ¬ (y2_0 = 0) then
     some (.inr (.r0 (([] : List Int)) ((130 : Int)) : Za3))
    else
    if (L0.length : Int) < (L0.getD v4 RA.z).a1 then
     some (.inr (.r0 (([] : List Int)) ((130 : Int)) : Za3))
    else
    if (0 : Int) ≤ (L0.getD v4 RA.z).a1 then
     if ((L0.getD v4 RA.z).a1).toNat < v1.length then
      if (((v4 + 1) : Nat) : Int) ≤ 9223372036854775807 then
       some (.inl (.h1m0 ((v1.set ((L0.getD v4 RA.z).a1).toNat (IntKind.i64.wrap ((v1.getD ((L0.getD v4 RA.z).a1).toNat 0) + (1 : Int))))) ((v4 + 1)) : ZB))
      else
      none
     else
     none
    else
    none
   )
  else
  if (L0.getD v4 RA.z).a0 = 9 then
   ((Z7 ((L0.getD v4 RA.z).a0) ((L0.getD v4 RA.z).a1) ((L0.getD v4 RA.z).a2) ((L0.getD v4 RA.z).a3) N).bind fun r => match r with
   | .r0 y3_0 =>
    if ¬ (y3_0 = 0) then
     some (.inr (.r0 (([] : List Int)) ((130 : Int)) : Za3))
    else
    if (L0.length : Int) < (L0.getD v4 RA.z).a2 then
     some (.inr (.r0 (([] : List Int)) ((130 : Int)) : Za3))
    else
    if (0 : Int) ≤ (L0.getD v4 RA.z).a2 then
     if ((L0.getD v4 RA.z).a2).toNat < v1.length then
      if (((v4 + 1) : Nat) : Int) ≤ 9223372036854775807 then
       some (.inl (.h1m0 ((v1.set ((L0.getD v4 RA.z).a2).toNat (IntKind.i64.wrap ((v1.getD ((L0.getD v4 RA.z).a2).toNat 0) + (1 : Int))))) ((v4 + 1)) : ZB))
      else
      none
     else
     none
    else
    none
   )
  else
  ((Z7 ((L0.getD v4 RA.z).a0) ((L0.getD v4 RA.z).a1) ((L0.getD v4 RA.z).a2) ((L0.getD v4 RA.z).a3) N).bind fun r => match r with
  | .r0 y3_0 =>
   if ¬ (y3_0 = 0) then
    some (.inr (.r0 (([] : List Int)) ((130 : Int)) : Za3))
   else
   if (((v4 + 1) : Nat) : Int) ≤ 9223372036854775807 then
    some (.inl (.h1m0 (v1) ((v4 + 1)) : ZB))
   else
   none
  )
 else
 if (((L0.length + 1) : Nat) : Int) ≤ 9223372036854775807 then
  some (.inl (.h2m0 (v1) (0) : ZB))
 else
 none

def Zcz (L0 : List RA) (N : Nat) (v1 : List Int) (v3 : Nat) : Option (ZB ⊕ Za3) :=
 if (v3 : Int) < (((L0.length + 1) : Nat) : Int) then
  if v3 < v1.length then
   if (0 : Int) < (v1.getD v3 0) then
    if (v3 : Int) ≤ 9223372036854775807 then
     if (Zd (v3 : Int)).length ≤ 21 then
      if (Z1 (lbX v3)) = true then
       if (v3 : Int) < (L0.length : Int) then
        ((Zd4 ((L0.getD v3 RA.z).a0) ((L0.getD v3 RA.z).a1) ((L0.getD v3 RA.z).a2) ((L0.getD v3 RA.z).a3) N).bind fun r => match r with
        | .r0 y7_0 y7_1 =>
         if (y7_0.length + 1) ≤ 1000000 then
          if (y7_0.length + 1) ≤ 100000 then
           if (Z1 (y7_0 ++ (bl [10]))) = true then
            if (((v3 + 1) : Nat) : Int) ≤ 9223372036854775807 then
             some (.inl (.h2m1 (v1) ((v3 + 1)) (((lbX v3) ++ (y7_0 ++ (bl [10])))) : ZB))
            else
            none
           else
           none
          else
          none
         else
         none
        )
       else
       if (((v3 + 1) : Nat) : Int) ≤ 9223372036854775807 then
        some (.inl (.h2m1 (v1) ((v3 + 1)) ((lbX v3)) : ZB))
       else
       none
      else
      none
     else
     none
    else
    none
   else
   if (v3 : Int) < (L0.length : Int) then
    ((Zd4 ((L0.getD v3 RA.z).a0) ((L0.getD v3 RA.z).a1) ((L0.getD v3 RA.z).a2) ((L0.getD v3 RA.z).a3) N).bind fun r => match r with
    | .r0 y4_0 y4_1 =>
     if (y4_0.length + 1) ≤ 1000000 then
      if (y4_0.length + 1) ≤ 100000 then
       if (Z1 (y4_0 ++ (bl [10]))) = true then
        if (((v3 + 1) : Nat) : Int) ≤ 9223372036854775807 then
         some (.inl (.h2m1 (v1) ((v3 + 1)) ((y4_0 ++ (bl [10]))) : ZB))
        else
        none
       else
       none
      else
      none
     else
     none
    )
   else
   if (((v3 + 1) : Nat) : Int) ≤ 9223372036854775807 then
    some (.inl (.h2m0 (v1) ((v3 + 1)) : ZB))
   else
   none
  else
  none
 else
 some (.inr (.r0 (([] : List Int)) ((0 : Int)) : Za3))

def Zc0 (L0 : List RA) (N : Nat) (v1 : List Int) (v3 : Nat) (v4 : List Int) : Option (ZB ⊕ Za3) :=
 if (v3 : Int) < (((L0.length + 1) : Nat) : Int) then
  if v3 < v1.length then
   if (0 : Int) < (v1.getD v3 0) then
    if (v3 : Int) ≤ 9223372036854775807 then
     if (Zd (v3 : Int)).length ≤ 21 then
      if (Z1 (lbX v3)) = true then
       if v4.length ≤ 100000 then
        if (v3 : Int) < (L0.length : Int) then
         ((Zd4 ((L0.getD v3 RA.z).a0) ((L0.getD v3 RA.z).a1) ((L0.getD v3 RA.z).a2) ((L0.getD v3 RA.z).a3) N).bind fun r => match r with
         | .r0 y8_0 y8_1 =>
          if (y8_0.length + 1) ≤ 1000000 then
           if (y8_0.length + 1) ≤ 100000 then
            if (Z1 (y8_0 ++ (bl [10]))) = true then
             if (v4.length + ((1 + (1 + (Zd (v3 : Int)).length)) + 1)) ≤ 100000 then
              if (((v3 + 1) : Nat) : Int) ≤ 9223372036854775807 then
               some (.inl (.h2m1 (v1) ((v3 + 1)) (((v4 ++ (lbX v3)) ++ (y8_0 ++ (bl [10])))) : ZB))
              else
              none
             else
             none
            else
            none
           else
           none
          else
          none
         )
        else
        if (((v3 + 1) : Nat) : Int) ≤ 9223372036854775807 then
         some (.inl (.h2m1 (v1) ((v3 + 1)) ((v4 ++ (lbX v3))) : ZB))
        else
        none
       else
       none
      else
      none
     else
     none
    else
    none
   else
   if (v3 : Int) < (L0.length : Int) then
    ((Zd4 ((L0.getD v3 RA.z).a0) ((L0.getD v3 RA.z).a1) ((L0.getD v3 RA.z).a2) ((L0.getD v3 RA.z).a3) N).bind fun r => match r with
    | .r0 y4_0 y4_1 =>
     if (y4_0.length + 1) ≤ 1000000 then
      if (y4_0.length + 1) ≤ 100000 then
       if (Z1 (y4_0 ++ (bl [10]))) = true then
        if v4.length ≤ 100000 then
         if (((v3 + 1) : Nat) : Int) ≤ 9223372036854775807 then
          some (.inl (.h2m1 (v1) ((v3 + 1)) ((v4 ++ (y4_0 ++ (bl [10])))) : ZB))
         else
         none
        else
        none
       else
       none
      else
      none
     else
     none
    )
   else
   if (((v3 + 1) : Nat) : Int) ≤ 9223372036854775807 then
    some (.inl (.h2m1 (v1) ((v3 + 1)) (v4) : ZB))
   else
   none
  else
  none
 else
 if 0 < v4.length then
  if v4.length ≤ 1000000000 then
   some (.inr (.r0 (v4) ((0 : Int)) : Za3))
  else
  none
 else
 none

def Za8 (L0 : List RA) (N : Nat) : ZB → Option (ZB ⊕ Za3)
 | .h1m0 v1 v4 => Zch L0 N v1 v4
 | .h2m0 v1 v3 => Zcz L0 N v1 v3
 | .h2m1 v1 v3 v4 => Zc0 L0 N v1 v3 v4

def ZdZ (L0 : List RA) (N : Nat) : Option (ZB ⊕ Za3) :=
 if (512 : Int) < (L0.length : Int) then
  some (.inr (.r0 (([] : List Int)) ((3 : Int)) : Za3))
 else
 some (.inl (.h1m0 ((List.replicate (L0.length + 1) (0 : Int))) (0) : ZB))

def ZdO (L0 : List RA) (N : Nat) : Option Za3 := goM (Za8 L0 N) N (ZdZ L0 N)

inductive Zbp where
 | r0 (w0 : Bool)

inductive ref11_SameX where
 | h1m0 (v2 : Nat)

def Zcp (L0 : List RA) (L1 : List RA) (N : Nat) (v2 : Nat) : Option (ref11_SameX ⊕ Zbp) :=
 if (v2 : Int) < (L0.length : Int) then
  if v2 < L1.length then
   if ¬ (((L0.getD v2 RA.z).a0 = (L1.getD v2 RA.z).a0 ∧ (L0.getD v2 RA.z).a1 = (L1.getD v2 RA.z).a1 ∧ (L0.getD v2 RA.z).a2 = (L1.getD v2 RA.z).a2 ∧ (L0.getD v2 RA.z).a3 = (L1.getD v2 RA.z).a3)) then
    some (.inr (.r0 (false) : Zbp))
   else
   if (((v2 + 1) : Nat) : Int) ≤ 9223372036854775807 then
    some (.inl (.h1m0 ((v2 + 1)) : ref11_SameX))
   else
   none
  else
  none
 else
 some (.inr (.r0 (true) : Zbp))

def Zes (L0 : List RA) (L1 : List RA) (N : Nat) : ref11_SameX → Option (ref11_SameX ⊕ Zbp)
 | .h1m0 v2 => Zcp L0 L1 N v2

def ZfA (L0 : List RA) (L1 : List RA) (N : Nat) : Option (ref11_SameX ⊕ Zbp) :=
 if ¬ ((L0.length : Int) = (L1.length : Int)) then
  some (.inr (.r0 (false) : Zbp))
 else
 some (.inl (.h1m0 (0) : ref11_SameX))

def ZfL (L0 : List RA) (L1 : List RA) (N : Nat) : Option Zbp := goM (Zes L0 L1 N) N (ZfA L0 L1 N)

inductive Za6 where
 | r0 (w0 : Bool)

inductive Zaq where
 | h1m0 (v0 : List Int)

def ZcB (L0 : List RA) (L1 : List Int) (N : Nat) (v0 : List Int) : Option (Zaq ⊕ Za6) :=
 ((Zcs (v0) N).bind fun r => match r with
 | .r0 y0_0 y0_1 =>
  if ¬ (y0_1 = 0) then
   some (.inr (.r0 (true) : Za6))
  else
  none
 | .r1 y0_0 =>
  ((ZdO (y0_0) N).bind fun r => match r with
  | .r0 y1_0 y1_1 =>
   ((Zcs (y1_0) N).bind fun r => match r with
   | .r0 _ _ =>
    none
   | .r1 y2_0 =>
    if y1_1 = 0 then
     ((ZfL (y0_0) (y2_0) N).bind fun r => match r with
     | .r0 y4_0 =>
      if y4_0 = true then
       some (.inr (.r0 (true) : Za6))
      else
      some (.inr (.r0 (false) : Za6))
     )
    else
    none
   )
  )
 )

def Zdk (L0 : List RA) (L1 : List Int) (N : Nat) : Zaq → Option (Zaq ⊕ Za6)
 | .h1m0 v0 => ZcB L0 L1 N v0

def ZdP (L0 : List RA) (L1 : List Int) (N : Nat) : Option (Zaq ⊕ Za6) :=
 ((Zic (L1) N).bind fun r => match r with
 | .r0 y0_0 =>
  ((ZdO ((fwL L0)) N).bind fun r => match r with
  | .r0 y1_0 y1_1 =>
   if y1_1 = 0 then
    ((Zcs (y1_0) N).bind fun r => match r with
    | .r0 _ _ =>
     none
    | .r1 y3_0 =>
     ((ZfL ((fwL L0)) (y3_0) N).bind fun r => match r with
     | .r0 y4_0 =>
      if y4_0 = true then
       some (.inl (.h1m0 (y0_0) : Zaq))
      else
      some (.inr (.r0 (false) : Za6))
     )
    )
   else
   some (.inl (.h1m0 (y0_0) : Zaq))
  )
 )

def Zij (L0 : List RA) (L1 : List Int) (N : Nat) : Option Za6 := goM (Zdk L0 L1 N) N (ZdP L0 L1 N)
end Ev
end Go.Proofs.YtlbbiflodemagaaDoor
/- How records are written, and which functions are told. -/
namespace Go.Proofs.YtlbbiflodemagaaDoor
open Go.RowKit
namespace Ev
set_option linter.unusedVariables false
def Zsb : FuncId → Option (List Value → Option Value) := fun f =>
 bif Nat.beq f 8 then some (fun l => match l with | [] => some (.bool true) | _ => none) else
 none
theorem ZuF (w : World) (ht : TabW w) : Calls Tryd.prog 8 #[] w (Ret (.bool true) w) := ZtA w ht
theorem ZxU : Zoo Zsb := fun f g h => by
 unfold Zsb at h
 cases hb : Nat.beq f 8 with
 | true =>
  rw [hb] at h
  obtain rfl := Nat.eq_of_beq_eq_true hb
  simp only [cond_true, Option.some.injEq] at h
  subst h
  refine ⟨⟨_, _, Tryd.func8, rfl⟩, fun args v ha hv w ht => ?_⟩
  obtain ⟨l⟩ := args
  cases l with
  | nil =>
   change some (Value.bool true) = some v at hv
   injection hv with hv
   subst hv
   exact ZuF w ht
  | cons x l => change (none : Option Value) = some v at hv; cases hv
 | false =>
  rw [hb] at h
  simp only [cond_false] at h
  cases h
def ZvS : FuncId → Bool := fun f => Nat.beq f 52 || Nat.beq f 51 || Nat.beq f 50 || Nat.beq f 62 || Nat.beq f 38 || Nat.beq f 7 || Nat.beq f 9 || Nat.beq f 13 || Nat.beq f 59 || Nat.beq f 16 || Nat.beq f 4 || Nat.beq f 12 || Nat.beq f 10 || Nat.beq f 61 || Nat.beq f 14
noncomputable def Zsc : FuncId → Option Ext := ZlO (Zr7 Zsb) ZvS
theorem ZwR : Fit Tryd.prog Zsc := Zr8 (Zu4 ZxU) (fun f h => by
 simp only [ZvS, Bool.or_eq_true] at h
 simp only [Nat.beq_eq] at h
 rcases h with (((((((((((((rfl | rfl) | rfl) | rfl) | rfl) | rfl) | rfl) | rfl) | rfl) | rfl) | rfl) | rfl) | rfl) | rfl) | rfl
 ·exact ⟨_, _, Tryd.func52, rfl⟩
 ·exact ⟨_, _, Tryd.func51, rfl⟩
 ·exact ⟨_, _, Tryd.func50, rfl⟩
 ·exact ⟨_, _, Tryd.func62, rfl⟩
 ·exact ⟨_, _, Tryd.func38, rfl⟩
 ·exact ⟨_, _, Tryd.func7, rfl⟩
 ·exact ⟨_, _, Tryd.func9, rfl⟩
 ·exact ⟨_, _, Tryd.func13, rfl⟩
 ·exact ⟨_, _, Tryd.func59, rfl⟩
 ·exact ⟨_, _, Tryd.func16, rfl⟩
 ·exact ⟨_, _, Tryd.func4, rfl⟩
 ·exact ⟨_, _, Tryd.func12, rfl⟩
 ·exact ⟨_, _, Tryd.func10, rfl⟩
 ·exact ⟨_, _, Tryd.func61, rfl⟩
 ·exact ⟨_, _, Tryd.func14, rfl⟩
 )
noncomputable def Zsd : FuncId → Option Ext := ZlO Zu3 (fun f => Nat.beq f 38)
theorem ZwS : Fit Tryd.prog Zsd := Zr8 ZwB (fun f h => by
 simp only [Nat.beq_eq] at h
 subst h
 exact ⟨_, _, Tryd.func38, rfl⟩)
noncomputable def Zbu : FuncId → Option Ext := fun x => bif Nat.beq x 30 then some (.hp (ZiD Tryd.prog Zsd 20000 30)) else Zsc x
theorem ZkA : Fit Tryd.prog Zbu := Zt9 ZwR (ZkP ZwS Tryd.func30 rfl)
end Ev
end Go.Proofs.YtlbbiflodemagaaDoor
/- Calls do what the plain functions say. -/
namespace Go.Proofs.YtlbbiflodemagaaDoor
open Go.RowKit
namespace Ev
set_option linter.unusedVariables false
set_option maxRecDepth 100000
noncomputable def Zo8 (L0 : List Int) : Zhb → Value
 | .r0 w0 => Value.string (Zb w0)
noncomputable def Zne (L0 : List Int) : Zhb → List (Option AObj)
 | .r0 w0 => []

theorem Zse (L0 : List Int) (N : Nat) : Fx Tryd.prog Zbu Tryd.f12 [] (κt L0) (Zo8 L0) (Zne L0) (Zic L0 N) := by
 unfold Zic
 exact fxF (orc := (Zp [] [] [] [] [(0, .bs (L0.take ((if (4000 : Int) < (((Zb L0).size : Nat) : Int) then (4000 : Int) else (((Zb L0).size : Nat) : Int))).toNat))])) (live := []) (u := Value.string (Zb (L0.take ((if (4000 : Int) < (((Zb L0).size : Nat) : Int) then (4000 : Int) else (((Zb L0).size : Nat) : Int))).toNat))) (bl := []) (ob := [(dP (0 ≤ (0 : Int) ∧ (0 : Int) ≤ (if (4000 : Int) < (((Zb L0).size : Nat) : Int) then (4000 : Int) else (((Zb L0).size : Nat) : Int)) ∧ (if (4000 : Int) < (((Zb L0).size : Nat) : Int) then (4000 : Int) else (((Zb L0).size : Nat) : Int)) ≤ ((((Zb L0)).size : Nat) : Int) ∧ ((Zb L0)).extract ((0 : Int)).toNat ((if (4000 : Int) < (((Zb L0).size : Nat) : Int) then (4000 : Int) else (((Zb L0).size : Nat) : Int))).toNat = Zb (L0.take ((if (4000 : Int) < (((Zb L0).size : Nat) : Int) then (4000 : Int) else (((Zb L0).size : Nat) : Int))).toNat)), true)]) (Za (Zj (sSl (M := L0) (R := (L0.take ((if (4000 : Int) < (((Zb L0).size : Nat) : Int) then (4000 : Int) else (((Zb L0).size : Nat) : Int))).toNat)) rfl (by (try simp only [ZH] at *); omega) (by (try simp only [ZH] at *); omega) (by (try simp only [ZH] at *); omega) (by first | rfl | simp))) Z6) rr trivial

theorem ZpB (L0 : List Int) (N : Nat) (r : Zhb) (h : Zic L0 N = some r) : LSpec Tryd.prog 12 (κt L0) [] (Zo8 L0 r) (Zne L0 r) :=
 Zm1 ZkA Tryd.func12 (by kernel_rfl) (by kernel_rfl) (fun r => by cases r <;> exact ZaV _ rfl) (Zse L0 N) h

noncomputable def ZjR (L0 w0 : List Int) (n : Nat) : Za5 := .call [] (Value.string (Zb w0)) [] 0
def Znf (A : Array Value) (L0 w0 : List Int) (n : Nat) : Prop := Z3 Tryd.prog 12 A [] (Value.string (Zb w0)) [] n 0

theorem Ztf (A : Array Value) (L0 w0 : List Int) (N : Nat) (h : Zic L0 N = some (.r0 w0)) (n : Nat) (hA : A = (κt L0)) (hnd : ([] : List Nat).Nodup) (hlt : ∀ k ∈ ([] : List Nat), k < n) : Znf A L0 w0  n :=
 Zae hA (cX0 (show LSpec Tryd.prog 12 (κt L0) [] (Value.string (Zb w0)) [] from ZpB L0 N _ h) [] n [] hnd hlt)

noncomputable def ZjI (a0 a1 a2 a3 : Int) : asm_LineR → Value
 | .r0 w0 w1 => Value.tuple #[Value.string (Zb w0), vi w1]
noncomputable def Zi6 (a0 a1 a2 a3 : Int) : asm_LineR → List (Option AObj)
 | .r0 w0 w1 => []

noncomputable def ZcC : FuncId → Option Ext := fun f => bif Nat.beq f 16 then none else Zbu f
theorem Zsf : Fit Tryd.prog ZcC := Zh2 ZkA _

abbrev ZfB (a0 a1 a2 a3 : Int) (r : asm_LineR) : Prop := Gx Tryd.prog 7 [] (κE a0 a1 a2 a3) (ZjI a0 a1 a2 a3) (Zi6 a0 a1 a2 a3) (some r)
theorem Za0 {a0 : Int} {a1 : Int} {a2 : Int} {a3 : Int} {r : asm_LineR} {orc : Orc} {u : Value} {ob : OB} (hev : Zan [] (Zar Tryd.prog ZcC 7 [] (κE a0 a1 a2 a3) 4000 orc) = some (u, [], ob)) (ho : ∀ p ∈ ob, p.1 = p.2) (hv : ZjI a0 a1 a2 a3 r = Zam (rho [] far) 3 u ∧ ZY 3 u = true) (hp : Zi6 a0 a1 a2 a3 r = [] := by rfl) : ZfB a0 a1 a2 a3 r :=
 Zku Zsf (live := []) (bl := []) hev ho (by rw [hp]; rfl) (by decide) (by rfl) hv (by rw [hp]; trivial) (by rw [hp]; exact ZaV _ rfl)

noncomputable def Zh9 (a0 a1 a2 a3 y0_0 : Int) : OB := (dP (Zaz (κE a0 a1 a2 a3) (a0) (a1) (a2) (a3)  y0_0  1), true) :: []

theorem Zlc {a0 : Int} {a1 : Int} {a2 : Int} {a3 : Int} (orc : Orc) (ob : OB) (ho : ∀ p ∈ ob, p.1 = p.2) (hev : Zan [] (Zar Tryd.prog ZcC 7 [] (κE a0 a1 a2 a3) 4000 orc) = some (Value.tuple #[Value.string ⟨#[]⟩, vq], [], ob) := by as_aux_lemma => kernel_rfl) : ZfB a0 a1 a2 a3 (.r0 (([] : List Int)) (0) : asm_LineR) := Za0 hev ho ⟨Eq.trans (show (Value.tuple #[Value.string (Zb ([] : List Int)), vq] : Value) = Value.tuple #[Value.string ⟨#[]⟩, vq] from (Zaj (Zh rfl (Zh rfl rfl)))) (by rfl), by rfl⟩

noncomputable def Zac (a0 a1 a2 a3 y0_0 : Int) : OB := (κM a0) :: ((y0_0 != (0 : Int)), false) :: Zh9 a0 a1 a2 a3 y0_0

theorem ZuG {a0 : Int} {a1 : Int} {a2 : Int} {a3 : Int} (orc : Orc) (ob : OB) (ho : ∀ p ∈ ob, p.1 = p.2) (hev : Zan [] (Zar Tryd.prog ZcC 7 [] (κE a0 a1 a2 a3) 4000 orc) = some (Value.tuple #[Value.string ⟨#[98, 101, 103, 105, 110]⟩, vq], [], ob) := by as_aux_lemma => kernel_rfl) : ZfB a0 a1 a2 a3 (.r0 ((bl [98, 101, 103, 105, 110])) (0) : asm_LineR) := Za0 hev ho ⟨Eq.trans (show (Value.tuple #[Value.string (Zb (bl [98, 101, 103, 105, 110])), vq] : Value) = Value.tuple #[Value.string ⟨#[98, 101, 103, 105, 110]⟩, vq] from (Zaj (Zh rfl (Zh rfl rfl)))) (by rfl), by rfl⟩

theorem ZuH {a0 : Int} {a1 : Int} {a2 : Int} {a3 : Int} (orc : Orc) (ob : OB) (ho : ∀ p ∈ ob, p.1 = p.2) (hev : Zan [] (Zar Tryd.prog ZcC 7 [] (κE a0 a1 a2 a3) 4000 orc) = some (Value.tuple #[Value.string ⟨#[101, 108, 115, 101]⟩, vq], [], ob) := by as_aux_lemma => kernel_rfl) : ZfB a0 a1 a2 a3 (.r0 ((bl [101, 108, 115, 101])) (0) : asm_LineR) := Za0 hev ho ⟨Eq.trans (show (Value.tuple #[Value.string (Zb (bl [101, 108, 115, 101])), vq] : Value) = Value.tuple #[Value.string ⟨#[101, 108, 115, 101]⟩, vq] from (Zaj (Zh rfl (Zh rfl rfl)))) (by rfl), by rfl⟩

theorem ZuI {a0 : Int} {a1 : Int} {a2 : Int} {a3 : Int} (orc : Orc) (ob : OB) (ho : ∀ p ∈ ob, p.1 = p.2) (hev : Zan [] (Zar Tryd.prog ZcC 7 [] (κE a0 a1 a2 a3) 4000 orc) = some (Value.tuple #[Value.string ⟨#[101, 110, 100]⟩, vq], [], ob) := by as_aux_lemma => kernel_rfl) : ZfB a0 a1 a2 a3 (.r0 ((bl [101, 110, 100])) (0) : asm_LineR) := Za0 hev ho ⟨Eq.trans (show (Value.tuple #[Value.string (Zb (bl [101, 110, 100])), vq] : Value) = Value.tuple #[Value.string ⟨#[101, 110, 100]⟩, vq] from (Zaj (Zh rfl (Zh rfl rfl)))) (by rfl), by rfl⟩

theorem ZuJ {a0 : Int} {a1 : Int} {a2 : Int} {a3 : Int} (orc : Orc) (ob : OB) (ho : ∀ p ∈ ob, p.1 = p.2) (hev : Zan [] (Zar Tryd.prog ZcC 7 [] (κE a0 a1 a2 a3) 4000 orc) = some (Value.tuple #[Value.string ⟨#[114, 101, 116, 114, 121]⟩, vq], [], ob) := by as_aux_lemma => kernel_rfl) : ZfB a0 a1 a2 a3 (.r0 ((bl [114, 101, 116, 114, 121])) (0) : asm_LineR) := Za0 hev ho ⟨Eq.trans (show (Value.tuple #[Value.string (Zb (bl [114, 101, 116, 114, 121])), vq] : Value) = Value.tuple #[Value.string ⟨#[114, 101, 116, 114, 121]⟩, vq] from (Zaj (Zh rfl (Zh rfl rfl)))) (by rfl), by rfl⟩

theorem ZuK {a0 : Int} {a1 : Int} {a2 : Int} {a3 : Int} (orc : Orc) (ob : OB) (ho : ∀ p ∈ ob, p.1 = p.2) (hev : Zan [] (Zar Tryd.prog ZcC 7 [] (κE a0 a1 a2 a3) 4000 orc) = some (Value.tuple #[Value.string ⟨#[104, 97, 108, 116]⟩, vq], [], ob) := by as_aux_lemma => kernel_rfl) : ZfB a0 a1 a2 a3 (.r0 ((bl [104, 97, 108, 116])) (0) : asm_LineR) := Za0 hev ho ⟨Eq.trans (show (Value.tuple #[Value.string (Zb (bl [104, 97, 108, 116])), vq] : Value) = Value.tuple #[Value.string ⟨#[104, 97, 108, 116]⟩, vq] from (Zaj (Zh rfl (Zh rfl rfl)))) (by rfl), by rfl⟩

noncomputable abbrev κbI (a3 : Int) := ((Zb (bl [114])) ++ (Zb (Zd a3)))
noncomputable abbrev κbB (a3 : Int) := (dP (((((Zb (bl [114]))).size + ((Zb (Zd a3))).size : Nat) : Int) ≤ IntKind.i64.max), true)
noncomputable abbrev κbo (a2 : Int) := ((Zb (bl [114])) ++ (Zb (Zd a2)))
noncomputable abbrev κbm := [(0, false), (1, false), (2, false), (3, false), (4, false), (5, false), (6, false), (7, false), (8, false), (9, false), (10, false), (16, true), (17, true)]
noncomputable abbrev κbe (a2 : Int) := (dP (((((Zb (bl [114]))).size + ((Zb (Zd a2))).size : Nat) : Int) ≤ IntKind.i64.max), true)
noncomputable abbrev κ4 := [(0, false), (1, false), (2, false), (3, false), (4, false), (5, false), (6, false), (7, false), (8, false), (9, false), (10, false), (14, true), (16, true), (18, true), (19, true)]
noncomputable abbrev κU (a3 : Int) := ((decide ((-9223372036854775808 : Int) ≤ a3) && decide (a3 ≤ (9223372036854775807 : Int))), true)
noncomputable abbrev κF (a2 : Int) := ((decide ((-9223372036854775808 : Int) ≤ a2) && decide (a2 ≤ (9223372036854775807 : Int))), true)
noncomputable abbrev κu (a1 : Int) := ((Zb (bl [114])) ++ (Zb (Zd a1)))
noncomputable abbrev κs (a0 : Int) (a1 : Int) (a2 : Int) (a3 : Int) (y0_0 : Int) := [(0, (Z5 (a0) (a1) (a2) (a3)  y0_0  1))]
noncomputable abbrev κm (a1 : Int) := (dP (((((Zb (bl [114]))).size + ((Zb (Zd a1))).size : Nat) : Int) ≤ IntKind.i64.max), true)
noncomputable abbrev κk (a1 : Int) := ((decide ((-9223372036854775808 : Int) ≤ a1) && decide (a1 ≤ (9223372036854775807 : Int))), true)
set_option maxHeartbeats 4000000 in
theorem Ztg (a0 a1 a2 a3 : Int) (N : Nat) : Gx Tryd.prog 7 [] (κE a0 a1 a2 a3) (ZjI a0 a1 a2 a3) (Zi6 a0 a1 a2 a3) (Zd4 a0 a1 a2 a3 N) := by
 unfold Zd4
 refine ZaF (fun z0 c0 => ?_)
 cases z0 with
 | r0 y0_0 =>
  have w1 : OkL (Zh9 a0 a1 a2 a3 y0_0) :=
   Za (Zj (Za7 (κE a0 a1 a2 a3) (a0) (a1) (a2) (a3)  y0_0 N c0  1 rfl dcd dcd)) <| Z6
  refine Zc (fun g1 => ?_) (fun g1 => ?_)
  ·
   exact Za0 (orc := (Zs [o1] [] [] [] (κs a0 a1 a2 a3 y0_0))) (u := Value.tuple #[Value.string ⟨#[]⟩, vi y0_0]) (ob := (((y0_0 != (0 : Int)), true) :: Zh9 a0 a1 a2 a3 y0_0)) (by as_aux_lemma => kernel_rfl) (oD <| w1) (vE (Zaj (Zh rfl (Zh rfl rfl))))
  ·
   refine Zc (fun g2 => ?_) (fun g2 => ?_)
   ·
    exact Zlc (Zs [o0, o1, o0, o0, o0, o0, o0, o0, o1] [] [] [] (κs a0 a1 a2 a3 y0_0)) ((κdq a0) :: (κbp a0) :: (κbc a0) :: (κbb a0) :: (κ3 a0) :: (κ2 a0) :: (κS a0) :: (κdq a0) :: ((y0_0 != (0 : Int)), false) :: Zh9 a0 a1 a2 a3 y0_0) (oY <| oF <| oF <| oF <| oF <| oF <| oF <| oY <| oE <| w1)
   ·
    have w3 : OkL (Zac a0 a1 a2 a3 y0_0) :=
     oN <| oE <| w1
    refine Zc (fun g3 => ?_) (fun g3 => ?_)
    ·
     exact Zlc (Zs [o0, o0, o1, o0, o0, o0, o0, o0, o0, o0, o1] [] [] [] (κs a0 a1 a2 a3 y0_0)) ((κdm a0) :: (κM a0) :: (κbp a0) :: (κbc a0) :: (κbb a0) :: (κ3 a0) :: (κ2 a0) :: (κS a0) :: (κdm a0) :: Zac a0 a1 a2 a3 y0_0) (oY <| oN <| oF <| oF <| oF <| oF <| oF <| oF <| oY <| w3)
    ·
     refine Zc (fun g4 => ?_) (fun g4 => ?_)
     ·
      exact Zlc (Zs [o0, o0, o0, o0, o0, o0, o0, o0, o0, o0, o0] [] [(0, 0), (1, 0)] [] (κs a0 a1 a2 a3 y0_0)) ((Nat.blt 0 21, true) :: (a0 == Int.ofNat 0, true) :: (κn a0) :: (κM a0) :: (κbp a0) :: (κbc a0) :: (κbb a0) :: (κ3 a0) :: (κ2 a0) :: (κS a0) :: (Nat.blt 0 21, true) :: (a0 == Int.ofNat 0, true) :: (κn a0) :: Zac a0 a1 a2 a3 y0_0) (oB <| oK <| oN <| oN <| oF <| oF <| oF <| oF <| oF <| oF <| oB <| oK <| oN <| w3)
     ·
      refine Zc (fun g5 => ?_) (fun g5 => ?_)
      ·
       refine Zc (fun g6 => ?_) (fun _ => Zq)
       refine Zc (fun g7 => ?_) (fun _ => Zq)
       refine Zc (fun g8 => ?_) (fun _ => Zq)
       refine Zc (fun g9 => ?_) (fun _ => Zq)
       refine Zc (fun g10 => ?_) (fun _ => Zq)
       refine Zc (fun g11 => ?_) (fun _ => Zq)
       exact Za0 (orc := (Zp [(0, false), (1, false), (2, false), (3, true), (5, true), (9, true), (10, true)] [] [(0, 1)] [] (κs a0 a1 a2 a3 y0_0))) (u := Value.tuple #[Value.string (((Zb (bl [99, 111, 110, 115, 116])) ++ (Zb (bl [32])) ++ (κu a1)) ++ (Zb (bl [32])) ++ (Zb (Zd a2))), vq]) (ob := (((Nat.ble ((((Zb (bl [99, 111, 110, 115, 116])) ++ (Zb (bl [32])) ++ (κu a1)) ++ (Zb (bl [32])) ++ (Zb (Zd a2)))).size 140737488355328), true) :: (κF a2) :: (κm a1) :: (κk a1) :: ((a0 == (1 : Int)), true) :: (Nat.blt 1 21, true) :: (a0 == Int.ofNat 1, true) :: (κn a0) :: Zac a0 a1 a2 a3 y0_0)) (by as_aux_lemma => kernel_rfl) (Za (ZbW (M := ((((bl [99, 111, 110, 115, 116, 32]) ++ ((bl [114]) ++ (Zd a1))) ++ (bl [32])) ++ (Zd a2))) sE ltA) <| Za (Zai (by omega) (by omega)) <| Za (Zj (ZA (x := (bl [114])) (y := (Zd a1)) rfl rfl ltA)) <| Za (Zai (by omega) (by omega)) <| oT <| oB <| oK <| oN <| w3) (vE (Zaj (Zh (congrArg Value.string sE) (Zh rfl rfl))))
      ·
       refine Zc (fun g6 => ?_) (fun g6 => ?_)
       ·
        refine Zc (fun g7 => ?_) (fun _ => Zq)
        refine Zc (fun g8 => ?_) (fun _ => Zq)
        refine Zc (fun g9 => ?_) (fun _ => Zq)
        exact Za0 (orc := (Zp κbm [] [(0, 2), (1, 2)] [] (κs a0 a1 a2 a3 y0_0))) (u := Value.tuple #[Value.string ((Zb (bl [110, 105, 108])) ++ (Zb (bl [32])) ++ (κu a1)), vq]) (ob := (((Nat.ble (((Zb (bl [110, 105, 108])) ++ (Zb (bl [32])) ++ (κu a1))).size 140737488355328), true) :: (κm a1) :: (κk a1) :: (Nat.blt 2 21, true) :: (a0 == Int.ofNat 2, true) :: (κn a0) :: (κM a0) :: (κbp a0) :: (κbc a0) :: (κbb a0) :: (κ3 a0) :: (κ2 a0) :: (κS a0) :: (Nat.blt 2 21, true) :: (a0 == Int.ofNat 2, true) :: (κn a0) :: Zac a0 a1 a2 a3 y0_0)) (by as_aux_lemma => kernel_rfl) (Za (ZbW (M := ((bl [110, 105, 108, 32]) ++ ((bl [114]) ++ (Zd a1)))) sE ltA) <| Za (Zj (ZA (x := (bl [114])) (y := (Zd a1)) rfl rfl ltA)) <| Za (Zai (by omega) (by omega)) <| oB <| oK <| oN <| oN <| oF <| oF <| oF <| oF <| oF <| oF <| oB <| oK <| oN <| w3) (vE (Zaj (Zh (congrArg Value.string sE) (Zh rfl rfl))))
       ·
        refine Zc (fun g7 => ?_) (fun g7 => ?_)
        ·
         refine Zc (fun g8 => ?_) (fun _ => Zq)
         refine Zc (fun g9 => ?_) (fun _ => Zq)
         refine Zc (fun g10 => ?_) (fun _ => Zq)
         refine Zc (fun g11 => ?_) (fun _ => Zq)
         refine Zc (fun g12 => ?_) (fun _ => Zq)
         refine Zc (fun g13 => ?_) (fun _ => Zq)
         exact Za0 (orc := (Zp [(0, false), (1, false), (2, false), (3, false), (4, false), (5, false), (6, false), (7, false), (8, false), (9, false), (10, false), (15, true), (17, true), (18, true)] [] [(0, 3), (1, 3)] [] (κs a0 a1 a2 a3 y0_0))) (u := Value.tuple #[Value.string (((Zb (bl [109, 111, 118, 101])) ++ (Zb (bl [32])) ++ (κu a1)) ++ (Zb (bl [32])) ++ (κbo a2)), vq]) (ob := (((Nat.ble ((((Zb (bl [109, 111, 118, 101])) ++ (Zb (bl [32])) ++ (κu a1)) ++ (Zb (bl [32])) ++ (κbo a2))).size 140737488355328), true) :: (κbe a2) :: (κF a2) :: (κm a1) :: (κk a1) :: (Nat.blt 3 21, true) :: (a0 == Int.ofNat 3, true) :: (κn a0) :: (κM a0) :: (κbp a0) :: (κbc a0) :: (κbb a0) :: (κ3 a0) :: (κ2 a0) :: (κS a0) :: (Nat.blt 3 21, true) :: (a0 == Int.ofNat 3, true) :: (κn a0) :: Zac a0 a1 a2 a3 y0_0)) (by as_aux_lemma => kernel_rfl) (Za (ZbW (M := ((((bl [109, 111, 118, 101, 32]) ++ ((bl [114]) ++ (Zd a1))) ++ (bl [32])) ++ ((bl [114]) ++ (Zd a2)))) sE ltA) <| Za (Zj (ZA (x := (bl [114])) (y := (Zd a2)) rfl rfl ltA)) <| Za (Zai (by omega) (by omega)) <| Za (Zj (ZA (x := (bl [114])) (y := (Zd a1)) rfl rfl ltA)) <| Za (Zai (by omega) (by omega)) <| oB <| oK <| oN <| oN <| oF <| oF <| oF <| oF <| oF <| oF <| oB <| oK <| oN <| w3) (vE (Zaj (Zh (congrArg Value.string sE) (Zh rfl rfl))))
        ·
         refine Zc (fun g8 => ?_) (fun g8 => ?_)
         ·
          refine Zc (fun g9 => ?_) (fun _ => Zq)
          refine Zc (fun g10 => ?_) (fun _ => Zq)
          refine Zc (fun g11 => ?_) (fun _ => Zq)
          refine Zc (fun g12 => ?_) (fun _ => Zq)
          refine Zc (fun g13 => ?_) (fun _ => Zq)
          refine Zc (fun g14 => ?_) (fun _ => Zq)
          refine Zc (fun g15 => ?_) (fun _ => Zq)
          refine Zc (fun g16 => ?_) (fun _ => Zq)
          refine Zc (fun g17 => ?_) (fun _ => Zq)
          exact Za0 (orc := (Zp κ4 [] [(0, 4), (1, 4)] [] (κs a0 a1 a2 a3 y0_0))) (u := Value.tuple #[Value.string ((((Zb (bl [97, 100, 100])) ++ (Zb (bl [32])) ++ (κu a1)) ++ (Zb (bl [32])) ++ (κbo a2)) ++ (Zb (bl [32])) ++ (κbI a3)), vq]) (ob := (((Nat.ble (((((Zb (bl [97, 100, 100])) ++ (Zb (bl [32])) ++ (κu a1)) ++ (Zb (bl [32])) ++ (κbo a2)) ++ (Zb (bl [32])) ++ (κbI a3))).size 140737488355328), true) :: (κbB a3) :: (κU a3) :: (κbe a2) :: (κF a2) :: (κm a1) :: (κk a1) :: (Nat.blt 4 21, true) :: (a0 == Int.ofNat 4, true) :: (κn a0) :: (κM a0) :: (κbp a0) :: (κbc a0) :: (κbb a0) :: (κ3 a0) :: (κ2 a0) :: (κS a0) :: (Nat.blt 4 21, true) :: (a0 == Int.ofNat 4, true) :: (κn a0) :: Zac a0 a1 a2 a3 y0_0)) (by as_aux_lemma => kernel_rfl) (Za (ZbW (M := ((((((bl [97, 100, 100, 32]) ++ ((bl [114]) ++ (Zd a1))) ++ (bl [32])) ++ ((bl [114]) ++ (Zd a2))) ++ (bl [32])) ++ ((bl [114]) ++ (Zd a3)))) sE ltA) <| Za (Zj (ZA (x := (bl [114])) (y := (Zd a3)) rfl rfl ltA)) <| Za (Zai (by omega) (by omega)) <| Za (Zj (ZA (x := (bl [114])) (y := (Zd a2)) rfl rfl ltA)) <| Za (Zai (by omega) (by omega)) <| Za (Zj (ZA (x := (bl [114])) (y := (Zd a1)) rfl rfl ltA)) <| Za (Zai (by omega) (by omega)) <| oB <| oK <| oN <| oN <| oF <| oF <| oF <| oF <| oF <| oF <| oB <| oK <| oN <| w3) (vE (Zaj (Zh (congrArg Value.string sE) (Zh rfl rfl))))
         ·
          refine Zc (fun g9 => ?_) (fun g9 => ?_)
          ·
           refine Zc (fun g10 => ?_) (fun _ => Zq)
           refine Zc (fun g11 => ?_) (fun _ => Zq)
           refine Zc (fun g12 => ?_) (fun _ => Zq)
           refine Zc (fun g13 => ?_) (fun _ => Zq)
           refine Zc (fun g14 => ?_) (fun _ => Zq)
           refine Zc (fun g15 => ?_) (fun _ => Zq)
           refine Zc (fun g16 => ?_) (fun _ => Zq)
           refine Zc (fun g17 => ?_) (fun _ => Zq)
           refine Zc (fun g18 => ?_) (fun _ => Zq)
           exact Za0 (orc := (Zp κ4 [] [(0, 5), (1, 5)] [] (κs a0 a1 a2 a3 y0_0))) (u := Value.tuple #[Value.string ((((Zb (bl [115, 117, 98])) ++ (Zb (bl [32])) ++ (κu a1)) ++ (Zb (bl [32])) ++ (κbo a2)) ++ (Zb (bl [32])) ++ (κbI a3)), vq]) (ob := (((Nat.ble (((((Zb (bl [115, 117, 98])) ++ (Zb (bl [32])) ++ (κu a1)) ++ (Zb (bl [32])) ++ (κbo a2)) ++ (Zb (bl [32])) ++ (κbI a3))).size 140737488355328), true) :: (κbB a3) :: (κU a3) :: (κbe a2) :: (κF a2) :: (κm a1) :: (κk a1) :: (Nat.blt 5 21, true) :: (a0 == Int.ofNat 5, true) :: (κn a0) :: (κM a0) :: (κbp a0) :: (κbc a0) :: (κbb a0) :: (κ3 a0) :: (κ2 a0) :: (κS a0) :: (Nat.blt 5 21, true) :: (a0 == Int.ofNat 5, true) :: (κn a0) :: Zac a0 a1 a2 a3 y0_0)) (by as_aux_lemma => kernel_rfl) (Za (ZbW (M := ((((((bl [115, 117, 98, 32]) ++ ((bl [114]) ++ (Zd a1))) ++ (bl [32])) ++ ((bl [114]) ++ (Zd a2))) ++ (bl [32])) ++ ((bl [114]) ++ (Zd a3)))) sE ltA) <| Za (Zj (ZA (x := (bl [114])) (y := (Zd a3)) rfl rfl ltA)) <| Za (Zai (by omega) (by omega)) <| Za (Zj (ZA (x := (bl [114])) (y := (Zd a2)) rfl rfl ltA)) <| Za (Zai (by omega) (by omega)) <| Za (Zj (ZA (x := (bl [114])) (y := (Zd a1)) rfl rfl ltA)) <| Za (Zai (by omega) (by omega)) <| oB <| oK <| oN <| oN <| oF <| oF <| oF <| oF <| oF <| oF <| oB <| oK <| oN <| w3) (vE (Zaj (Zh (congrArg Value.string sE) (Zh rfl rfl))))
          ·
           refine Zc (fun g10 => ?_) (fun g10 => ?_)
           ·
            refine Zc (fun g11 => ?_) (fun _ => Zq)
            refine Zc (fun g12 => ?_) (fun _ => Zq)
            refine Zc (fun g13 => ?_) (fun _ => Zq)
            refine Zc (fun g14 => ?_) (fun _ => Zq)
            refine Zc (fun g15 => ?_) (fun _ => Zq)
            refine Zc (fun g16 => ?_) (fun _ => Zq)
            refine Zc (fun g17 => ?_) (fun _ => Zq)
            refine Zc (fun g18 => ?_) (fun _ => Zq)
            refine Zc (fun g19 => ?_) (fun _ => Zq)
            exact Za0 (orc := (Zp κ4 [] [(0, 6), (1, 6)] [] (κs a0 a1 a2 a3 y0_0))) (u := Value.tuple #[Value.string ((((Zb (bl [108, 101, 115, 115])) ++ (Zb (bl [32])) ++ (κu a1)) ++ (Zb (bl [32])) ++ (κbo a2)) ++ (Zb (bl [32])) ++ (κbI a3)), vq]) (ob := (((Nat.ble (((((Zb (bl [108, 101, 115, 115])) ++ (Zb (bl [32])) ++ (κu a1)) ++ (Zb (bl [32])) ++ (κbo a2)) ++ (Zb (bl [32])) ++ (κbI a3))).size 140737488355328), true) :: (κbB a3) :: (κU a3) :: (κbe a2) :: (κF a2) :: (κm a1) :: (κk a1) :: (Nat.blt 6 21, true) :: (a0 == Int.ofNat 6, true) :: (κn a0) :: (κM a0) :: (κbp a0) :: (κbc a0) :: (κbb a0) :: (κ3 a0) :: (κ2 a0) :: (κS a0) :: (Nat.blt 6 21, true) :: (a0 == Int.ofNat 6, true) :: (κn a0) :: Zac a0 a1 a2 a3 y0_0)) (by as_aux_lemma => kernel_rfl) (Za (ZbW (M := ((((((bl [108, 101, 115, 115, 32]) ++ ((bl [114]) ++ (Zd a1))) ++ (bl [32])) ++ ((bl [114]) ++ (Zd a2))) ++ (bl [32])) ++ ((bl [114]) ++ (Zd a3)))) sE ltA) <| Za (Zj (ZA (x := (bl [114])) (y := (Zd a3)) rfl rfl ltA)) <| Za (Zai (by omega) (by omega)) <| Za (Zj (ZA (x := (bl [114])) (y := (Zd a2)) rfl rfl ltA)) <| Za (Zai (by omega) (by omega)) <| Za (Zj (ZA (x := (bl [114])) (y := (Zd a1)) rfl rfl ltA)) <| Za (Zai (by omega) (by omega)) <| oB <| oK <| oN <| oN <| oF <| oF <| oF <| oF <| oF <| oF <| oB <| oK <| oN <| w3) (vE (Zaj (Zh (congrArg Value.string sE) (Zh rfl rfl))))
           ·
            refine Zc (fun g11 => ?_) (fun g11 => ?_)
            ·
             refine Zc (fun g12 => ?_) (fun _ => Zq)
             refine Zc (fun g13 => ?_) (fun _ => Zq)
             refine Zc (fun g14 => ?_) (fun _ => Zq)
             refine Zc (fun g15 => ?_) (fun _ => Zq)
             refine Zc (fun g16 => ?_) (fun _ => Zq)
             refine Zc (fun g17 => ?_) (fun _ => Zq)
             refine Zc (fun g18 => ?_) (fun _ => Zq)
             refine Zc (fun g19 => ?_) (fun _ => Zq)
             refine Zc (fun g20 => ?_) (fun _ => Zq)
             exact Za0 (orc := (Zp κ4 [] [(0, 7), (1, 7)] [] (κs a0 a1 a2 a3 y0_0))) (u := Value.tuple #[Value.string ((((Zb (bl [101, 113])) ++ (Zb (bl [32])) ++ (κu a1)) ++ (Zb (bl [32])) ++ (κbo a2)) ++ (Zb (bl [32])) ++ (κbI a3)), vq]) (ob := (((Nat.ble (((((Zb (bl [101, 113])) ++ (Zb (bl [32])) ++ (κu a1)) ++ (Zb (bl [32])) ++ (κbo a2)) ++ (Zb (bl [32])) ++ (κbI a3))).size 140737488355328), true) :: (κbB a3) :: (κU a3) :: (κbe a2) :: (κF a2) :: (κm a1) :: (κk a1) :: (Nat.blt 7 21, true) :: (a0 == Int.ofNat 7, true) :: (κn a0) :: (κM a0) :: (κbp a0) :: (κbc a0) :: (κbb a0) :: (κ3 a0) :: (κ2 a0) :: (κS a0) :: (Nat.blt 7 21, true) :: (a0 == Int.ofNat 7, true) :: (κn a0) :: Zac a0 a1 a2 a3 y0_0)) (by as_aux_lemma => kernel_rfl) (Za (ZbW (M := ((((((bl [101, 113, 32]) ++ ((bl [114]) ++ (Zd a1))) ++ (bl [32])) ++ ((bl [114]) ++ (Zd a2))) ++ (bl [32])) ++ ((bl [114]) ++ (Zd a3)))) sE ltA) <| Za (Zj (ZA (x := (bl [114])) (y := (Zd a3)) rfl rfl ltA)) <| Za (Zai (by omega) (by omega)) <| Za (Zj (ZA (x := (bl [114])) (y := (Zd a2)) rfl rfl ltA)) <| Za (Zai (by omega) (by omega)) <| Za (Zj (ZA (x := (bl [114])) (y := (Zd a1)) rfl rfl ltA)) <| Za (Zai (by omega) (by omega)) <| oB <| oK <| oN <| oN <| oF <| oF <| oF <| oF <| oF <| oF <| oB <| oK <| oN <| w3) (vE (Zaj (Zh (congrArg Value.string sE) (Zh rfl rfl))))
            ·
             refine Zc (fun g12 => ?_) (fun g12 => ?_)
             ·
              refine Zc (fun g13 => ?_) (fun _ => Zq)
              refine Zc (fun g14 => ?_) (fun _ => Zq)
              refine Zc (fun g15 => ?_) (fun _ => Zq)
              exact Za0 (orc := (Zp [(0, false), (1, false), (2, false), (3, false), (4, true), (7, true), (8, true)] [] [(0, 8)] [] (κs a0 a1 a2 a3 y0_0))) (u := Value.tuple #[Value.string ((Zb (bl [106, 117, 109, 112])) ++ (Zb (bl [32])) ++ ((Zb (bl [64])) ++ ((Zb (bl [76])) ++ (Zb (Zd a1))))), vq]) (ob := (((Nat.ble (((Zb (bl [106, 117, 109, 112])) ++ (Zb (bl [32])) ++ ((Zb (bl [64])) ++ ((Zb (bl [76])) ++ (Zb (Zd a1)))))).size 140737488355328), true) :: (dP (((((Zb (bl [64]))).size + (((Zb (bl [76])) ++ (Zb (Zd a1)))).size : Nat) : Int) ≤ IntKind.i64.max), true) :: (dP (((((Zb (bl [76]))).size + ((Zb (Zd a1))).size : Nat) : Int) ≤ IntKind.i64.max), true) :: (κk a1) :: ((a0 == (8 : Int)), true) :: (κS a0) :: (Nat.blt 8 21, true) :: (a0 == Int.ofNat 8, true) :: (κn a0) :: Zac a0 a1 a2 a3 y0_0)) (by as_aux_lemma => kernel_rfl) (Za (ZbW (M := ((bl [106, 117, 109, 112, 32]) ++ ((bl [64]) ++ ((bl [76]) ++ (Zd a1))))) sE ltA) <| Za (Zj (ZA (x := (bl [64])) (y := ((bl [76]) ++ (Zd a1))) rfl sE ltA)) <| Za (Zj (ZA (x := (bl [76])) (y := (Zd a1)) rfl rfl ltA)) <| Za (Zai (by omega) (by omega)) <| oT <| oF <| oB <| oK <| oN <| w3) (vE (Zaj (Zh (congrArg Value.string sE) (Zh rfl rfl))))
             ·
              refine Zc (fun g13 => ?_) (fun g13 => ?_)
              ·
               refine Zc (fun g14 => ?_) (fun _ => Zq)
               refine Zc (fun g15 => ?_) (fun _ => Zq)
               refine Zc (fun g16 => ?_) (fun _ => Zq)
               refine Zc (fun g17 => ?_) (fun _ => Zq)
               refine Zc (fun g18 => ?_) (fun _ => Zq)
               refine Zc (fun g19 => ?_) (fun _ => Zq)
               exact Za0 (orc := (Zp [(0, false), (1, false), (2, false), (3, false), (4, false), (5, true), (7, true), (10, true), (11, true)] [] [(0, 9)] [] (κs a0 a1 a2 a3 y0_0))) (u := Value.tuple #[Value.string (((Zb (bl [106, 117, 109, 112, 122])) ++ (Zb (bl [32])) ++ (κu a1)) ++ (Zb (bl [32])) ++ ((Zb (bl [64])) ++ ((Zb (bl [76])) ++ (Zb (Zd a2))))), vq]) (ob := (((Nat.ble ((((Zb (bl [106, 117, 109, 112, 122])) ++ (Zb (bl [32])) ++ (κu a1)) ++ (Zb (bl [32])) ++ ((Zb (bl [64])) ++ ((Zb (bl [76])) ++ (Zb (Zd a2)))))).size 140737488355328), true) :: (dP (((((Zb (bl [64]))).size + (((Zb (bl [76])) ++ (Zb (Zd a2)))).size : Nat) : Int) ≤ IntKind.i64.max), true) :: (dP (((((Zb (bl [76]))).size + ((Zb (Zd a2))).size : Nat) : Int) ≤ IntKind.i64.max), true) :: (κF a2) :: (κm a1) :: (κk a1) :: ((a0 == (9 : Int)), true) :: (κ2 a0) :: (κS a0) :: (Nat.blt 9 21, true) :: (a0 == Int.ofNat 9, true) :: (κn a0) :: Zac a0 a1 a2 a3 y0_0)) (by as_aux_lemma => kernel_rfl) (Za (ZbW (M := ((((bl [106, 117, 109, 112, 122, 32]) ++ ((bl [114]) ++ (Zd a1))) ++ (bl [32])) ++ ((bl [64]) ++ ((bl [76]) ++ (Zd a2))))) sE ltA) <| Za (Zj (ZA (x := (bl [64])) (y := ((bl [76]) ++ (Zd a2))) rfl sE ltA)) <| Za (Zj (ZA (x := (bl [76])) (y := (Zd a2)) rfl rfl ltA)) <| Za (Zai (by omega) (by omega)) <| Za (Zj (ZA (x := (bl [114])) (y := (Zd a1)) rfl rfl ltA)) <| Za (Zai (by omega) (by omega)) <| oT <| oF <| oF <| oB <| oK <| oN <| w3) (vE (Zaj (Zh (congrArg Value.string sE) (Zh rfl rfl))))
              ·
               refine Zc (fun g14 => ?_) (fun g14 => ?_)
               ·
                refine Zc (fun g15 => ?_) (fun _ => Zq)
                refine Zc (fun g16 => ?_) (fun _ => Zq)
                refine Zc (fun g17 => ?_) (fun _ => Zq)
                exact Za0 (orc := (Zp κbm [] [(0, 10), (1, 10)] [] (κs a0 a1 a2 a3 y0_0))) (u := Value.tuple #[Value.string ((Zb (bl [114, 111, 111, 116])) ++ (Zb (bl [32])) ++ (κu a1)), vq]) (ob := (((Nat.ble (((Zb (bl [114, 111, 111, 116])) ++ (Zb (bl [32])) ++ (κu a1))).size 140737488355328), true) :: (κm a1) :: (κk a1) :: (Nat.blt 10 21, true) :: (a0 == Int.ofNat 10, true) :: (κn a0) :: (κM a0) :: (κbp a0) :: (κbc a0) :: (κbb a0) :: (κ3 a0) :: (κ2 a0) :: (κS a0) :: (Nat.blt 10 21, true) :: (a0 == Int.ofNat 10, true) :: (κn a0) :: Zac a0 a1 a2 a3 y0_0)) (by as_aux_lemma => kernel_rfl) (Za (ZbW (M := ((bl [114, 111, 111, 116, 32]) ++ ((bl [114]) ++ (Zd a1)))) sE ltA) <| Za (Zj (ZA (x := (bl [114])) (y := (Zd a1)) rfl rfl ltA)) <| Za (Zai (by omega) (by omega)) <| oB <| oK <| oN <| oN <| oF <| oF <| oF <| oF <| oF <| oF <| oB <| oK <| oN <| w3) (vE (Zaj (Zh (congrArg Value.string sE) (Zh rfl rfl))))
               ·
                refine Zc (fun g15 => ?_) (fun g15 => ?_)
                ·
                 refine Zc (fun g16 => ?_) (fun _ => Zq)
                 refine Zc (fun g17 => ?_) (fun _ => Zq)
                 refine Zc (fun g18 => ?_) (fun _ => Zq)
                 refine Zc (fun g19 => ?_) (fun _ => Zq)
                 refine Zc (fun g20 => ?_) (fun _ => Zq)
                 refine Zc (fun g21 => ?_) (fun _ => Zq)
                 refine Zc (fun g22 => ?_) (fun _ => Zq)
                 refine Zc (fun g23 => ?_) (fun _ => Zq)
                 refine Zc (fun g24 => ?_) (fun _ => Zq)
                 exact Za0 (orc := (Zp [(0, false), (1, false), (2, false), (3, false), (4, false), (5, false), (6, true), (8, true), (12, true), (16, true), (17, true)] [] [(0, 11)] [] (κs a0 a1 a2 a3 y0_0))) (u := Value.tuple #[Value.string ((((Zb (bl [110, 101, 119])) ++ (Zb (bl [32])) ++ (κu a1)) ++ (Zb (bl [32])) ++ (Zb (Zd a2))) ++ (Zb (bl [32])) ++ (Zb (Zd a3))), vq]) (ob := (((Nat.ble (((((Zb (bl [110, 101, 119])) ++ (Zb (bl [32])) ++ (κu a1)) ++ (Zb (bl [32])) ++ (Zb (Zd a2))) ++ (Zb (bl [32])) ++ (Zb (Zd a3)))).size 140737488355328), true) :: (κU a3) :: (κF a2) :: (κm a1) :: (κk a1) :: ((a0 == (11 : Int)), true) :: (κ3 a0) :: (κ2 a0) :: (κS a0) :: (Nat.blt 11 21, true) :: (a0 == Int.ofNat 11, true) :: (κn a0) :: Zac a0 a1 a2 a3 y0_0)) (by as_aux_lemma => kernel_rfl) (Za (ZbW (M := ((((((bl [110, 101, 119, 32]) ++ ((bl [114]) ++ (Zd a1))) ++ (bl [32])) ++ (Zd a2)) ++ (bl [32])) ++ (Zd a3))) sE ltA) <| Za (Zai (by omega) (by omega)) <| Za (Zai (by omega) (by omega)) <| Za (Zj (ZA (x := (bl [114])) (y := (Zd a1)) rfl rfl ltA)) <| Za (Zai (by omega) (by omega)) <| oT <| oF <| oF <| oF <| oB <| oK <| oN <| w3) (vE (Zaj (Zh (congrArg Value.string sE) (Zh rfl rfl))))
                ·
                 refine Zc (fun g16 => ?_) (fun g16 => ?_)
                 ·
                  refine Zc (fun g17 => ?_) (fun _ => Zq)
                  refine Zc (fun g18 => ?_) (fun _ => Zq)
                  refine Zc (fun g19 => ?_) (fun _ => Zq)
                  exact Za0 (orc := (Zp κbm [] [(0, 12), (1, 12)] [] (κs a0 a1 a2 a3 y0_0))) (u := Value.tuple #[Value.string ((Zb (bl [102, 114, 101, 101])) ++ (Zb (bl [32])) ++ (κu a1)), vq]) (ob := (((Nat.ble (((Zb (bl [102, 114, 101, 101])) ++ (Zb (bl [32])) ++ (κu a1))).size 140737488355328), true) :: (κm a1) :: (κk a1) :: (Nat.blt 12 21, true) :: (a0 == Int.ofNat 12, true) :: (κn a0) :: (κM a0) :: (κbp a0) :: (κbc a0) :: (κbb a0) :: (κ3 a0) :: (κ2 a0) :: (κS a0) :: (Nat.blt 12 21, true) :: (a0 == Int.ofNat 12, true) :: (κn a0) :: Zac a0 a1 a2 a3 y0_0)) (by as_aux_lemma => kernel_rfl) (Za (ZbW (M := ((bl [102, 114, 101, 101, 32]) ++ ((bl [114]) ++ (Zd a1)))) sE ltA) <| Za (Zj (ZA (x := (bl [114])) (y := (Zd a1)) rfl rfl ltA)) <| Za (Zai (by omega) (by omega)) <| oB <| oK <| oN <| oN <| oF <| oF <| oF <| oF <| oF <| oF <| oB <| oK <| oN <| w3) (vE (Zaj (Zh (congrArg Value.string sE) (Zh rfl rfl))))
                 ·
                  refine Zc (fun g17 => ?_) (fun g17 => ?_)
                  ·
                   refine Zc (fun g18 => ?_) (fun _ => Zq)
                   refine Zc (fun g19 => ?_) (fun _ => Zq)
                   refine Zc (fun g20 => ?_) (fun _ => Zq)
                   refine Zc (fun g21 => ?_) (fun _ => Zq)
                   refine Zc (fun g22 => ?_) (fun _ => Zq)
                   refine Zc (fun g23 => ?_) (fun _ => Zq)
                   refine Zc (fun g24 => ?_) (fun _ => Zq)
                   refine Zc (fun g25 => ?_) (fun _ => Zq)
                   refine Zc (fun g26 => ?_) (fun _ => Zq)
                   exact Za0 (orc := (Zp [(0, false), (1, false), (2, false), (3, false), (4, false), (5, false), (6, false), (7, true), (9, true), (11, true), (15, true), (16, true)] [] [(0, 13)] [] (κs a0 a1 a2 a3 y0_0))) (u := Value.tuple #[Value.string ((((Zb (bl [103, 101, 116])) ++ (Zb (bl [32])) ++ (κu a1)) ++ (Zb (bl [32])) ++ (κbo a2)) ++ (Zb (bl [32])) ++ (Zb (Zd a3))), vq]) (ob := (((Nat.ble (((((Zb (bl [103, 101, 116])) ++ (Zb (bl [32])) ++ (κu a1)) ++ (Zb (bl [32])) ++ (κbo a2)) ++ (Zb (bl [32])) ++ (Zb (Zd a3)))).size 140737488355328), true) :: (κU a3) :: (κbe a2) :: (κF a2) :: (κm a1) :: (κk a1) :: ((a0 == (13 : Int)), true) :: (κbb a0) :: (κ3 a0) :: (κ2 a0) :: (κS a0) :: (Nat.blt 13 21, true) :: (a0 == Int.ofNat 13, true) :: (κn a0) :: Zac a0 a1 a2 a3 y0_0)) (by as_aux_lemma => kernel_rfl) (Za (ZbW (M := ((((((bl [103, 101, 116, 32]) ++ ((bl [114]) ++ (Zd a1))) ++ (bl [32])) ++ ((bl [114]) ++ (Zd a2))) ++ (bl [32])) ++ (Zd a3))) sE ltA) <| Za (Zai (by omega) (by omega)) <| Za (Zj (ZA (x := (bl [114])) (y := (Zd a2)) rfl rfl ltA)) <| Za (Zai (by omega) (by omega)) <| Za (Zj (ZA (x := (bl [114])) (y := (Zd a1)) rfl rfl ltA)) <| Za (Zai (by omega) (by omega)) <| oT <| oF <| oF <| oF <| oF <| oB <| oK <| oN <| w3) (vE (Zaj (Zh (congrArg Value.string sE) (Zh rfl rfl))))
                  ·
                   refine Zc (fun g18 => ?_) (fun g18 => ?_)
                   ·
                    refine Zc (fun g19 => ?_) (fun _ => Zq)
                    refine Zc (fun g20 => ?_) (fun _ => Zq)
                    refine Zc (fun g21 => ?_) (fun _ => Zq)
                    refine Zc (fun g22 => ?_) (fun _ => Zq)
                    refine Zc (fun g23 => ?_) (fun _ => Zq)
                    refine Zc (fun g24 => ?_) (fun _ => Zq)
                    refine Zc (fun g25 => ?_) (fun _ => Zq)
                    refine Zc (fun g26 => ?_) (fun _ => Zq)
                    refine Zc (fun g27 => ?_) (fun _ => Zq)
                    exact Za0 (orc := (Zp [(0, false), (1, false), (2, false), (3, false), (4, false), (5, false), (6, false), (7, false), (8, true), (10, true), (14, true), (16, true), (17, true)] [] [(0, 14)] [] (κs a0 a1 a2 a3 y0_0))) (u := Value.tuple #[Value.string ((((Zb (bl [115, 101, 116])) ++ (Zb (bl [32])) ++ (κu a1)) ++ (Zb (bl [32])) ++ (Zb (Zd a2))) ++ (Zb (bl [32])) ++ (κbI a3)), vq]) (ob := (((Nat.ble (((((Zb (bl [115, 101, 116])) ++ (Zb (bl [32])) ++ (κu a1)) ++ (Zb (bl [32])) ++ (Zb (Zd a2))) ++ (Zb (bl [32])) ++ (κbI a3))).size 140737488355328), true) :: (κbB a3) :: (κU a3) :: (κF a2) :: (κm a1) :: (κk a1) :: ((a0 == (14 : Int)), true) :: (κbc a0) :: (κbb a0) :: (κ3 a0) :: (κ2 a0) :: (κS a0) :: (Nat.blt 14 21, true) :: (a0 == Int.ofNat 14, true) :: (κn a0) :: Zac a0 a1 a2 a3 y0_0)) (by as_aux_lemma => kernel_rfl) (Za (ZbW (M := ((((((bl [115, 101, 116, 32]) ++ ((bl [114]) ++ (Zd a1))) ++ (bl [32])) ++ (Zd a2)) ++ (bl [32])) ++ ((bl [114]) ++ (Zd a3)))) sE ltA) <| Za (Zj (ZA (x := (bl [114])) (y := (Zd a3)) rfl rfl ltA)) <| Za (Zai (by omega) (by omega)) <| Za (Zai (by omega) (by omega)) <| Za (Zj (ZA (x := (bl [114])) (y := (Zd a1)) rfl rfl ltA)) <| Za (Zai (by omega) (by omega)) <| oT <| oF <| oF <| oF <| oF <| oF <| oB <| oK <| oN <| w3) (vE (Zaj (Zh (congrArg Value.string sE) (Zh rfl rfl))))
                   ·
                    refine Zc (fun g19 => ?_) (fun g19 => ?_)
                    ·
                     exact ZuG (Zs [o0, o0, o0, o0, o0, o0, o0, o0, o0, o0, o0] [] [(0, 15), (1, 15)] [] (κs a0 a1 a2 a3 y0_0)) ((Nat.blt 15 21, true) :: (a0 == Int.ofNat 15, true) :: (κn a0) :: (κM a0) :: (κbp a0) :: (κbc a0) :: (κbb a0) :: (κ3 a0) :: (κ2 a0) :: (κS a0) :: (Nat.blt 15 21, true) :: (a0 == Int.ofNat 15, true) :: (κn a0) :: Zac a0 a1 a2 a3 y0_0) (oB <| oK <| oN <| oN <| oF <| oF <| oF <| oF <| oF <| oF <| oB <| oK <| oN <| w3)
                    ·
                     refine Zc (fun g20 => ?_) (fun g20 => ?_)
                     ·
                      exact ZuH (Zs [o0, o0, o0, o0, o0, o0, o0, o0, o0, o0, o0] [] [(0, 16), (1, 16)] [] (κs a0 a1 a2 a3 y0_0)) ((Nat.blt 16 21, true) :: (a0 == Int.ofNat 16, true) :: (κn a0) :: (κM a0) :: (κbp a0) :: (κbc a0) :: (κbb a0) :: (κ3 a0) :: (κ2 a0) :: (κS a0) :: (Nat.blt 16 21, true) :: (a0 == Int.ofNat 16, true) :: (κn a0) :: Zac a0 a1 a2 a3 y0_0) (oB <| oK <| oN <| oN <| oF <| oF <| oF <| oF <| oF <| oF <| oB <| oK <| oN <| w3)
                     ·
                      refine Zc (fun g21 => ?_) (fun g21 => ?_)
                      ·
                       exact ZuI (Zs [o0, o0, o0, o0, o0, o0, o0, o0, o0, o0, o0] [] [(0, 17), (1, 17)] [] (κs a0 a1 a2 a3 y0_0)) ((Nat.blt 17 21, true) :: (a0 == Int.ofNat 17, true) :: (κn a0) :: (κM a0) :: (κbp a0) :: (κbc a0) :: (κbb a0) :: (κ3 a0) :: (κ2 a0) :: (κS a0) :: (Nat.blt 17 21, true) :: (a0 == Int.ofNat 17, true) :: (κn a0) :: Zac a0 a1 a2 a3 y0_0) (oB <| oK <| oN <| oN <| oF <| oF <| oF <| oF <| oF <| oF <| oB <| oK <| oN <| w3)
                      ·
                       refine Zc (fun g22 => ?_) (fun g22 => ?_)
                       ·
                        exact ZuJ (Zs [o0, o0, o0, o0, o0, o0, o0, o0, o0, o0, o0] [] [(0, 18), (1, 18)] [] (κs a0 a1 a2 a3 y0_0)) ((Nat.blt 18 21, true) :: (a0 == Int.ofNat 18, true) :: (κn a0) :: (κM a0) :: (κbp a0) :: (κbc a0) :: (κbb a0) :: (κ3 a0) :: (κ2 a0) :: (κS a0) :: (Nat.blt 18 21, true) :: (a0 == Int.ofNat 18, true) :: (κn a0) :: Zac a0 a1 a2 a3 y0_0) (oB <| oK <| oN <| oN <| oF <| oF <| oF <| oF <| oF <| oF <| oB <| oK <| oN <| w3)
                       ·
                        refine Zc (fun g23 => ?_) (fun g23 => ?_)
                        ·
                         refine Zc (fun g24 => ?_) (fun _ => Zq)
                         refine Zc (fun g25 => ?_) (fun _ => Zq)
                         refine Zc (fun g26 => ?_) (fun _ => Zq)
                         exact Za0 (orc := (Zp κbm [] [(0, 19), (1, 19)] [] (κs a0 a1 a2 a3 y0_0))) (u := Value.tuple #[Value.string ((Zb (bl [101, 109, 105, 116])) ++ (Zb (bl [32])) ++ (κu a1)), vq]) (ob := (((Nat.ble (((Zb (bl [101, 109, 105, 116])) ++ (Zb (bl [32])) ++ (κu a1))).size 140737488355328), true) :: (κm a1) :: (κk a1) :: (Nat.blt 19 21, true) :: (a0 == Int.ofNat 19, true) :: (κn a0) :: (κM a0) :: (κbp a0) :: (κbc a0) :: (κbb a0) :: (κ3 a0) :: (κ2 a0) :: (κS a0) :: (Nat.blt 19 21, true) :: (a0 == Int.ofNat 19, true) :: (κn a0) :: Zac a0 a1 a2 a3 y0_0)) (by as_aux_lemma => kernel_rfl) (Za (ZbW (M := ((bl [101, 109, 105, 116, 32]) ++ ((bl [114]) ++ (Zd a1)))) sE ltA) <| Za (Zj (ZA (x := (bl [114])) (y := (Zd a1)) rfl rfl ltA)) <| Za (Zai (by omega) (by omega)) <| oB <| oK <| oN <| oN <| oF <| oF <| oF <| oF <| oF <| oF <| oB <| oK <| oN <| w3) (vE (Zaj (Zh (congrArg Value.string sE) (Zh rfl rfl))))
                        ·
                         exact ZuK (Zs [o0, o0, o0, o0, o0, o0, o0, o0, o0, o0, o0] [] [(0, 20), (1, 20)] [] (κs a0 a1 a2 a3 y0_0)) ((Nat.blt 20 21, true) :: (a0 == Int.ofNat 20, true) :: (κn a0) :: (κM a0) :: (κbp a0) :: (κbc a0) :: (κbb a0) :: (κ3 a0) :: (κ2 a0) :: (κS a0) :: (Nat.blt 20 21, true) :: (a0 == Int.ofNat 20, true) :: (κn a0) :: Zac a0 a1 a2 a3 y0_0) (oB <| oK <| oN <| oN <| oF <| oF <| oF <| oF <| oF <| oF <| oB <| oK <| oN <| w3)

end Ev
end Go.Proofs.YtlbbiflodemagaaDoor
/- Calls do what the plain functions say. -/
namespace Go.Proofs.YtlbbiflodemagaaDoor
open Go.RowKit
namespace Ev
set_option linter.unusedVariables false
set_option maxRecDepth 100000
theorem Zq5 (a0 a1 a2 a3 : Int) (N : Nat) (r : asm_LineR) (h : Zd4 a0 a1 a2 a3 N = some r) : LSpec Tryd.prog 7 (κE a0 a1 a2 a3) [] (ZjI a0 a1 a2 a3 r) (Zi6 a0 a1 a2 a3 r) :=
 Ztg a0 a1 a2 a3 N r h

noncomputable abbrev κci (w0 : List Int) (w1 : Int) := (Value.tuple #[Value.string (Zb w0), vi w1])
noncomputable def Zi7 (a0 a1 a2 a3 : Int) (w0 : List Int) (w1 : Int) (n : Nat) : Za5 := .call [] (κci w0 w1) [] 0
def Zhc (A : Array Value) (a0 a1 a2 a3 : Int) (w0 : List Int) (w1 : Int) (n : Nat) : Prop := Z3 Tryd.prog 7 A [] (κci w0 w1) [] n 0

theorem Zi8 (A : Array Value) (a0 a1 a2 a3 : Int) (w0 : List Int) (w1 : Int) (N : Nat) (h : Zd4 a0 a1 a2 a3 N = some (.r0 w0 w1)) (n : Nat) (hA : A = (κE a0 a1 a2 a3)) (hnd : ([] : List Nat).Nodup) (hlt : ∀ k ∈ ([] : List Nat), k < n) : Zhc A a0 a1 a2 a3 w0 w1  n :=
 Zae hA (cX0 (show LSpec Tryd.prog 7 (κE a0 a1 a2 a3) [] (κci w0 w1) [] from Zq5 a0 a1 a2 a3 N _ h) [] n [] hnd hlt)

noncomputable def Zo9 (L0 : List RA) : Za3 → Value
 | .r0 w0 w1 => Value.tuple #[Value.string (Zb w0), vi w1]
noncomputable def Zng (L0 : List RA) : Za3 → List (Option AObj)
 | .r0 w0 w1 => []

def Zth : ZB → Nat
 | .h1m0 v1 v4 => 1
 | .h2m0 v1 v3 => 2
 | .h2m1 v1 v3 v4 => 2
noncomputable abbrev κc9 (L0 : List RA) (v1 : List Int) (v3 : Int) := [(0, ms E_iiii L0), (4, vs 0 0 v1.length v1.length), (9, vp 1 0), (50, vi (((L0.length + 1) : Nat) : Int)), (51, vi (v3 : Int))]
noncomputable def ZuL (L0 : List RA) : ZB → List (Nat × Value)
 | .h1m0 v1 v4 => [(0, ms E_iiii L0), (4, vs 0 0 v1.length v1.length), (20, ms E_iiii L0), (21, vi (L0.length : Int)), (22, vi (v4 : Int))]
 | .h2m0 v1 v3 => (κc9 L0 v1 v3)
 | .h2m1 v1 v3 v4 => (κc9 L0 v1 v3)
noncomputable abbrev κcT (v1 : List Int) := [some (AObj.cells (Zg eI v1) 3), some (AObj.cells [Value.pointer none, vn] 62)]
noncomputable def ZuM (L0 : List RA) : ZB → List (Option AObj)
 | .h1m0 v1 v4 => [some (.cells (Zg eI v1) 3)]
 | .h2m0 v1 v3 => (κcT v1)
 | .h2m1 v1 v3 v4 => [some (.cells (Zg eI v1) 3), some (.cells [vp 1 0, vs 2 0 v4.length v4.length] 62), some (.cells (Zg (Zau .u8) v4) 5)]

noncomputable def Zc5 : Nat → Code × List Zbk
 | 1 => Zem [1, 1, 1, 0, 1, 3] (Zgn Tryd.f13) []
 | 2 => Zem [1, 1, 1, 1, 1, 0, 1, 3] (Zgn Tryd.f13) []
 | _ => (.skip, [])
def Znh : Nat → Bool
 | 1 => true
 | 2 => true
 | _ => true
noncomputable def ZuN (i : Nat) : List Zbk := match Znh i with | true => .rnd i :: (Zc5 i).2 | false => (Zc5 i).2

noncomputable def ZbS (L0 : List RA) (N : Nat) : Mach := ⟨Tryd.f13, [], ZB, Za3, Za8 L0 N, Zth, Zc5, Znh, ZuL L0, ZuM L0, Zo9 L0, Zng L0⟩

noncomputable def Zhd (L0 : List RA) (v1 : List Int) (v4 : Nat) : OB := (dP (ZaO (code (ZaA E_iiii L0)) (0 + (v4 * 4)) 4 = some [.i (L0.getD v4 RA.z).a0, .i (L0.getD v4 RA.z).a1, .i (L0.getD v4 RA.z).a2, .i (L0.getD v4 RA.z).a3]), true) :: (Nat.blt v4 L0.length, true) :: ((v4 : Int) == Int.ofNat v4, true) :: ((decide ((v4 : Int) < (L0.length : Int))), true) :: []

noncomputable def Zhe (L0 : List RA) (v1 : List Int) (v4 : Nat) (y2_0 : Int) : OB := (dP (Zaz #[Value.agg #[vi (L0.getD v4 RA.z).a0, vi (L0.getD v4 RA.z).a1, vi (L0.getD v4 RA.z).a2, vi (L0.getD v4 RA.z).a3]] ((L0.getD v4 RA.z).a0) ((L0.getD v4 RA.z).a1) ((L0.getD v4 RA.z).a2) ((L0.getD v4 RA.z).a3)  y2_0  3), true) :: (((L0.getD v4 RA.z).a0 == (8 : Int)), true) :: Zhd L0 v1 v4

noncomputable def Zhf (L0 : List RA) (v1 : List Int) (v4 : Nat) (y3_0 : Int) : OB := (dP (Zaz #[Value.agg #[vi (L0.getD v4 RA.z).a0, vi (L0.getD v4 RA.z).a1, vi (L0.getD v4 RA.z).a2, vi (L0.getD v4 RA.z).a3]] ((L0.getD v4 RA.z).a0) ((L0.getD v4 RA.z).a1) ((L0.getD v4 RA.z).a2) ((L0.getD v4 RA.z).a3)  y3_0  3), true) :: (((L0.getD v4 RA.z).a0 == (9 : Int)), true) :: (((L0.getD v4 RA.z).a0 == (8 : Int)), false) :: Zhd L0 v1 v4

noncomputable def Zjr (L0 : List RA) (v1 : List Int) (v4 : Nat) (y3_0 : Int) : OB := (dP (Zaz #[Value.agg #[vi (L0.getD v4 RA.z).a0, vi (L0.getD v4 RA.z).a1, vi (L0.getD v4 RA.z).a2, vi (L0.getD v4 RA.z).a3]] ((L0.getD v4 RA.z).a0) ((L0.getD v4 RA.z).a1) ((L0.getD v4 RA.z).a2) ((L0.getD v4 RA.z).a3)  y3_0  3), true) :: (((L0.getD v4 RA.z).a0 == (9 : Int)), false) :: (((L0.getD v4 RA.z).a0 == (8 : Int)), false) :: Zhd L0 v1 v4

noncomputable abbrev κdn (L0 : List RA) := ((IntKind.i64.wrap ((L0.length : Int) + (1 : Int))) == (((L0.length + 1) : Nat) : Int), true)
noncomputable abbrev κcP (v4 : Nat) := ((IntKind.i64.wrap ((v4 : Int) + (1 : Int))) == (((v4 + 1) : Nat) : Int), true)
noncomputable abbrev κbV (v1 : List Int) := (vs 0 0 v1.length v1.length)
set_option maxHeartbeats 4000000 in
theorem ZoA (L0 : List RA) (v1 : List Int) (v4 N : Nat) : (ZbS L0 N).Ok Tryd.prog Zbu (.h1m0 v1 v4 : ZB) (Za8 L0 N (.h1m0 v1 v4 : ZB)) := by
 show (ZbS L0 N).Ok Tryd.prog Zbu (.h1m0 v1 v4 : ZB) (Zch L0 N v1 v4)
 unfold Zch
 refine Mach.ok_ite (fun g0 => ?_) (fun g0 => ?_)
 ·
  have w1 : OkL (Zhd L0 v1 v4) :=
   Za (Zj (Zgu (E := E_iiii) (L := L0) (i := v4) (q := 0) (by omega) (show (0 + (v4 * 4)) = v4 * 4 + 0 from by omega) (show 0 + 4 ≤ 4 from by decide) rfl)) <| oB <| oI <| oY <| Z6
  refine Mach.ok_ite (fun g1 => ?_) (fun g1 => ?_)
  ·
   refine Mach.ok_bind (fun z2 c2 => ?_)
   cases z2 with
   | r0 y2_0 =>
    have w3 : OkL (Zhe L0 v1 v4 y2_0) :=
     Za (Zj (Za7 #[Value.agg #[vi (L0.getD v4 RA.z).a0, vi (L0.getD v4 RA.z).a1, vi (L0.getD v4 RA.z).a2, vi (L0.getD v4 RA.z).a3]] ((L0.getD v4 RA.z).a0) ((L0.getD v4 RA.z).a1) ((L0.getD v4 RA.z).a2) ((L0.getD v4 RA.z).a3)  y2_0 N c2  3 rfl dcd dcd)) <| oT <| w1
    refine Mach.ok_ite (fun g3 => ?_) (fun g3 => ?_)
    ·
     exact Mach.oF (orc := (Zs [o1, o1, o1] [] [(0, v4)] [(0, [.i (L0.getD v4 RA.z).a0, .i (L0.getD v4 RA.z).a1, .i (L0.getD v4 RA.z).a2, .i (L0.getD v4 RA.z).a3])] [(1, (Z5 ((L0.getD v4 RA.z).a0) ((L0.getD v4 RA.z).a1) ((L0.getD v4 RA.z).a2) ((L0.getD v4 RA.z).a3)  y2_0  3))])) (live := []) (u := Value.tuple #[Value.string ⟨#[]⟩, vi (130 : Int)]) (bl := []) (ob := (((y2_0 != (0 : Int)), true) :: Zhe L0 v1 v4 y2_0)) (oD <| w3) (vE (Zaj (Zh rfl (Zh rfl rfl)))) trivial
    ·
     refine Mach.ok_ite (fun g4 => ?_) (fun g4 => ?_)
     ·
      exact Mach.oF (orc := (Zs [o1, o1, o0, o1] [] [(0, v4)] [(0, [.i (L0.getD v4 RA.z).a0, .i (L0.getD v4 RA.z).a1, .i (L0.getD v4 RA.z).a2, .i (L0.getD v4 RA.z).a3])] [(1, (Z5 ((L0.getD v4 RA.z).a0) ((L0.getD v4 RA.z).a1) ((L0.getD v4 RA.z).a2) ((L0.getD v4 RA.z).a3)  y2_0  3))])) (live := []) (u := Value.tuple #[Value.string ⟨#[]⟩, vi (130 : Int)]) (bl := []) (ob := (((decide ((L0.getD v4 RA.z).a1 > (L0.length : Int))), true) :: ((y2_0 != (0 : Int)), false) :: Zhe L0 v1 v4 y2_0)) (oY <| oE <| w3) (vE (Zaj (Zh rfl (Zh rfl rfl)))) trivial
     ·
      refine Mach.ok_ite (fun g5 => ?_) (fun _ => Mach.ok_none)
      refine Mach.ok_ite (fun g6 => ?_) (fun _ => Mach.ok_none)
      refine Mach.ok_ite (fun g7 => ?_) (fun _ => Mach.ok_none)
      exact Mach.oN (orc := (Zs [o1, o1, o0, o0] [(1, (((v4 + 1) : Nat) : Int))] [(0, v4), (1, ((L0.getD v4 RA.z).a1).toNat), (2, ((L0.getD v4 RA.z).a1).toNat)] [(0, [.i (L0.getD v4 RA.z).a0, .i (L0.getD v4 RA.z).a1, .i (L0.getD v4 RA.z).a2, .i (L0.getD v4 RA.z).a3]), (5, [.i (v1.getD ((L0.getD v4 RA.z).a1).toNat 0)])] [(1, (Z5 ((L0.getD v4 RA.z).a0) ((L0.getD v4 RA.z).a1) ((L0.getD v4 RA.z).a2) ((L0.getD v4 RA.z).a3)  y2_0  3)), (2, .st (Zg eI (v1.set ((L0.getD v4 RA.z).a1).toNat (IntKind.i64.wrap ((v1.getD ((L0.getD v4 RA.z).a1).toNat 0) + (1 : Int))))))])) (live := [0]) (tv := fun _ => [some (ms E_iiii L0), some (κbV v1), some (ms E_iiii L0), some (vi (L0.length : Int)), some (vi (((v4 + 1) : Nat) : Int))]) (bl := [some (.cells (Zg eI (v1.set ((L0.getD v4 RA.z).a1).toNat (IntKind.i64.wrap ((v1.getD ((L0.getD v4 RA.z).a1).toNat 0) + (1 : Int))))) 3)]) (ob := ((κcP v4) :: (dP ((0 + (((L0.getD v4 RA.z).a1).toNat * 1)) + ([vi (IntKind.i64.wrap ((v1.getD ((L0.getD v4 RA.z).a1).toNat 0) + (1 : Int)))] : List Value).length ≤ ((Zg eI v1) : List Value).length ∧ Zd6 (Zg eI v1) (0 + (((L0.getD v4 RA.z).a1).toNat * 1)) [vi (IntKind.i64.wrap ((v1.getD ((L0.getD v4 RA.z).a1).toNat 0) + (1 : Int)))] = (Zg eI (v1.set ((L0.getD v4 RA.z).a1).toNat (IntKind.i64.wrap ((v1.getD ((L0.getD v4 RA.z).a1).toNat 0) + (1 : Int)))))), true) :: (Nat.blt ((L0.getD v4 RA.z).a1).toNat v1.length, true) :: ((L0.getD v4 RA.z).a1 == Int.ofNat ((L0.getD v4 RA.z).a1).toNat, true) :: (ZbK (Z8 1 (List.drop (0 + (((L0.getD v4 RA.z).a1).toNat * 1)) (Zg eI v1))) [.i (v1.getD ((L0.getD v4 RA.z).a1).toNat 0)], true) :: (Nat.blt ((L0.getD v4 RA.z).a1).toNat v1.length, true) :: ((L0.getD v4 RA.z).a1 == Int.ofNat ((L0.getD v4 RA.z).a1).toNat, true) :: ((decide ((L0.getD v4 RA.z).a1 > (L0.length : Int))), false) :: ((y2_0 != (0 : Int)), false) :: Zhe L0 v1 v4 y2_0)) (Za (beq_iff_eq.2 ((wrap_i64 ltA).trans (by first | rfl | omega))) <| Za (Zj (Zfp (E := eI) (L := v1) (i := ((L0.getD v4 RA.z).a1).toNat) (q := 0) (l := [vi (IntKind.i64.wrap ((v1.getD ((L0.getD v4 RA.z).a1).toNat 0) + (1 : Int)))]) (IntKind.i64.wrap ((v1.getD ((L0.getD v4 RA.z).a1).toNat 0) + (1 : Int))) (by omega) (show (0 + (((L0.getD v4 RA.z).a1).toNat * 1)) = ((L0.getD v4 RA.z).a1).toNat * 1 + 0 from by omega) (show 0 + 1 ≤ 1 from by decide) rfl)) <| oB <| oI <| Za (Zb1 (E := eI) (L := v1) (i := ((L0.getD v4 RA.z).a1).toNat) (q := 0) (by omega) (show (0 + (((L0.getD v4 RA.z).a1).toNat * 1)) = ((L0.getD v4 RA.z).a1).toNat * 1 + 0 from by omega) (show 0 + 1 ≤ 1 from by decide) rfl rfl) <| oB <| oI <| oN <| oE <| w3) (fun _ => ⟨rr, ⟨⟨Eq.trans (show (vs 0 0 (v1.set ((L0.getD v4 RA.z).a1).toNat (IntKind.i64.wrap ((v1.getD ((L0.getD v4 RA.z).a1).toNat 0) + (1 : Int)))).length (v1.set ((L0.getD v4 RA.z).a1).toNat (IntKind.i64.wrap ((v1.getD ((L0.getD v4 RA.z).a1).toNat 0) + (1 : Int)))).length : Value) = vs 0 0 v1.length v1.length from (ZC rfl eqA eqA)) (by rfl), by rfl⟩, ⟨rr, ⟨rr, ⟨rr, trivial⟩⟩⟩⟩⟩) ⟨(Zx (E := eI) _ (v1.set ((L0.getD v4 RA.z).a1).toNat (IntKind.i64.wrap ((v1.getD ((L0.getD v4 RA.z).a1).toNat 0) + (1 : Int)))) _), trivial⟩
  ·
   refine Mach.ok_ite (fun g2 => ?_) (fun g2 => ?_)
   ·
    refine Mach.ok_bind (fun z3 c3 => ?_)
    cases z3 with
    | r0 y3_0 =>
     have w4 : OkL (Zhf L0 v1 v4 y3_0) :=
      Za (Zj (Za7 #[Value.agg #[vi (L0.getD v4 RA.z).a0, vi (L0.getD v4 RA.z).a1, vi (L0.getD v4 RA.z).a2, vi (L0.getD v4 RA.z).a3]] ((L0.getD v4 RA.z).a0) ((L0.getD v4 RA.z).a1) ((L0.getD v4 RA.z).a2) ((L0.getD v4 RA.z).a3)  y3_0 N c3  3 rfl dcd dcd)) <| oT <| oF <| w1
     refine Mach.ok_ite (fun g4 => ?_) (fun g4 => ?_)
     ·
      exact Mach.oF (orc := (Zs [o1, o0, o1, o1] [] [(0, v4)] [(0, [.i (L0.getD v4 RA.z).a0, .i (L0.getD v4 RA.z).a1, .i (L0.getD v4 RA.z).a2, .i (L0.getD v4 RA.z).a3])] [(1, (Z5 ((L0.getD v4 RA.z).a0) ((L0.getD v4 RA.z).a1) ((L0.getD v4 RA.z).a2) ((L0.getD v4 RA.z).a3)  y3_0  3))])) (live := []) (u := Value.tuple #[Value.string ⟨#[]⟩, vi (130 : Int)]) (bl := []) (ob := (((y3_0 != (0 : Int)), true) :: Zhf L0 v1 v4 y3_0)) (oD <| w4) (vE (Zaj (Zh rfl (Zh rfl rfl)))) trivial
     ·
      refine Mach.ok_ite (fun g5 => ?_) (fun g5 => ?_)
      ·
       exact Mach.oF (orc := (Zs [o1, o0, o1, o0, o1] [] [(0, v4)] [(0, [.i (L0.getD v4 RA.z).a0, .i (L0.getD v4 RA.z).a1, .i (L0.getD v4 RA.z).a2, .i (L0.getD v4 RA.z).a3])] [(1, (Z5 ((L0.getD v4 RA.z).a0) ((L0.getD v4 RA.z).a1) ((L0.getD v4 RA.z).a2) ((L0.getD v4 RA.z).a3)  y3_0  3))])) (live := []) (u := Value.tuple #[Value.string ⟨#[]⟩, vi (130 : Int)]) (bl := []) (ob := (((decide ((L0.getD v4 RA.z).a2 > (L0.length : Int))), true) :: ((y3_0 != (0 : Int)), false) :: Zhf L0 v1 v4 y3_0)) (oY <| oE <| w4) (vE (Zaj (Zh rfl (Zh rfl rfl)))) trivial
      ·
       refine Mach.ok_ite (fun g6 => ?_) (fun _ => Mach.ok_none)
       refine Mach.ok_ite (fun g7 => ?_) (fun _ => Mach.ok_none)
       refine Mach.ok_ite (fun g8 => ?_) (fun _ => Mach.ok_none)
       exact Mach.oN (orc := (Zs [o1, o0, o1, o0, o0] [(1, (((v4 + 1) : Nat) : Int))] [(0, v4), (1, ((L0.getD v4 RA.z).a2).toNat), (2, ((L0.getD v4 RA.z).a2).toNat)] [(0, [.i (L0.getD v4 RA.z).a0, .i (L0.getD v4 RA.z).a1, .i (L0.getD v4 RA.z).a2, .i (L0.getD v4 RA.z).a3]), (5, [.i (v1.getD ((L0.getD v4 RA.z).a2).toNat 0)])] [(1, (Z5 ((L0.getD v4 RA.z).a0) ((L0.getD v4 RA.z).a1) ((L0.getD v4 RA.z).a2) ((L0.getD v4 RA.z).a3)  y3_0  3)), (2, .st (Zg eI (v1.set ((L0.getD v4 RA.z).a2).toNat (IntKind.i64.wrap ((v1.getD ((L0.getD v4 RA.z).a2).toNat 0) + (1 : Int))))))])) (live := [0]) (tv := fun _ => [some (ms E_iiii L0), some (κbV v1), some (ms E_iiii L0), some (vi (L0.length : Int)), some (vi (((v4 + 1) : Nat) : Int))]) (bl := [some (.cells (Zg eI (v1.set ((L0.getD v4 RA.z).a2).toNat (IntKind.i64.wrap ((v1.getD ((L0.getD v4 RA.z).a2).toNat 0) + (1 : Int))))) 3)]) (ob := ((κcP v4) :: (dP ((0 + (((L0.getD v4 RA.z).a2).toNat * 1)) + ([vi (IntKind.i64.wrap ((v1.getD ((L0.getD v4 RA.z).a2).toNat 0) + (1 : Int)))] : List Value).length ≤ ((Zg eI v1) : List Value).length ∧ Zd6 (Zg eI v1) (0 + (((L0.getD v4 RA.z).a2).toNat * 1)) [vi (IntKind.i64.wrap ((v1.getD ((L0.getD v4 RA.z).a2).toNat 0) + (1 : Int)))] = (Zg eI (v1.set ((L0.getD v4 RA.z).a2).toNat (IntKind.i64.wrap ((v1.getD ((L0.getD v4 RA.z).a2).toNat 0) + (1 : Int)))))), true) :: (Nat.blt ((L0.getD v4 RA.z).a2).toNat v1.length, true) :: ((L0.getD v4 RA.z).a2 == Int.ofNat ((L0.getD v4 RA.z).a2).toNat, true) :: (ZbK (Z8 1 (List.drop (0 + (((L0.getD v4 RA.z).a2).toNat * 1)) (Zg eI v1))) [.i (v1.getD ((L0.getD v4 RA.z).a2).toNat 0)], true) :: (Nat.blt ((L0.getD v4 RA.z).a2).toNat v1.length, true) :: ((L0.getD v4 RA.z).a2 == Int.ofNat ((L0.getD v4 RA.z).a2).toNat, true) :: ((decide ((L0.getD v4 RA.z).a2 > (L0.length : Int))), false) :: ((y3_0 != (0 : Int)), false) :: Zhf L0 v1 v4 y3_0)) (Za (beq_iff_eq.2 ((wrap_i64 ltA).trans (by first | rfl | omega))) <| Za (Zj (Zfp (E := eI) (L := v1) (i := ((L0.getD v4 RA.z).a2).toNat) (q := 0) (l := [vi (IntKind.i64.wrap ((v1.getD ((L0.getD v4 RA.z).a2).toNat 0) + (1 : Int)))]) (IntKind.i64.wrap ((v1.getD ((L0.getD v4 RA.z).a2).toNat 0) + (1 : Int))) (by omega) (show (0 + (((L0.getD v4 RA.z).a2).toNat * 1)) = ((L0.getD v4 RA.z).a2).toNat * 1 + 0 from by omega) (show 0 + 1 ≤ 1 from by decide) rfl)) <| oB <| oI <| Za (Zb1 (E := eI) (L := v1) (i := ((L0.getD v4 RA.z).a2).toNat) (q := 0) (by omega) (show (0 + (((L0.getD v4 RA.z).a2).toNat * 1)) = ((L0.getD v4 RA.z).a2).toNat * 1 + 0 from by omega) (show 0 + 1 ≤ 1 from by decide) rfl rfl) <| oB <| oI <| oN <| oE <| w4) (fun _ => ⟨rr, ⟨⟨Eq.trans (show (vs 0 0 (v1.set ((L0.getD v4 RA.z).a2).toNat (IntKind.i64.wrap ((v1.getD ((L0.getD v4 RA.z).a2).toNat 0) + (1 : Int)))).length (v1.set ((L0.getD v4 RA.z).a2).toNat (IntKind.i64.wrap ((v1.getD ((L0.getD v4 RA.z).a2).toNat 0) + (1 : Int)))).length : Value) = vs 0 0 v1.length v1.length from (ZC rfl eqA eqA)) (by rfl), by rfl⟩, ⟨rr, ⟨rr, ⟨rr, trivial⟩⟩⟩⟩⟩) ⟨(Zx (E := eI) _ (v1.set ((L0.getD v4 RA.z).a2).toNat (IntKind.i64.wrap ((v1.getD ((L0.getD v4 RA.z).a2).toNat 0) + (1 : Int)))) _), trivial⟩
   ·
    refine Mach.ok_bind (fun z3 c3 => ?_)
    cases z3 with
    | r0 y3_0 =>
     have w4 : OkL (Zjr L0 v1 v4 y3_0) :=
      Za (Zj (Za7 #[Value.agg #[vi (L0.getD v4 RA.z).a0, vi (L0.getD v4 RA.z).a1, vi (L0.getD v4 RA.z).a2, vi (L0.getD v4 RA.z).a3]] ((L0.getD v4 RA.z).a0) ((L0.getD v4 RA.z).a1) ((L0.getD v4 RA.z).a2) ((L0.getD v4 RA.z).a3)  y3_0 N c3  3 rfl dcd dcd)) <| oF <| oF <| w1
     refine Mach.ok_ite (fun g4 => ?_) (fun g4 => ?_)
     ·
      exact Mach.oF (orc := (Zs [o1, o0, o0, o1] [] [(0, v4)] [(0, [.i (L0.getD v4 RA.z).a0, .i (L0.getD v4 RA.z).a1, .i (L0.getD v4 RA.z).a2, .i (L0.getD v4 RA.z).a3])] [(1, (Z5 ((L0.getD v4 RA.z).a0) ((L0.getD v4 RA.z).a1) ((L0.getD v4 RA.z).a2) ((L0.getD v4 RA.z).a3)  y3_0  3))])) (live := []) (u := Value.tuple #[Value.string ⟨#[]⟩, vi (130 : Int)]) (bl := []) (ob := (((y3_0 != (0 : Int)), true) :: Zjr L0 v1 v4 y3_0)) (oD <| w4) (vE (Zaj (Zh rfl (Zh rfl rfl)))) trivial
     ·
      refine Mach.ok_ite (fun g5 => ?_) (fun _ => Mach.ok_none)
      exact Mach.oN (orc := (Zs [o1, o0, o0, o0, o0] [(0, (((v4 + 1) : Nat) : Int))] [(0, v4)] [(0, [.i (L0.getD v4 RA.z).a0, .i (L0.getD v4 RA.z).a1, .i (L0.getD v4 RA.z).a2, .i (L0.getD v4 RA.z).a3])] [(1, (Z5 ((L0.getD v4 RA.z).a0) ((L0.getD v4 RA.z).a1) ((L0.getD v4 RA.z).a2) ((L0.getD v4 RA.z).a3)  y3_0  3))])) (live := [0]) (tv := fun _ => [some (ms E_iiii L0), some (κbV v1), some (ms E_iiii L0), some (vi (L0.length : Int)), some (vi (((v4 + 1) : Nat) : Int))]) (bl := [some (.cells (Zg eI v1) 3)]) (ob := ((κcP v4) :: ((decide ((0 : Int) > (L0.length : Int))), false) :: ((y3_0 != (0 : Int)), false) :: Zjr L0 v1 v4 y3_0)) (Za (beq_iff_eq.2 ((wrap_i64 ltA).trans (by first | rfl | omega))) <| oN <| oE <| w4) (fun _ => ⟨rr, ⟨rr, ⟨rr, ⟨rr, ⟨rr, trivial⟩⟩⟩⟩⟩) ⟨(Zx (E := eI) _ v1 _), trivial⟩
 ·
  refine Mach.ok_ite (fun g1 => ?_) (fun _ => Mach.ok_none)
  exact Mach.ok_head (bK := Zc5 2) (M := ZbS L0 N) (cd := 1000000) (cm := 0) (y := (.h2m0 (v1) (0) : ZB)) (fu := 4000) (orc := (Zs [o0] [(0, (((L0.length + 1) : Nat) : Int))] [] [] [])) (live := [0, 1]) (tv := fun _ => [some (ms E_iiii L0), some (κbV v1), some (vp 1 0), some (vi (((L0.length + 1) : Nat) : Int)), some (vq)]) (bl := (κcT v1)) (ob := ((κdn L0) :: ((decide ((v4 : Int) < (L0.length : Int))), false) :: [])) rfl rfl (show ∀ j ∈ Za9 (Zc5 2).2, j ∈ Za9 (ZuN 1) from by decide +kernel) (fun gv => by as_aux_lemma => kernel_rfl) (Za (beq_iff_eq.2 ((wrap_i64 ltA).trans (by first | rfl | omega))) <| oN <| Z6) rfl (by decide) (by rfl) (fun _ => ⟨rr, ⟨rr, ⟨rr, ⟨rr, ⟨⟨Eq.trans (show κda = vq from (congrArg (Value.int .i64) (by first | rfl | omega))) (by rfl), by rfl⟩, trivial⟩⟩⟩⟩⟩) ⟨(Zx (E := eI) _ v1 _), ⟨sm, trivial⟩⟩

noncomputable abbrev κcG (v3 : Nat) := ((v3 : Int) == Int.ofNat v3, true)
noncomputable def Zhg (L0 : List RA) (v1 : List Int) (v3 : Nat) : OB := (ZbK (Z8 1 (List.drop (0 + (v3 * 1)) (Zg eI v1))) [.i (v1.getD v3 0)], true) :: (Nat.blt v3 v1.length, true) :: (κcG v3) :: ((decide ((v3 : Int) < (((L0.length + 1) : Nat) : Int))), true) :: []

noncomputable abbrev κdg (v3 : Nat) := (dP (((((Zb (bl [76]))).size + ((Zb (Zd (v3 : Int)))).size : Nat) : Int) ≤ IntKind.i64.max), true)
noncomputable abbrev κdc (v3 : Nat) := ((decide ((-9223372036854775808 : Int) ≤ (v3 : Int)) && decide ((v3 : Int) ≤ (9223372036854775807 : Int))), true)
noncomputable abbrev κbs (v3 : Nat) := ((Zb (bl [76])) ++ (Zb (Zd (v3 : Int))))
noncomputable def Zmf (L0 : List RA) (v1 : List Int) (v3 : Nat) : OB := (dP ((((((Zb (bl [58])) ++ (κbs v3))).size + ((Zb (bl [10]))).size : Nat) : Int) ≤ IntKind.i64.max), true) :: (dP (((((Zb (bl [58]))).size + ((κbs v3)).size : Nat) : Int) ≤ IntKind.i64.max), true) :: (κdg v3) :: (κdc v3) :: ((decide ((v1.getD v3 0) > (0 : Int))), true) :: Zhg L0 v1 v3

noncomputable abbrev κbQ (v3 : Nat) := (Zg (Zau .u8) (lbX v3))
noncomputable def Zjs (L0 : List RA) (v1 : List Int) (v3 : Nat) : OB := (dP ((((1 + (1 + (Zd (v3 : Int)).length)) + 1) = ((((Zb (bl [58])) ++ (κbs v3)) ++ (Zb (bl [10])))).size ∧ (κbQ v3) = ZbE (((Zb (bl [58])) ++ (κbs v3)) ++ (Zb (bl [10])))) ∧ 0 < ((1 + (1 + (Zd (v3 : Int)).length)) + 1) ∧ ((1 + (1 + (Zd (v3 : Int)).length)) + 1) ≤ 100000 ∧ (κbQ v3) = (κbQ v3)), true) :: Zmf L0 v1 v3

noncomputable abbrev κdt (y4_0 : List Int) := (dP (((((Zb y4_0)).size + ((Zb (bl [10]))).size : Nat) : Int) ≤ IntKind.i64.max), true)
noncomputable abbrev κdk (v3 : Nat) := [vp 1 0, vs 2 0 ((1 + (1 + (Zd (v3 : Int)).length)) + 1) ((1 + (1 + (Zd (v3 : Int)).length)) + 1)]
noncomputable abbrev κc0 (v1 : List Int) (v3 : Nat) := ((decide ((v1.getD v3 0) > (0 : Int))), false)
noncomputable abbrev κcE (v3 : Nat) (L0 : List RA) := ((decide ((v3 : Int) < (L0.length : Int))), true)
noncomputable abbrev κcD (v3 : Nat) (L0 : List RA) := ((decide ((v3 : Int) < (L0.length : Int))), false)
noncomputable abbrev κcC (y4_0 : List Int) := ((Zb y4_0) ++ (Zb (bl [10])))
noncomputable abbrev κbY (y4_0 : List Int) := (Zg (Zau .u8) (y4_0 ++ (bl [10])))
noncomputable abbrev κ1 (v3 : Nat) := ((IntKind.i64.wrap ((v3 : Int) + (1 : Int))) == (((v3 + 1) : Nat) : Int), true)
noncomputable abbrev κz (L0 : List RA) (v1 : List Int) (v3 : Nat) := [some (ms E_iiii L0), some (κbV v1), some (vp 1 0), some (vi (((L0.length + 1) : Nat) : Int)), some (vi (((v3 + 1) : Nat) : Int))]
set_option maxHeartbeats 4000000 in
theorem ZoB (L0 : List RA) (v1 : List Int) (v3 N : Nat) : (ZbS L0 N).Ok Tryd.prog Zbu (.h2m0 v1 v3 : ZB) (Za8 L0 N (.h2m0 v1 v3 : ZB)) := by
 show (ZbS L0 N).Ok Tryd.prog Zbu (.h2m0 v1 v3 : ZB) (Zcz L0 N v1 v3)
 unfold Zcz
 refine Mach.ok_ite (fun g0 => ?_) (fun g0 => ?_)
 ·
  refine Mach.ok_ite (fun g1 => ?_) (fun _ => Mach.ok_none)
  have w2 : OkL (Zhg L0 v1 v3) :=
   Za (Zb1 (E := eI) (L := v1) (i := v3) (q := 0) (by omega) (show (0 + (v3 * 1)) = v3 * 1 + 0 from by omega) (show 0 + 1 ≤ 1 from by decide) rfl rfl) <| oB <| oI <| oY <| Z6
  refine Mach.ok_ite (fun g2 => ?_) (fun g2 => ?_)
  ·
   refine Mach.ok_ite (fun g3 => ?_) (fun _ => Mach.ok_none)
   refine Mach.ok_ite (fun g4 => ?_) (fun _ => Mach.ok_none)
   have w5 : OkL (Zmf L0 v1 v3) :=
    Za (Zj (ZA (x := ((bl [58]) ++ ((bl [76]) ++ (Zd (v3 : Int))))) (y := (bl [10])) sE rfl ltA)) <| Za (Zj (ZA (x := (bl [58])) (y := ((bl [76]) ++ (Zd (v3 : Int)))) rfl sE ltA)) <| Za (Zj (ZA (x := (bl [76])) (y := (Zd (v3 : Int))) rfl rfl ltA)) <| Za (Zai (by omega) (by omega)) <| oY <| w2
   refine Mach.ok_ite (fun g5 => ?_) (fun _ => Mach.ok_none)
   have w6 : OkL (Zjs L0 v1 v3) :=
    Za (Zj ⟨(ZjF (x := (((Zb (bl [58])) ++ (κbs v3)) ++ (Zb (bl [10])))) (M := (lbX v3)) sE (by assumption) ltA), ltA, ltA, rfl⟩) <| w5
   refine Mach.ok_ite (fun g6 => ?_) (fun g6 => ?_)
   ·
    refine Mach.ok_bind (fun z7 c7 => ?_)
    cases z7 with
    | r0 y7_0 y7_1 =>
     refine Mach.ok_ite (fun g8 => ?_) (fun _ => Mach.ok_none)
     refine Mach.ok_ite (fun g9 => ?_) (fun _ => Mach.ok_none)
     refine Mach.ok_ite (fun g10 => ?_) (fun _ => Mach.ok_none)
     refine Mach.ok_ite (fun g11 => ?_) (fun _ => Mach.ok_none)
     exact Mach.oN (orc := (Zp [(0, true), (1, true), (2, true), (4, true)] [(0, (((v3 + 1) : Nat) : Int))] [(0, v3), (1, v3)] [(0, [.i (v1.getD v3 0)]), (3, [.i (L0.getD v3 RA.z).a0, .i (L0.getD v3 RA.z).a1, .i (L0.getD v3 RA.z).a2, .i (L0.getD v3 RA.z).a3])] [(1, .ap ((1 + (1 + (Zd (v3 : Int)).length)) + 1) (κbQ v3) (κbQ v3)), (3, (Zi7 ((L0.getD v3 RA.z).a0) ((L0.getD v3 RA.z).a1) ((L0.getD v3 RA.z).a2) ((L0.getD v3 RA.z).a3)  y7_0 y7_1  3)), (4, .ap (y7_0.length + 1) (Zg (Zau .u8) (y7_0 ++ (bl [10]))) (Zg (Zau .u8) ((lbX v3) ++ (y7_0 ++ (bl [10])))))])) (live := [0, 1, 3]) (tv := fun _ => (κz L0 v1 v3)) (bl := [some (.cells (Zg eI v1) 3), some (.cells [vp 1 0, vs 3 0 (((1 + (1 + (Zd (v3 : Int)).length)) + 1) + (y7_0.length + 1)) (((1 + (1 + (Zd (v3 : Int)).length)) + 1) + (y7_0.length + 1))] 62), some (.cells (Zg (Zau .u8) ((lbX v3) ++ (y7_0 ++ (bl [10])))) 5)]) (ob := ((κ1 v3) :: (dP (((y7_0.length + 1) = (((Zb y7_0) ++ (Zb (bl [10])))).size ∧ (Zg (Zau .u8) (y7_0 ++ (bl [10]))) = ZbE ((Zb y7_0) ++ (Zb (bl [10])))) ∧ 0 < (y7_0.length + 1) ∧ (y7_0.length + 1) ≤ 100000 ∧ ((1 + (1 + (Zd (v3 : Int)).length)) + 1) < ((1 + (1 + (Zd (v3 : Int)).length)) + 1) + (y7_0.length + 1) ∧ ((1 + (1 + (Zd (v3 : Int)).length)) + 1) ≤ 100000 ∧ ((1 + (1 + (Zd (v3 : Int)).length)) + 1) * 1 ≤ (List.length (κbQ v3)) ∧ List.take (((1 + (1 + (Zd (v3 : Int)).length)) + 1) * 1) (κbQ v3) ++ (Zg (Zau .u8) (y7_0 ++ (bl [10]))) = (Zg (Zau .u8) ((lbX v3) ++ (y7_0 ++ (bl [10]))))), true) :: (dP (((((Zb y7_0)).size + ((Zb (bl [10]))).size : Nat) : Int) ≤ IntKind.i64.max), true) :: (dP (Zhc #[Value.agg #[vi (L0.getD v3 RA.z).a0, vi (L0.getD v3 RA.z).a1, vi (L0.getD v3 RA.z).a2, vi (L0.getD v3 RA.z).a3]] ((L0.getD v3 RA.z).a0) ((L0.getD v3 RA.z).a1) ((L0.getD v3 RA.z).a2) ((L0.getD v3 RA.z).a3)  y7_0 y7_1  3), true) :: (dP (ZaO (code (ZaA E_iiii L0)) (0 + (v3 * 4)) 4 = some [.i (L0.getD v3 RA.z).a0, .i (L0.getD v3 RA.z).a1, .i (L0.getD v3 RA.z).a2, .i (L0.getD v3 RA.z).a3]), true) :: (Nat.blt v3 L0.length, true) :: (κcG v3) :: (κcE v3 L0) :: Zjs L0 v1 v3)) (Za (beq_iff_eq.2 ((wrap_i64 ltA).trans (by first | rfl | omega))) <| Za (Zj ⟨(ZjF (x := ((Zb y7_0) ++ (Zb (bl [10])))) (M := (y7_0 ++ (bl [10]))) sE (by assumption) ltA), ltA, ltA, ltA, by omega, (Zat (E := (Zau .u8)) (L := (lbX v3)) (M := (y7_0 ++ (bl [10]))) (n := ((1 + (1 + (Zd (v3 : Int)).length)) + 1)) (show _ = _ * 1 from rfl) ltA (R := ((lbX v3) ++ (y7_0 ++ (bl [10])))) (by rw [List.take_of_length_le ltA]))⟩) <| Za (Zj (ZA (x := y7_0) (y := (bl [10])) rfl rfl ltA)) <| Za (Zj (Zi8 #[Value.agg #[vi (L0.getD v3 RA.z).a0, vi (L0.getD v3 RA.z).a1, vi (L0.getD v3 RA.z).a2, vi (L0.getD v3 RA.z).a3]] ((L0.getD v3 RA.z).a0) ((L0.getD v3 RA.z).a1) ((L0.getD v3 RA.z).a2) ((L0.getD v3 RA.z).a3)  y7_0 y7_1 N c7  3 rfl dcd dcd)) <| Za (Zj (Zgu (E := E_iiii) (L := L0) (i := v3) (q := 0) (by omega) (show (0 + (v3 * 4)) = v3 * 4 + 0 from by omega) (show 0 + 4 ≤ 4 from by decide) rfl)) <| oB <| oI <| oY <| w6) (fun _ => ⟨rr, ⟨rr, ⟨rr, ⟨rr, ⟨rr, trivial⟩⟩⟩⟩⟩) ⟨(Zx (E := eI) _ v1 _), ⟨⟨rfl, ⟨[], (show ([vp 1 0, vs 2 0 (((1 + (1 + (Zd (v3 : Int)).length)) + 1) + (y7_0.length + 1)) (((1 + (1 + (Zd (v3 : Int)).length)) + 1) + (y7_0.length + 1))] : List Value) = _ from (Zh rfl (Zh (ZC rfl eqA eqA) rfl)).symm)⟩, by rfl⟩, ⟨(Zx (E := (Zau .u8)) _ ((lbX v3) ++ (y7_0 ++ (bl [10]))) _), trivial⟩⟩⟩
   ·
    refine Mach.ok_ite (fun g7 => ?_) (fun _ => Mach.ok_none)
    exact Mach.oN (orc := (Zp [(0, true), (1, true), (2, true), (4, false)] [(0, (((v3 + 1) : Nat) : Int))] [(0, v3)] [(0, [.i (v1.getD v3 0)])] [(1, .ap ((1 + (1 + (Zd (v3 : Int)).length)) + 1) (κbQ v3) (κbQ v3))])) (live := [0, 1, 2]) (tv := fun _ => (κz L0 v1 v3)) (bl := [some (.cells (Zg eI v1) 3), some (.cells (κdk v3) 62), some (.cells (κbQ v3) 5)]) (ob := ((κ1 v3) :: (κcD v3 L0) :: Zjs L0 v1 v3)) (Za (beq_iff_eq.2 ((wrap_i64 ltA).trans (by first | rfl | omega))) <| oN <| w6) (fun _ => ⟨rr, ⟨rr, ⟨rr, ⟨rr, ⟨rr, trivial⟩⟩⟩⟩⟩) ⟨(Zx (E := eI) _ v1 _), ⟨⟨rfl, ⟨[], (show ((κdk v3) : List Value) = _ from (Zh rfl (Zh (ZC rfl eqA eqA) rfl)).symm)⟩, by rfl⟩, ⟨(Zx (E := (Zau .u8)) _ (lbX v3) _), trivial⟩⟩⟩
  ·
   refine Mach.ok_ite (fun g3 => ?_) (fun g3 => ?_)
   ·
    refine Mach.ok_bind (fun z4 c4 => ?_)
    cases z4 with
    | r0 y4_0 y4_1 =>
     refine Mach.ok_ite (fun g5 => ?_) (fun _ => Mach.ok_none)
     refine Mach.ok_ite (fun g6 => ?_) (fun _ => Mach.ok_none)
     refine Mach.ok_ite (fun g7 => ?_) (fun _ => Mach.ok_none)
     refine Mach.ok_ite (fun g8 => ?_) (fun _ => Mach.ok_none)
     exact Mach.oN (orc := (Zs [o1, o0, o1] [(0, (((v3 + 1) : Nat) : Int))] [(0, v3), (1, v3)] [(0, [.i (v1.getD v3 0)]), (1, [.i (L0.getD v3 RA.z).a0, .i (L0.getD v3 RA.z).a1, .i (L0.getD v3 RA.z).a2, .i (L0.getD v3 RA.z).a3])] [(0, (Zi7 ((L0.getD v3 RA.z).a0) ((L0.getD v3 RA.z).a1) ((L0.getD v3 RA.z).a2) ((L0.getD v3 RA.z).a3)  y4_0 y4_1  2)), (2, .ap (y4_0.length + 1) (κbY y4_0) (κbY y4_0))])) (live := [0, 1, 2]) (tv := fun _ => (κz L0 v1 v3)) (bl := [some (.cells (Zg eI v1) 3), some (.cells [vp 1 0, vs 2 0 (y4_0.length + 1) (y4_0.length + 1)] 62), some (.cells (κbY y4_0) 5)]) (ob := ((κ1 v3) :: (dP (((y4_0.length + 1) = ((κcC y4_0)).size ∧ (κbY y4_0) = ZbE (κcC y4_0)) ∧ 0 < (y4_0.length + 1) ∧ (y4_0.length + 1) ≤ 100000 ∧ (κbY y4_0) = (κbY y4_0)), true) :: (κdt y4_0) :: (dP (Zhc #[Value.agg #[vi (L0.getD v3 RA.z).a0, vi (L0.getD v3 RA.z).a1, vi (L0.getD v3 RA.z).a2, vi (L0.getD v3 RA.z).a3]] ((L0.getD v3 RA.z).a0) ((L0.getD v3 RA.z).a1) ((L0.getD v3 RA.z).a2) ((L0.getD v3 RA.z).a3)  y4_0 y4_1  2), true) :: (dP (ZaO (code (ZaA E_iiii L0)) (0 + (v3 * 4)) 4 = some [.i (L0.getD v3 RA.z).a0, .i (L0.getD v3 RA.z).a1, .i (L0.getD v3 RA.z).a2, .i (L0.getD v3 RA.z).a3]), true) :: (Nat.blt v3 L0.length, true) :: (κcG v3) :: (κcE v3 L0) :: (κc0 v1 v3) :: Zhg L0 v1 v3)) (Za (beq_iff_eq.2 ((wrap_i64 ltA).trans (by first | rfl | omega))) <| Za (Zj ⟨(ZjF (x := (κcC y4_0)) (M := (y4_0 ++ (bl [10]))) sE (by assumption) ltA), ltA, ltA, rfl⟩) <| Za (Zj (ZA (x := y4_0) (y := (bl [10])) rfl rfl ltA)) <| Za (Zj (Zi8 #[Value.agg #[vi (L0.getD v3 RA.z).a0, vi (L0.getD v3 RA.z).a1, vi (L0.getD v3 RA.z).a2, vi (L0.getD v3 RA.z).a3]] ((L0.getD v3 RA.z).a0) ((L0.getD v3 RA.z).a1) ((L0.getD v3 RA.z).a2) ((L0.getD v3 RA.z).a3)  y4_0 y4_1 N c4  2 rfl dcd dcd)) <| Za (Zj (Zgu (E := E_iiii) (L := L0) (i := v3) (q := 0) (by omega) (show (0 + (v3 * 4)) = v3 * 4 + 0 from by omega) (show 0 + 4 ≤ 4 from by decide) rfl)) <| oB <| oI <| oY <| oN <| w2) (fun _ => ⟨rr, ⟨rr, ⟨rr, ⟨rr, ⟨rr, trivial⟩⟩⟩⟩⟩) ⟨(Zx (E := eI) _ v1 _), ⟨⟨rfl, ⟨[], (show ([vp 1 0, vs 2 0 (y4_0.length + 1) (y4_0.length + 1)] : List Value) = _ from (Zh rfl (Zh (ZC rfl eqA eqA) rfl)).symm)⟩, by rfl⟩, ⟨(Zx (E := (Zau .u8)) _ (y4_0 ++ (bl [10])) _), trivial⟩⟩⟩
   ·
    refine Mach.ok_ite (fun g4 => ?_) (fun _ => Mach.ok_none)
    exact Mach.oN (orc := (Zs [o1, o0, o0] [(0, (((v3 + 1) : Nat) : Int))] [(0, v3)] [(0, [.i (v1.getD v3 0)])] [])) (live := [0, 1]) (tv := fun _ => (κz L0 v1 v3)) (bl := (κcT v1)) (ob := ((κ1 v3) :: (κcD v3 L0) :: (κc0 v1 v3) :: Zhg L0 v1 v3)) (Za (beq_iff_eq.2 ((wrap_i64 ltA).trans (by first | rfl | omega))) <| oN <| oN <| w2) (fun _ => ⟨rr, ⟨rr, ⟨rr, ⟨rr, ⟨rr, trivial⟩⟩⟩⟩⟩) ⟨(Zx (E := eI) _ v1 _), ⟨sm, trivial⟩⟩
 ·
  exact Mach.oF (orc := (Zs [o0] [] [] [] [])) (live := []) (u := Value.tuple #[Value.string ⟨#[]⟩, vq]) (bl := []) (ob := (((decide ((v3 : Int) < (((L0.length + 1) : Nat) : Int))), false) :: [])) (oN <| Z6) (vE (Zaj (Zh rfl (Zh rfl rfl)))) trivial

noncomputable def Zhh (L0 : List RA) (v1 : List Int) (v3 : Nat) (v4 : List Int) : OB := (ZbK (Z8 1 (List.drop (0 + (v3 * 1)) (Zg eI v1))) [.i (v1.getD v3 0)], true) :: (Nat.blt v3 v1.length, true) :: (κcG v3) :: ((decide ((v3 : Int) < (((L0.length + 1) : Nat) : Int))), true) :: []

noncomputable def Zmg (L0 : List RA) (v1 : List Int) (v3 : Nat) (v4 : List Int) : OB := (dP ((((((Zb (bl [58])) ++ (κbs v3))).size + ((Zb (bl [10]))).size : Nat) : Int) ≤ IntKind.i64.max), true) :: (dP (((((Zb (bl [58]))).size + ((κbs v3)).size : Nat) : Int) ≤ IntKind.i64.max), true) :: (κdg v3) :: (κdc v3) :: ((decide ((v1.getD v3 0) > (0 : Int))), true) :: Zhh L0 v1 v3 v4

noncomputable abbrev κcH (v4 : List Int) (v3 : Nat) := (Zg (Zau .u8) (v4 ++ (lbX v3)))
noncomputable def Zjt (L0 : List RA) (v1 : List Int) (v3 : Nat) (v4 : List Int) : OB := (dP ((((1 + (1 + (Zd (v3 : Int)).length)) + 1) = ((((Zb (bl [58])) ++ (κbs v3)) ++ (Zb (bl [10])))).size ∧ (κbQ v3) = ZbE (((Zb (bl [58])) ++ (κbs v3)) ++ (Zb (bl [10])))) ∧ 0 < ((1 + (1 + (Zd (v3 : Int)).length)) + 1) ∧ ((1 + (1 + (Zd (v3 : Int)).length)) + 1) ≤ 100000 ∧ v4.length < v4.length + ((1 + (1 + (Zd (v3 : Int)).length)) + 1) ∧ v4.length ≤ 100000 ∧ v4.length * 1 ≤ (List.length (Zg (Zau .u8) v4)) ∧ List.take (v4.length * 1) (Zg (Zau .u8) v4) ++ (κbQ v3) = (κcH v4 v3)), true) :: Zmg L0 v1 v3 v4

set_option maxHeartbeats 4000000 in
theorem ZoC (L0 : List RA) (v1 : List Int) (v3 : Nat) (v4 : List Int) (N : Nat) : (ZbS L0 N).Ok Tryd.prog Zbu (.h2m1 v1 v3 v4 : ZB) (Za8 L0 N (.h2m1 v1 v3 v4 : ZB)) := by
 show (ZbS L0 N).Ok Tryd.prog Zbu (.h2m1 v1 v3 v4 : ZB) (Zc0 L0 N v1 v3 v4)
 unfold Zc0
 refine Mach.ok_ite (fun g0 => ?_) (fun g0 => ?_)
 ·
  refine Mach.ok_ite (fun g1 => ?_) (fun _ => Mach.ok_none)
  have w2 : OkL (Zhh L0 v1 v3 v4) :=
   Za (Zb1 (E := eI) (L := v1) (i := v3) (q := 0) (by omega) (show (0 + (v3 * 1)) = v3 * 1 + 0 from by omega) (show 0 + 1 ≤ 1 from by decide) rfl rfl) <| oB <| oI <| oY <| Z6
  refine Mach.ok_ite (fun g2 => ?_) (fun g2 => ?_)
  ·
   refine Mach.ok_ite (fun g3 => ?_) (fun _ => Mach.ok_none)
   refine Mach.ok_ite (fun g4 => ?_) (fun _ => Mach.ok_none)
   have w5 : OkL (Zmg L0 v1 v3 v4) :=
    Za (Zj (ZA (x := ((bl [58]) ++ ((bl [76]) ++ (Zd (v3 : Int))))) (y := (bl [10])) sE rfl ltA)) <| Za (Zj (ZA (x := (bl [58])) (y := ((bl [76]) ++ (Zd (v3 : Int)))) rfl sE ltA)) <| Za (Zj (ZA (x := (bl [76])) (y := (Zd (v3 : Int))) rfl rfl ltA)) <| Za (Zai (by omega) (by omega)) <| oY <| w2
   refine Mach.ok_ite (fun g5 => ?_) (fun _ => Mach.ok_none)
   refine Mach.ok_ite (fun g6 => ?_) (fun _ => Mach.ok_none)
   have w7 : OkL (Zjt L0 v1 v3 v4) :=
    Za (Zj ⟨(ZjF (x := (((Zb (bl [58])) ++ (κbs v3)) ++ (Zb (bl [10])))) (M := (lbX v3)) sE (by assumption) ltA), ltA, ltA, ltA, by omega, (Zat (E := (Zau .u8)) (L := v4) (M := (lbX v3)) (n := v4.length) (show _ = _ * 1 from rfl) (by omega) (R := (v4 ++ (lbX v3))) (by rw [List.take_of_length_le (by omega)]))⟩) <| w5
   refine Mach.ok_ite (fun g7 => ?_) (fun g7 => ?_)
   ·
    refine Mach.ok_bind (fun z8 c8 => ?_)
    cases z8 with
    | r0 y8_0 y8_1 =>
     refine Mach.ok_ite (fun g9 => ?_) (fun _ => Mach.ok_none)
     refine Mach.ok_ite (fun g10 => ?_) (fun _ => Mach.ok_none)
     refine Mach.ok_ite (fun g11 => ?_) (fun _ => Mach.ok_none)
     refine Mach.ok_ite (fun g12 => ?_) (fun _ => Mach.ok_none)
     refine Mach.ok_ite (fun g13 => ?_) (fun _ => Mach.ok_none)
     exact Mach.oN (orc := (Zp [(0, true), (1, true), (2, true), (5, true)] [(0, (((v3 + 1) : Nat) : Int))] [(0, v3), (1, v3)] [(0, [.i (v1.getD v3 0)]), (4, [.i (L0.getD v3 RA.z).a0, .i (L0.getD v3 RA.z).a1, .i (L0.getD v3 RA.z).a2, .i (L0.getD v3 RA.z).a3])] [(0, .ap ((1 + (1 + (Zd (v3 : Int)).length)) + 1) (κbQ v3) (κcH v4 v3)), (2, (Zi7 ((L0.getD v3 RA.z).a0) ((L0.getD v3 RA.z).a1) ((L0.getD v3 RA.z).a2) ((L0.getD v3 RA.z).a3)  y8_0 y8_1  4)), (3, .ap (y8_0.length + 1) (Zg (Zau .u8) (y8_0 ++ (bl [10]))) (Zg (Zau .u8) ((v4 ++ (lbX v3)) ++ (y8_0 ++ (bl [10])))))])) (live := [0, 1, 4]) (tv := fun _ => (κz L0 v1 v3)) (bl := [some (.cells (Zg eI v1) 3), some (.cells [vp 1 0, vs 4 0 ((v4.length + ((1 + (1 + (Zd (v3 : Int)).length)) + 1)) + (y8_0.length + 1)) ((v4.length + ((1 + (1 + (Zd (v3 : Int)).length)) + 1)) + (y8_0.length + 1))] 62), some (.cells (Zg (Zau .u8) ((v4 ++ (lbX v3)) ++ (y8_0 ++ (bl [10])))) 5)]) (ob := ((κ1 v3) :: (dP (((y8_0.length + 1) = (((Zb y8_0) ++ (Zb (bl [10])))).size ∧ (Zg (Zau .u8) (y8_0 ++ (bl [10]))) = ZbE ((Zb y8_0) ++ (Zb (bl [10])))) ∧ 0 < (y8_0.length + 1) ∧ (y8_0.length + 1) ≤ 100000 ∧ (v4.length + ((1 + (1 + (Zd (v3 : Int)).length)) + 1)) < (v4.length + ((1 + (1 + (Zd (v3 : Int)).length)) + 1)) + (y8_0.length + 1) ∧ (v4.length + ((1 + (1 + (Zd (v3 : Int)).length)) + 1)) ≤ 100000 ∧ (v4.length + ((1 + (1 + (Zd (v3 : Int)).length)) + 1)) * 1 ≤ (List.length (κcH v4 v3)) ∧ List.take ((v4.length + ((1 + (1 + (Zd (v3 : Int)).length)) + 1)) * 1) (κcH v4 v3) ++ (Zg (Zau .u8) (y8_0 ++ (bl [10]))) = (Zg (Zau .u8) ((v4 ++ (lbX v3)) ++ (y8_0 ++ (bl [10]))))), true) :: (dP (((((Zb y8_0)).size + ((Zb (bl [10]))).size : Nat) : Int) ≤ IntKind.i64.max), true) :: (dP (Zhc #[Value.agg #[vi (L0.getD v3 RA.z).a0, vi (L0.getD v3 RA.z).a1, vi (L0.getD v3 RA.z).a2, vi (L0.getD v3 RA.z).a3]] ((L0.getD v3 RA.z).a0) ((L0.getD v3 RA.z).a1) ((L0.getD v3 RA.z).a2) ((L0.getD v3 RA.z).a3)  y8_0 y8_1  4), true) :: (dP (ZaO (code (ZaA E_iiii L0)) (0 + (v3 * 4)) 4 = some [.i (L0.getD v3 RA.z).a0, .i (L0.getD v3 RA.z).a1, .i (L0.getD v3 RA.z).a2, .i (L0.getD v3 RA.z).a3]), true) :: (Nat.blt v3 L0.length, true) :: (κcG v3) :: (κcE v3 L0) :: Zjt L0 v1 v3 v4)) (Za (beq_iff_eq.2 ((wrap_i64 ltA).trans (by first | rfl | omega))) <| Za (Zj ⟨(ZjF (x := ((Zb y8_0) ++ (Zb (bl [10])))) (M := (y8_0 ++ (bl [10]))) sE (by assumption) ltA), ltA, ltA, ltA, by omega, (Zat (E := (Zau .u8)) (L := (v4 ++ (lbX v3))) (M := (y8_0 ++ (bl [10]))) (n := (v4.length + ((1 + (1 + (Zd (v3 : Int)).length)) + 1))) (show _ = _ * 1 from rfl) ltA (R := ((v4 ++ (lbX v3)) ++ (y8_0 ++ (bl [10])))) (by rw [List.take_of_length_le ltA]))⟩) <| Za (Zj (ZA (x := y8_0) (y := (bl [10])) rfl rfl ltA)) <| Za (Zj (Zi8 #[Value.agg #[vi (L0.getD v3 RA.z).a0, vi (L0.getD v3 RA.z).a1, vi (L0.getD v3 RA.z).a2, vi (L0.getD v3 RA.z).a3]] ((L0.getD v3 RA.z).a0) ((L0.getD v3 RA.z).a1) ((L0.getD v3 RA.z).a2) ((L0.getD v3 RA.z).a3)  y8_0 y8_1 N c8  4 rfl dcd dcd)) <| Za (Zj (Zgu (E := E_iiii) (L := L0) (i := v3) (q := 0) (by omega) (show (0 + (v3 * 4)) = v3 * 4 + 0 from by omega) (show 0 + 4 ≤ 4 from by decide) rfl)) <| oB <| oI <| oY <| w7) (fun _ => ⟨rr, ⟨rr, ⟨rr, ⟨rr, ⟨rr, trivial⟩⟩⟩⟩⟩) ⟨(Zx (E := eI) _ v1 _), ⟨⟨rfl, ⟨[], (show ([vp 1 0, vs 2 0 ((v4.length + ((1 + (1 + (Zd (v3 : Int)).length)) + 1)) + (y8_0.length + 1)) ((v4.length + ((1 + (1 + (Zd (v3 : Int)).length)) + 1)) + (y8_0.length + 1))] : List Value) = _ from (Zh rfl (Zh (ZC rfl eqA eqA) rfl)).symm)⟩, by rfl⟩, ⟨(Zx (E := (Zau .u8)) _ ((v4 ++ (lbX v3)) ++ (y8_0 ++ (bl [10]))) _), trivial⟩⟩⟩
   ·
    refine Mach.ok_ite (fun g8 => ?_) (fun _ => Mach.ok_none)
    exact Mach.oN (orc := (Zp [(0, true), (1, true), (2, true), (5, false)] [(0, (((v3 + 1) : Nat) : Int))] [(0, v3)] [(0, [.i (v1.getD v3 0)])] [(0, .ap ((1 + (1 + (Zd (v3 : Int)).length)) + 1) (κbQ v3) (κcH v4 v3))])) (live := [0, 1, 3]) (tv := fun _ => (κz L0 v1 v3)) (bl := [some (.cells (Zg eI v1) 3), some (.cells [vp 1 0, vs 3 0 (v4.length + ((1 + (1 + (Zd (v3 : Int)).length)) + 1)) (v4.length + ((1 + (1 + (Zd (v3 : Int)).length)) + 1))] 62), some (.cells (κcH v4 v3) 5)]) (ob := ((κ1 v3) :: (κcD v3 L0) :: Zjt L0 v1 v3 v4)) (Za (beq_iff_eq.2 ((wrap_i64 ltA).trans (by first | rfl | omega))) <| oN <| w7) (fun _ => ⟨rr, ⟨rr, ⟨rr, ⟨rr, ⟨rr, trivial⟩⟩⟩⟩⟩) ⟨(Zx (E := eI) _ v1 _), ⟨⟨rfl, ⟨[], (show ([vp 1 0, vs 2 0 (v4.length + ((1 + (1 + (Zd (v3 : Int)).length)) + 1)) (v4.length + ((1 + (1 + (Zd (v3 : Int)).length)) + 1))] : List Value) = _ from (Zh rfl (Zh (ZC rfl eqA eqA) rfl)).symm)⟩, by rfl⟩, ⟨(Zx (E := (Zau .u8)) _ (v4 ++ (lbX v3)) _), trivial⟩⟩⟩
  ·
   refine Mach.ok_ite (fun g3 => ?_) (fun g3 => ?_)
   ·
    refine Mach.ok_bind (fun z4 c4 => ?_)
    cases z4 with
    | r0 y4_0 y4_1 =>
     refine Mach.ok_ite (fun g5 => ?_) (fun _ => Mach.ok_none)
     refine Mach.ok_ite (fun g6 => ?_) (fun _ => Mach.ok_none)
     refine Mach.ok_ite (fun g7 => ?_) (fun _ => Mach.ok_none)
     refine Mach.ok_ite (fun g8 => ?_) (fun _ => Mach.ok_none)
     refine Mach.ok_ite (fun g9 => ?_) (fun _ => Mach.ok_none)
     exact Mach.oN (orc := (Zs [o1, o0, o1] [(0, (((v3 + 1) : Nat) : Int))] [(0, v3), (1, v3)] [(0, [.i (v1.getD v3 0)]), (1, [.i (L0.getD v3 RA.z).a0, .i (L0.getD v3 RA.z).a1, .i (L0.getD v3 RA.z).a2, .i (L0.getD v3 RA.z).a3])] [(0, (Zi7 ((L0.getD v3 RA.z).a0) ((L0.getD v3 RA.z).a1) ((L0.getD v3 RA.z).a2) ((L0.getD v3 RA.z).a3)  y4_0 y4_1  3)), (1, .ap (y4_0.length + 1) (κbY y4_0) (Zg (Zau .u8) (v4 ++ (y4_0 ++ (bl [10])))))])) (live := [0, 1, 3]) (tv := fun _ => (κz L0 v1 v3)) (bl := [some (.cells (Zg eI v1) 3), some (.cells [vp 1 0, vs 3 0 (v4.length + (y4_0.length + 1)) (v4.length + (y4_0.length + 1))] 62), some (.cells (Zg (Zau .u8) (v4 ++ (y4_0 ++ (bl [10])))) 5)]) (ob := ((κ1 v3) :: (dP (((y4_0.length + 1) = ((κcC y4_0)).size ∧ (κbY y4_0) = ZbE (κcC y4_0)) ∧ 0 < (y4_0.length + 1) ∧ (y4_0.length + 1) ≤ 100000 ∧ v4.length < v4.length + (y4_0.length + 1) ∧ v4.length ≤ 100000 ∧ v4.length * 1 ≤ (List.length (Zg (Zau .u8) v4)) ∧ List.take (v4.length * 1) (Zg (Zau .u8) v4) ++ (κbY y4_0) = (Zg (Zau .u8) (v4 ++ (y4_0 ++ (bl [10]))))), true) :: (κdt y4_0) :: (dP (Zhc #[Value.agg #[vi (L0.getD v3 RA.z).a0, vi (L0.getD v3 RA.z).a1, vi (L0.getD v3 RA.z).a2, vi (L0.getD v3 RA.z).a3]] ((L0.getD v3 RA.z).a0) ((L0.getD v3 RA.z).a1) ((L0.getD v3 RA.z).a2) ((L0.getD v3 RA.z).a3)  y4_0 y4_1  3), true) :: (dP (ZaO (code (ZaA E_iiii L0)) (0 + (v3 * 4)) 4 = some [.i (L0.getD v3 RA.z).a0, .i (L0.getD v3 RA.z).a1, .i (L0.getD v3 RA.z).a2, .i (L0.getD v3 RA.z).a3]), true) :: (Nat.blt v3 L0.length, true) :: (κcG v3) :: (κcE v3 L0) :: (κc0 v1 v3) :: Zhh L0 v1 v3 v4)) (Za (beq_iff_eq.2 ((wrap_i64 ltA).trans (by first | rfl | omega))) <| Za (Zj ⟨(ZjF (x := (κcC y4_0)) (M := (y4_0 ++ (bl [10]))) sE (by assumption) ltA), ltA, ltA, ltA, by omega, (Zat (E := (Zau .u8)) (L := v4) (M := (y4_0 ++ (bl [10]))) (n := v4.length) (show _ = _ * 1 from rfl) (by omega) (R := (v4 ++ (y4_0 ++ (bl [10])))) (by rw [List.take_of_length_le (by omega)]))⟩) <| Za (Zj (ZA (x := y4_0) (y := (bl [10])) rfl rfl ltA)) <| Za (Zj (Zi8 #[Value.agg #[vi (L0.getD v3 RA.z).a0, vi (L0.getD v3 RA.z).a1, vi (L0.getD v3 RA.z).a2, vi (L0.getD v3 RA.z).a3]] ((L0.getD v3 RA.z).a0) ((L0.getD v3 RA.z).a1) ((L0.getD v3 RA.z).a2) ((L0.getD v3 RA.z).a3)  y4_0 y4_1 N c4  3 rfl dcd dcd)) <| Za (Zj (Zgu (E := E_iiii) (L := L0) (i := v3) (q := 0) (by omega) (show (0 + (v3 * 4)) = v3 * 4 + 0 from by omega) (show 0 + 4 ≤ 4 from by decide) rfl)) <| oB <| oI <| oY <| oN <| w2) (fun _ => ⟨rr, ⟨rr, ⟨rr, ⟨rr, ⟨rr, trivial⟩⟩⟩⟩⟩) ⟨(Zx (E := eI) _ v1 _), ⟨⟨rfl, ⟨[], (show ([vp 1 0, vs 2 0 (v4.length + (y4_0.length + 1)) (v4.length + (y4_0.length + 1))] : List Value) = _ from (Zh rfl (Zh (ZC rfl eqA eqA) rfl)).symm)⟩, by rfl⟩, ⟨(Zx (E := (Zau .u8)) _ (v4 ++ (y4_0 ++ (bl [10]))) _), trivial⟩⟩⟩
   ·
    refine Mach.ok_ite (fun g4 => ?_) (fun _ => Mach.ok_none)
    exact Mach.oN (orc := (Zs [o1, o0, o0] [(0, (((v3 + 1) : Nat) : Int))] [(0, v3)] [(0, [.i (v1.getD v3 0)])] [])) (live := [0, 1, 2]) (tv := fun _ => (κz L0 v1 v3)) (bl := [some (.cells (Zg eI v1) 3), some (.cells [vp 1 0, vs 2 0 v4.length v4.length] 62), some (.cells (Zg (Zau .u8) v4) 5)]) (ob := ((κ1 v3) :: (κcD v3 L0) :: (κc0 v1 v3) :: Zhh L0 v1 v3 v4)) (Za (beq_iff_eq.2 ((wrap_i64 ltA).trans (by first | rfl | omega))) <| oN <| oN <| w2) (fun _ => ⟨rr, ⟨rr, ⟨rr, ⟨rr, ⟨rr, trivial⟩⟩⟩⟩⟩) ⟨(Zx (E := eI) _ v1 _), ⟨sm, ⟨(Zx (E := (Zau .u8)) _ v4 _), trivial⟩⟩⟩
 ·
  refine Mach.ok_ite (fun g1 => ?_) (fun _ => Mach.ok_none)
  refine Mach.ok_ite (fun g2 => ?_) (fun _ => Mach.ok_none)
  exact Mach.oF (orc := (Zs [o0] [] [] [] [(0, .bs v4)])) (live := []) (u := Value.tuple #[Value.string (Zb v4), vq]) (bl := []) (ob := ((dP (Z8 v4.length (Zg (Zau .u8) v4) = some (List.map (Value.int .u8) v4) ∧ 0 < v4.length ∧ v4.length ≤ v4.length ∧ v4.length ≤ 1000000000), true) :: ((decide ((v3 : Int) < (((L0.length + 1) : Nat) : Int))), false) :: [])) (Za (Zj ⟨(Zyr (L := v4) (o := 0) (a := 0) (n := v4.length) (by omega) (by omega) (by rw [List.drop_zero, List.take_of_length_le (by omega)])), ltA, ltA, ltA⟩) <| oN <| Z6) rr trivial

noncomputable abbrev κdl (L0 : List RA) := (Zg eI (List.replicate (L0.length + 1) (0 : Int)))
set_option maxHeartbeats 4000000 in
theorem Zsg (L0 : List RA) (N : Nat) : (ZbS L0 N).Enter Tryd.prog Zbu #[ms E_iiii L0] (ZdZ L0 N) := by
 unfold ZdZ
 refine Mach.en_ite (fun g0 => ?_) (fun g0 => ?_)
 ·
  exact Mach.en_fin (M := ZbS L0 N) (cd := 1000000) (cm := 0) (r := (.r0 (([] : List Int)) ((3 : Int)) : Za3)) (fu := 4000) (orc := (Zs [o1] [] [] [] [])) (live := []) (u := Value.tuple #[Value.string ⟨#[]⟩, vi (3 : Int)]) (bl := []) (ob := (((decide ((L0.length : Int) > (512 : Int))), true) :: [])) (by as_aux_lemma => kernel_rfl) (oY <| Z6) rfl (by decide) (by rfl) ⟨Eq.trans (show (Value.tuple #[Value.string (Zb ([] : List Int)), vi (3 : Int)] : Value) = Value.tuple #[Value.string ⟨#[]⟩, vi (3 : Int)] from (Zaj (Zh rfl (Zh rfl rfl)))) (by rfl), by rfl⟩ trivial
 ·
  exact Mach.en_head (bK := Zc5 1) (M := ZbS L0 N) (cd := 1000000) (cm := 0) (y := (.h1m0 ((List.replicate (L0.length + 1) (0 : Int))) (0) : ZB)) (fu := 4000) (orc := (Zs [o0] [(0, (((L0.length + 1) : Nat) : Int))] [] [] [(0, .mk (L0.length + 1) (L0.length + 1) (κdl L0))])) (live := [0]) (tv := [some (ms E_iiii L0), some (vs 0 0 (L0.length + 1) (L0.length + 1)), some (ms E_iiii L0), some (vi (L0.length : Int)), some (vq)]) (bl := [some (.cells (κdl L0) 3)]) (ob := ((dP ((L0.length + 1) ≤ (L0.length + 1) ∧ (L0.length + 1) ≤ 300000 ∧ Ev.rep [vq] ((L0.length + 1) * 1) = (κdl L0)), true) :: ((((L0.length + 1) : Nat) : Int) == Int.ofNat (L0.length + 1), true) :: ((((L0.length + 1) : Nat) : Int) == Int.ofNat (L0.length + 1), true) :: (κdn L0) :: ((decide ((L0.length : Int) > (512 : Int))), false) :: [])) rfl rfl (show Za9 (Zc5 1).2 = [] from rfl) (by as_aux_lemma => kernel_rfl) (Za (Zj ⟨by omega, by omega, ZwG (E := eI) (0 : Int) (L0.length + 1) (by decide) rfl rfl⟩) <| oI <| oI <| Za (beq_iff_eq.2 ((wrap_i64 ltA).trans (by first | rfl | omega))) <| oN <| Z6) rfl (by decide) (by rfl) ⟨rr, ⟨⟨Eq.trans (show (vs 0 0 (List.replicate (L0.length + 1) (0 : Int)).length (List.replicate (L0.length + 1) (0 : Int)).length : Value) = vs 0 0 (L0.length + 1) (L0.length + 1) from (ZC rfl List.length_replicate List.length_replicate)) (by rfl), by rfl⟩, ⟨rr, ⟨rr, ⟨⟨Eq.trans (show κda = vq from (congrArg (Value.int .i64) (by first | rfl | omega))) (by rfl), by rfl⟩, trivial⟩⟩⟩⟩⟩ ⟨(Zx (E := eI) _ (List.replicate (L0.length + 1) (0 : Int)) _), trivial⟩

end Ev
end Go.Proofs.YtlbbiflodemagaaDoor
/- Calls do what the plain functions say. -/
namespace Go.Proofs.YtlbbiflodemagaaDoor
open Go.RowKit
namespace Ev
set_option linter.unusedVariables false
set_option maxRecDepth 100000
theorem ZpC (L0 : List RA) (N : Nat) (r : Za3) (h : ZdO L0 N = some r) : LSpec Tryd.prog 13 #[ms E_iiii L0] [] (Zo9 L0 r) (Zng L0 r) :=
 Mach.spec ZkA (ZbS L0 N) Tryd.func13 (by kernel_rfl) (by kernel_rfl) (fun x => by cases x <;> exact ZaV _ rfl) (fun r => by cases r <;> exact ZaV _ rfl) (fun x => by
  cases x with
  | h1m0 _ _ => exact fun _ => (show ¬ (1 ∈ Za9 (Zc5 1).2) from by decide +kernel)
  | h2m0 _ _ => exact fun _ => (show ¬ (2 ∈ Za9 (Zc5 2).2) from by decide +kernel)
  | h2m1 _ _ _ => exact fun _ => (show ¬ (2 ∈ Za9 (Zc5 2).2) from by decide +kernel)
  ) (fun x => (show (ZbS L0 N).Ok Tryd.prog Zbu x (Za8 L0 N x) from by
  cases x with
  | h1m0 v1 v4 => exact ZoA L0 v1 v4 N
  | h2m0 v1 v3 => exact ZoB L0 v1 v3 N
  | h2m1 v1 v3 v4 => exact ZoC L0 v1 v3 v4 N
  )) (Zsg L0 N) (n := N) h

noncomputable def Zgl (L0 : List RA) (w0 : List Int) (w1 : Int) (n : Nat) : Za5 := .call [] (κci w0 w1) [] 0
def ZjS (A : Array Value) (L0 : List RA) (w0 : List Int) (w1 : Int) (n : Nat) : Prop := Z3 Tryd.prog 13 A [] (κci w0 w1) [] n 0

theorem Zni (A : Array Value) (L0 : List RA) (w0 : List Int) (w1 : Int) (N : Nat) (h : ZdO L0 N = some (.r0 w0 w1)) (n : Nat) (hA : A = #[ms E_iiii L0]) (hnd : ([] : List Nat).Nodup) (hlt : ∀ k ∈ ([] : List Nat), k < n) : ZjS A L0 w0 w1  n :=
 Zae hA (cX0 (show LSpec Tryd.prog 13 #[ms E_iiii L0] [] (κci w0 w1) [] from ZpC L0 N _ h) [] n [] hnd hlt)

noncomputable def Znj (L0 L1 : List RA) : Zbp → Value
 | .r0 w0 => Value.bool w0
noncomputable def Zmh (L0 L1 : List RA) : Zbp → List (Option AObj)
 | .r0 w0 => []

def Zsh : ref11_SameX → Nat
 | .h1m0 v2 => 1
noncomputable def Zti (L0 L1 : List RA) : ref11_SameX → List (Nat × Value)
 | .h1m0 v2 => [(0, ms E_iiii L0), (1, ms E_iiii L1), (5, vi (v2 : Int))]
noncomputable def Ztj (L0 L1 : List RA) : ref11_SameX → List (Option AObj)
 | .h1m0 v2 => []

noncomputable def ZhA : Nat → Code × List Zbk
 | 1 => Zem [1, 1, 0, 1, 3] (Zgn Tryd.f10) []
 | _ => (.skip, [])
def Zsi : Nat → Bool
 | 1 => true
 | _ => true
noncomputable def Zea (L0 L1 : List RA) (N : Nat) : Mach := ⟨Tryd.f10, [], ref11_SameX, Zbp, Zes L0 L1 N, Zsh, ZhA, Zsi, Zti L0 L1, Ztj L0 L1, Znj L0 L1, Zmh L0 L1⟩

noncomputable def Zlp (L0 L1 : List RA) (v2 : Nat) : OB := (dP (ZaO (code (ZaA E_iiii L0)) (0 + (v2 * 4)) 4 = some [.i (L0.getD v2 RA.z).a0, .i (L0.getD v2 RA.z).a1, .i (L0.getD v2 RA.z).a2, .i (L0.getD v2 RA.z).a3]), true) :: (Nat.blt v2 L0.length, true) :: ((v2 : Int) == Int.ofNat v2, true) :: ((decide ((v2 : Int) < (L0.length : Int))), true) :: []

noncomputable def Zik (L0 L1 : List RA) (v2 : Nat) : OB := (dP (ZaO (code (ZaA E_iiii L1)) (0 + (v2 * 4)) 4 = some [.i (L1.getD v2 RA.z).a0, .i (L1.getD v2 RA.z).a1, .i (L1.getD v2 RA.z).a2, .i (L1.getD v2 RA.z).a3]), true) :: (Nat.blt v2 L1.length, true) :: ((v2 : Int) == Int.ofNat v2, true) :: Zlp L0 L1 v2

set_option maxHeartbeats 4000000 in
theorem ZnH (L0 L1 : List RA) (v2 N : Nat) : (Zea L0 L1 N).Ok Tryd.prog Zbu (.h1m0 v2 : ref11_SameX) (Zes L0 L1 N (.h1m0 v2 : ref11_SameX)) := by
 show (Zea L0 L1 N).Ok Tryd.prog Zbu (.h1m0 v2 : ref11_SameX) (Zcp L0 L1 N v2)
 unfold Zcp
 refine Mach.ok_ite (fun g0 => ?_) (fun g0 => ?_)
 ·
  have w1 : OkL (Zlp L0 L1 v2) :=
   Za (Zj (Zgu (E := E_iiii) (L := L0) (i := v2) (q := 0) (by omega) (show (0 + (v2 * 4)) = v2 * 4 + 0 from by omega) (show 0 + 4 ≤ 4 from by decide) rfl)) <| oB <| oI <| oY <| Z6
  refine Mach.ok_ite (fun g1 => ?_) (fun _ => Mach.ok_none)
  have w2 : OkL (Zik L0 L1 v2) :=
   Za (Zj (Zgu (E := E_iiii) (L := L1) (i := v2) (q := 0) (by omega) (show (0 + (v2 * 4)) = v2 * 4 + 0 from by omega) (show 0 + 4 ≤ 4 from by decide) rfl)) <| oB <| oI <| w1
  refine Mach.ok_ite (fun g2 => ?_) (fun g2 => ?_)
  ·
   exact Mach.oF (orc := (Zs [o1, o1] [] [(0, v2), (1, v2)] [(0, [.i (L0.getD v2 RA.z).a0, .i (L0.getD v2 RA.z).a1, .i (L0.getD v2 RA.z).a2, .i (L0.getD v2 RA.z).a3]), (1, [.i (L1.getD v2 RA.z).a0, .i (L1.getD v2 RA.z).a1, .i (L1.getD v2 RA.z).a2, .i (L1.getD v2 RA.z).a3])] [])) (live := []) (u := vf) (bl := []) (ob := (((!(((L0.getD v2 RA.z).a0 == (L1.getD v2 RA.z).a0) && (((L0.getD v2 RA.z).a1 == (L1.getD v2 RA.z).a1) && (((L0.getD v2 RA.z).a2 == (L1.getD v2 RA.z).a2) && (((L0.getD v2 RA.z).a3 == (L1.getD v2 RA.z).a3) && true))))), true) :: Zik L0 L1 v2)) (Za (by rw [Bool.not_eq_true']; exact Bool.eq_false_iff.2 (by simp only [ne_eq, Bool.and_true, Bool.and_eq_true, beq_iff_eq]; first | omega | (intro hh; simp_all; done) | (intro hh; grind))) <| w2) rr trivial
  ·
   refine Mach.ok_ite (fun g3 => ?_) (fun _ => Mach.ok_none)
   exact Mach.oN (orc := (Zs [o1, o0] [(0, (((v2 + 1) : Nat) : Int))] [(0, v2), (1, v2)] [(0, [.i (L0.getD v2 RA.z).a0, .i (L0.getD v2 RA.z).a1, .i (L0.getD v2 RA.z).a2, .i (L0.getD v2 RA.z).a3]), (1, [.i (L1.getD v2 RA.z).a0, .i (L1.getD v2 RA.z).a1, .i (L1.getD v2 RA.z).a2, .i (L1.getD v2 RA.z).a3])] [])) (live := []) (tv := fun _ => [some (ms E_iiii L0), some (ms E_iiii L1), some (vi (((v2 + 1) : Nat) : Int))]) (bl := []) (ob := ((κbT v2) :: ((!(((L0.getD v2 RA.z).a0 == (L1.getD v2 RA.z).a0) && (((L0.getD v2 RA.z).a1 == (L1.getD v2 RA.z).a1) && (((L0.getD v2 RA.z).a2 == (L1.getD v2 RA.z).a2) && (((L0.getD v2 RA.z).a3 == (L1.getD v2 RA.z).a3) && true))))), false) :: Zik L0 L1 v2)) (Za (beq_iff_eq.2 ((wrap_i64 ltA).trans (by first | rfl | omega))) <| Za (by rw [Bool.not_eq_false']; first | (simp only [beq_self_eq_true, Bool.and_self]; done) | (simp only [Bool.and_true, Bool.and_eq_true, beq_iff_eq] <;> first | omega | (simp_all; done) | grind)) <| w2) (fun _ => ⟨rr, ⟨rr, ⟨rr, trivial⟩⟩⟩) trivial
 ·
  exact Mach.oF (orc := (Zs [o0] [] [] [] [])) (live := []) (u := vT) (bl := []) (ob := (((decide ((v2 : Int) < (L0.length : Int))), false) :: [])) (oN <| Z6) rr trivial

set_option maxHeartbeats 4000000 in
theorem Zq6 (L0 L1 : List RA) (N : Nat) : (Zea L0 L1 N).Enter Tryd.prog Zbu #[ms E_iiii L0, ms E_iiii L1] (ZfA L0 L1 N) := by
 unfold ZfA
 refine Mach.en_ite (fun g0 => ?_) (fun g0 => ?_)
 ·
  exact Mach.en_fin (M := Zea L0 L1 N) (cd := 1000000) (cm := 0) (r := (.r0 (false) : Zbp)) (fu := 4000) (orc := (Zs [o1] [] [] [] [])) (live := []) (u := vf) (bl := []) (ob := ((((L0.length : Int) != (L1.length : Int)), true) :: [])) (by as_aux_lemma => kernel_rfl) (oD <| Z6) rfl (by decide) (by rfl) rr trivial
 ·
  exact Mach.en_head (bK := ZhA 1) (M := Zea L0 L1 N) (cd := 1000000) (cm := 0) (y := (.h1m0 (0) : ref11_SameX)) (fu := 4000) (orc := (Zs [o0] [] [] [] [])) (live := []) (tv := [some (ms E_iiii L0), some (ms E_iiii L1), some (vq)]) (bl := []) (ob := ((((L0.length : Int) != (L1.length : Int)), false) :: [])) rfl rfl (show Za9 (ZhA 1).2 = [] from rfl) (by as_aux_lemma => kernel_rfl) (oE <| Z6) rfl (by decide) (by rfl) ⟨rr, ⟨rr, ⟨⟨Eq.trans (show κda = vq from (congrArg (Value.int .i64) (by first | rfl | omega))) (by rfl), by rfl⟩, trivial⟩⟩⟩ trivial

theorem ZoD (L0 L1 : List RA) (N : Nat) (r : Zbp) (h : ZfL L0 L1 N = some r) : LSpec Tryd.prog 10 #[ms E_iiii L0, ms E_iiii L1] [] (Znj L0 L1 r) (Zmh L0 L1 r) :=
 Mach.spec ZkA (Zea L0 L1 N) Tryd.func10 (by kernel_rfl) (by kernel_rfl) (fun x => by cases x <;> exact ZaV _ rfl) (fun r => by cases r <;> exact ZaV _ rfl) (fun x => by
  cases x with
  | h1m0 _ => exact fun _ => (show ¬ (1 ∈ Za9 (ZhA 1).2) from by decide +kernel)
  ) (fun x => (show (Zea L0 L1 N).Ok Tryd.prog Zbu x (Zes L0 L1 N x) from by
  cases x with
  | h1m0 v2 => exact ZnH L0 L1 v2 N
  )) (Zq6 L0 L1 N) (n := N) h

noncomputable def Zhi (L0 L1 : List RA) (w0 : Bool) (n : Nat) : Za5 := .call [] (Value.bool w0) [] 0
def ZfC (A : Array Value) (L0 L1 : List RA) (w0 : Bool) (n : Nat) : Prop := Z3 Tryd.prog 10 A [] (Value.bool w0) [] n 0

theorem Zhj (A : Array Value) (L0 L1 : List RA) (w0 : Bool) (N : Nat) (h : ZfL L0 L1 N = some (.r0 w0)) (n : Nat) (hA : A = #[ms E_iiii L0, ms E_iiii L1]) (hnd : ([] : List Nat).Nodup) (hlt : ∀ k ∈ ([] : List Nat), k < n) : ZfC A L0 L1 w0  n :=
 Zae hA (cX0 (show LSpec Tryd.prog 10 #[ms E_iiii L0, ms E_iiii L1] [] (Value.bool w0) [] from ZoD L0 L1 N _ h) [] n [] hnd hlt)

noncomputable def ZkB (L0 : List RA) (L1 : List Int) : Za6 → Value
 | .r0 w0 => Value.bool w0
noncomputable def ZjJ (L0 : List RA) (L1 : List Int) : Za6 → List (Option AObj)
 | .r0 w0 => []

def ZoE : Zaq → Nat
 | .h1m0 v0 => 1
noncomputable def ZpD (L0 : List RA) (L1 : List Int) : Zaq → List (Nat × Value)
 | .h1m0 v0 => [(1, Value.string (Zb v0))]
noncomputable def ZpE (L0 : List RA) (L1 : List Int) : Zaq → List (Option AObj)
 | .h1m0 v0 => []

noncomputable def Zdz : Nat → Code × List Zbk
 | 1 => ZlS [1, 1, 1] (Zgn Tryd.f4) []
 | _ => (.skip, [])
def ZoF : Nat → Bool
 | 1 => false
 | _ => true
noncomputable def Zci (L0 : List RA) (L1 : List Int) (N : Nat) : Mach := ⟨Tryd.f4, [], Zaq, Za6, Zdk L0 L1 N, ZoE, Zdz, ZoF, ZpD L0 L1, ZpE L0 L1, ZkB L0 L1, ZjJ L0 L1⟩

noncomputable abbrev κcX (y1_0 : List Int) := #[Value.string (Zb y1_0)]
noncomputable def Zg2 (L0 : List RA) (L1 v0 : List Int) (y0_0 : List RA) (y1_0 : List Int) (y1_1 : Int) (y2_0 : List RA) : OB := (dP (Zgk (κcX y1_0) (y1_0)  y2_0  0), true) :: (dP (ZjS #[ms E_iiii y0_0] (y0_0)  y1_0 y1_1  0), true) :: (dP (Zgk #[Value.string (Zb v0)] (v0)  y0_0  0), true) :: []

set_option maxHeartbeats 4000000 in
theorem Zlq (L0 : List RA) (L1 v0 : List Int) (N : Nat) : (Zci L0 L1 N).Ok Tryd.prog Zbu (.h1m0 v0 : Zaq) (Zdk L0 L1 N (.h1m0 v0 : Zaq)) := by
 show (Zci L0 L1 N).Ok Tryd.prog Zbu (.h1m0 v0 : Zaq) (ZcB L0 L1 N v0)
 unfold ZcB
 refine Mach.ok_bind (fun z0 c0 => ?_)
 cases z0 with
 | r0 y0_0 y0_1 =>
  refine Mach.ok_ite (fun g1 => ?_) (fun _ => Mach.ok_none)
  exact Mach.oF (orc := (Zs [o1] [] [] [] [(0, (Ztd (v0)  y0_0 y0_1  0))])) (live := []) (u := vT) (bl := []) (ob := (((y0_1 != (0 : Int)), true) :: (dP (Znd #[Value.string (Zb v0)] (v0)  y0_0 y0_1  0), true) :: [])) (oD <| Za (Zj (Zte #[Value.string (Zb v0)] (v0)  y0_0 y0_1 N c0  0 rfl dcd dcd)) <| Z6) rr trivial
 | r1 y0_0 =>
  refine Mach.ok_bind (fun z1 c1 => ?_)
  cases z1 with
  | r0 y1_0 y1_1 =>
   refine Mach.ok_bind (fun z2 c2 => ?_)
   cases z2 with
   | r0 _ _ =>
    exact Mach.ok_none
   | r1 y2_0 =>
    have w3 : OkL (Zg2 L0 L1 v0 y0_0 y1_0 y1_1 y2_0) :=
     Za (Zj (Zh8 (κcX y1_0) (y1_0)  y2_0 N c2  0 rfl dcd dcd)) <| Za (Zj (Zni #[ms E_iiii y0_0] (y0_0)  y1_0 y1_1 N c1  0 rfl dcd dcd)) <| Za (Zj (Zh8 #[Value.string (Zb v0)] (v0)  y0_0 N c0  0 rfl dcd dcd)) <| Z6
    refine Mach.ok_ite (fun g3 => ?_) (fun _ => Mach.ok_none)
    refine Mach.ok_bind (fun z4 c4 => ?_)
    cases z4 with
    | r0 y4_0 =>
     refine Mach.ok_ite (fun g5 => ?_) (fun g5 => ?_)
     ·
      subst g5
      exact Mach.oF (orc := (Zp [(1, true)] [] [] [] [(0, (ZeL (v0)  y0_0  0)), (1, (Zgl (y0_0)  y1_0 y1_1  0)), (2, (ZeL (y1_0)  y2_0  0)), (3, (Zhi (y0_0) (y2_0)  true  0))])) (live := []) (u := vT) (bl := []) (ob := ((dP (ZfC #[ms E_iiii y0_0, ms E_iiii y2_0] (y0_0) (y2_0)  true  0), true) :: ((y1_1 == (0 : Int)), true) :: Zg2 L0 L1 v0 y0_0 y1_0 y1_1 y2_0)) (Za (Zj (Zhj #[ms E_iiii y0_0, ms E_iiii y2_0] (y0_0) (y2_0)  true N c4  0 rfl dcd dcd)) <| oT <| w3) rr trivial
     ·
      obtain rfl : y4_0 = false := by simpa using g5
      exact Mach.oF (orc := (Zp [(1, true)] [] [] [] [(0, (ZeL (v0)  y0_0  0)), (1, (Zgl (y0_0)  y1_0 y1_1  0)), (2, (ZeL (y1_0)  y2_0  0)), (3, (Zhi (y0_0) (y2_0)  false  0))])) (live := []) (u := vf) (bl := []) (ob := ((dP (ZfC #[ms E_iiii y0_0, ms E_iiii y2_0] (y0_0) (y2_0)  false  0), true) :: ((y1_1 == (0 : Int)), true) :: Zg2 L0 L1 v0 y0_0 y1_0 y1_1 y2_0)) (Za (Zj (Zhj #[ms E_iiii y0_0, ms E_iiii y2_0] (y0_0) (y2_0)  false N c4  0 rfl dcd dcd)) <| oT <| w3) rr trivial

noncomputable def Zju (L0 : List RA) (L1 : List Int) : OB := (dP (0 ≤ ((if (520 : Int) < (L0.length : Int) then (520 : Int) else (L0.length : Int))).toNat ∧ ((if (520 : Int) < (L0.length : Int) then (520 : Int) else (L0.length : Int))).toNat ≤ L0.length ∧ ZaO (code (ZaA E_iiii L0)) (0 + 0 * 4) (ZaA E_iiii (fwL L0)).length = some (ZaA E_iiii (fwL L0)) ∧ (((if (520 : Int) < (L0.length : Int) then (520 : Int) else (L0.length : Int))).toNat - 0) * 4 = (ZaA E_iiii (fwL L0)).length ∧ (fwL L0).length = ((if (520 : Int) < (L0.length : Int) then (520 : Int) else (L0.length : Int))).toNat - 0), true) :: ((if (520 : Int) < (L0.length : Int) then (520 : Int) else (L0.length : Int)) == Int.ofNat ((if (520 : Int) < (L0.length : Int) then (520 : Int) else (L0.length : Int))).toNat, true) :: (dS 0, true) :: []

noncomputable def ZeC (L0 : List RA) (L1 y0_0 y1_0 : List Int) (y1_1 : Int) : OB := (dP (ZjS #[ms E_iiii (fwL L0)] ((fwL L0))  y1_0 y1_1  0), true) :: (dP (Znf #[Value.string (Zb L1)] (L1)  y0_0  0), true) :: Zju L0 L1

set_option maxHeartbeats 4000000 in
theorem ZnI (L0 : List RA) (L1 : List Int) (N : Nat) : (Zci L0 L1 N).Enter Tryd.prog Zbu #[ms E_iiii L0, Value.string (Zb L1)] (ZdP L0 L1 N) := by
 unfold ZdP
 have w0 : OkL (Zju L0 L1) :=
  Za (Zj (ms_ob (E := E_iiii) (L := L0) (R := (fwL L0)) (l := 0) (h := ((if (520 : Int) < (L0.length : Int) then (520 : Int) else (L0.length : Int))).toNat) (size := 4) ltA ltA (by decide) (by simp))) <| oI <| oR <| Z6
 refine Mach.en_bind (fun z0 c0 => ?_)
 cases z0 with
 | r0 y0_0 =>
  refine Mach.en_bind (fun z1 c1 => ?_)
  cases z1 with
  | r0 y1_0 y1_1 =>
   have w2 : OkL (ZeC L0 L1 y0_0 y1_0 y1_1) :=
    Za (Zj (Zni #[ms E_iiii (fwL L0)] ((fwL L0))  y1_0 y1_1 N c1  0 rfl dcd dcd)) <| Za (Zj (Ztf #[Value.string (Zb L1)] (L1)  y0_0 N c0  0 rfl dcd dcd)) <| w0
   refine Mach.en_ite (fun g2 => ?_) (fun g2 => ?_)
   ·
    refine Mach.en_bind (fun z3 c3 => ?_)
    cases z3 with
    | r0 _ _ =>
     exact Mach.en_none
    | r1 y3_0 =>
     refine Mach.en_bind (fun z4 c4 => ?_)
     cases z4 with
     | r0 y4_0 =>
      refine Mach.en_ite (fun g5 => ?_) (fun g5 => ?_)
      ·
       subst g5
       exact Mach.en_cut (bK := Zdz 1) (M := Zci L0 L1 N) (cd := 0) (cm := 2) (y := (.h1m0 (y0_0) : Zaq)) (fu := 4000) (orc := (Zs [o1] [] [] [] [(0, .ms 0 ((if (520 : Int) < (L0.length : Int) then (520 : Int) else (L0.length : Int))).toNat (fwL L0).length (ZaA E_iiii (fwL L0))), (1, (ZjR (L1)  y0_0  0)), (2, (Zgl ((fwL L0))  y1_0 y1_1  0)), (3, (ZeL (y1_0)  y3_0  0)), (4, (Zhi ((fwL L0)) (y3_0)  true  0))])) (live := []) (tv := [some (Value.string (Zb y0_0))]) (bl := []) (ob := ((dP (ZfC #[ms E_iiii (fwL L0), ms E_iiii y3_0] ((fwL L0)) (y3_0)  true  0), true) :: (dP (Zgk (κcX y1_0) (y1_0)  y3_0  0), true) :: ((y1_1 == (0 : Int)), true) :: ZeC L0 L1 y0_0 y1_0 y1_1)) rfl rfl (show Za9 (Zdz 1).2 = [] from rfl) (by as_aux_lemma => kernel_rfl) (Za (Zj (Zhj #[ms E_iiii (fwL L0), ms E_iiii y3_0] ((fwL L0)) (y3_0)  true N c4  0 rfl dcd dcd)) <| Za (Zj (Zh8 (κcX y1_0) (y1_0)  y3_0 N c3  0 rfl dcd dcd)) <| oT <| w2) rfl (by decide) (by rfl) ⟨rr, trivial⟩ trivial
      ·
       obtain rfl : y4_0 = false := by simpa using g5
       exact Mach.en_fin (M := Zci L0 L1 N) (cd := 1000000) (cm := 0) (r := (.r0 (false) : Za6)) (fu := 4000) (orc := (Zs [o1] [] [] [] [(0, .ms 0 ((if (520 : Int) < (L0.length : Int) then (520 : Int) else (L0.length : Int))).toNat (fwL L0).length (ZaA E_iiii (fwL L0))), (1, (ZjR (L1)  y0_0  0)), (2, (Zgl ((fwL L0))  y1_0 y1_1  0)), (3, (ZeL (y1_0)  y3_0  0)), (4, (Zhi ((fwL L0)) (y3_0)  false  0))])) (live := []) (u := vf) (bl := []) (ob := ((dP (ZfC #[ms E_iiii (fwL L0), ms E_iiii y3_0] ((fwL L0)) (y3_0)  false  0), true) :: (dP (Zgk (κcX y1_0) (y1_0)  y3_0  0), true) :: ((y1_1 == (0 : Int)), true) :: ZeC L0 L1 y0_0 y1_0 y1_1)) (by as_aux_lemma => kernel_rfl) (Za (Zj (Zhj #[ms E_iiii (fwL L0), ms E_iiii y3_0] ((fwL L0)) (y3_0)  false N c4  0 rfl dcd dcd)) <| Za (Zj (Zh8 (κcX y1_0) (y1_0)  y3_0 N c3  0 rfl dcd dcd)) <| oT <| w2) rfl (by decide) (by rfl) rr trivial
   ·
    exact Mach.en_cut (bK := Zdz 1) (M := Zci L0 L1 N) (cd := 0) (cm := 2) (y := (.h1m0 (y0_0) : Zaq)) (fu := 4000) (orc := (Zs [o0] [] [] [] [(0, .ms 0 ((if (520 : Int) < (L0.length : Int) then (520 : Int) else (L0.length : Int))).toNat (fwL L0).length (ZaA E_iiii (fwL L0))), (1, (ZjR (L1)  y0_0  0)), (2, (Zgl ((fwL L0))  y1_0 y1_1  0))])) (live := []) (tv := [some (Value.string (Zb y0_0))]) (bl := []) (ob := (((y1_1 == (0 : Int)), false) :: ZeC L0 L1 y0_0 y1_0 y1_1)) rfl rfl (show Za9 (Zdz 1).2 = [] from rfl) (by as_aux_lemma => kernel_rfl) (oF <| w2) rfl (by decide) (by rfl) ⟨rr, trivial⟩ trivial

theorem Zmi (L0 : List RA) (L1 : List Int) (N : Nat) (r : Za6) (h : Zij L0 L1 N = some r) : LSpec Tryd.prog 4 #[ms E_iiii L0, Value.string (Zb L1)] [] (ZkB L0 L1 r) (ZjJ L0 L1 r) :=
 Mach.spec ZkA (Zci L0 L1 N) Tryd.func4 (by kernel_rfl) (by kernel_rfl) (fun x => by cases x <;> exact ZaV _ rfl) (fun r => by cases r <;> exact ZaV _ rfl) (fun x => by
  cases x with
  | h1m0 _ => exact fun _ => (show ¬ (1 ∈ Za9 (Zdz 1).2) from by decide +kernel)
  ) (fun x => (show (Zci L0 L1 N).Ok Tryd.prog Zbu x (Zdk L0 L1 N x) from by
  cases x with
  | h1m0 v0 => exact Zlq L0 L1 v0 N
  )) (ZnI L0 L1 N) (n := N) h

end Ev
end Go.Proofs.YtlbbiflodemagaaDoor
/- Plain lemmas: machines step by step, lists by their places. -/
namespace Go.Proofs.YtlbbiflodemagaaDoor
open Go.RowKit
namespace Ev
section
variable {X R : Type} {step : X → Option (X ⊕ R)} {n : Nat} {x y : X} {r : R}
theorem ZdQ (h : step x = some (.inl y)) : Zcx step (n + 1) x = Zcx step n y := by simp [Zcx, h]
theorem Zcj (h : step x = some (.inr r)) : Zcx step (n + 1) x = some r := by simp [Zcx, h]
theorem ZeM : ∀ {n m : Nat} {x : X} {r : R}, n ≤ m → Zcx step n x = some r → Zcx step m x = some r
 | 0, _, _, _, _, h => by cases h
 | n + 1, 0, _, _, h, _ => by omega
 | n + 1, m + 1, x, r, h, e => by
  simp only [Zcx] at e ⊢
  cases hs : step x with
  | none => rw [hs] at e; cases e
  | some y =>
   rw [hs] at e
   cases y with
   | inl y => exact ZeM (by omega) e
   | inr r' => exact e
theorem ZkC {o : Option (X ⊕ R)} (h : o = some (.inl x)) : goM step n o = Zcx step n x := by subst h; rfl
theorem ZpF {o : Option (X ⊕ R)} (h : o = some (.inr r)) : goM step n o = some r := by subst h; rfl
end
section
variable {α : Type}
theorem Zqp {L : List α} {i : Nat} (h : i < L.length) (d : α) : L.take i ++ [L.getD i d] = L.take (i + 1) := by
 rw [List.take_succ_eq_append_getElem h, List.getD_eq_getElem?_getD, List.getElem?_eq_getElem h, Option.getD_some]
theorem Zq7 {L M : List α} {i : Nat} {d : α} (h : i < L.length) : (L ++ M).getD i d = L.getD i d := by simp [List.getElem?_append_left h]
theorem ZvT {L : List α} {v d : α} : (L ++ [v]).getD L.length d = v := by simp
theorem Ztk {L : List α} {i : Nat} {d : α} (h : L.length ≤ i) : L.getD i d = d := by simp [List.getElem?_eq_none h]
end
theorem ZcD {α : Type} {c : Prop} [Decidable c] {a b r : α} (h1 : c → a = r) (h2 : ¬ c → b = r) : (if c then a else b) = r := by
 by_cases h : c
 ·rw [if_pos h]; exact h1 h
 ·rw [if_neg h]; exact h2 h
theorem Zn {α : Type} {c : Prop} [Decidable c] {a b r : α} (h : c) (e : a = r) : (if c then a else b) = r := by rw [if_pos h]; exact e
theorem Zv {α : Type} {c : Prop} [Decidable c] {a b r : α} (h : ¬ c) (e : b = r) : (if c then a else b) = r := by rw [if_neg h]; exact e
theorem Z4 {α β : Type} {o : Option α} {a : α} {k : α → Option β} {r : Option β} (h : o = some a) (e : k a = r) : o.bind k = r := by rw [h]; exact e
theorem w64 {x : Int} (h1 : -9223372036854775808 ≤ x) (h2 : x ≤ 9223372036854775807) : IntKind.i64.wrap x = x := wrap_i64 ⟨h1, h2⟩
end Ev
end Go.Proofs.YtlbbiflodemagaaDoor
/- What Parse's parts are, plainly. -/
namespace Go.Proofs.YtlbbiflodemagaaDoor
open Go.RowKit
namespace Ev
set_option linter.unusedVariables false
theorem Zjv {x : List Int} : Zaa x [] = true ↔ x = [] := by
 constructor
 ·intro h
  have h1 : Zb x = Zb [] := bEq.1 h
  have h2 := congrArg ByteArray.size h1
  rw [ZH, ZH] at h2
  exact List.length_eq_zero_iff.1 h2
 ·intro h
  subst h
  exact bEq.2 rfl
theorem Zsj {c : Prop} [Decidable c] {α β : Type} {f : β → α} {A B : Option α} (h1 : ∃ x, A = some (f x)) (h2 : ∃ x, B = some (f x)) : ∃ x, (if c then A else B) = some (f x) := by
 by_cases h : c
 ·rw [if_pos h]; exact h1
 ·rw [if_neg h]; exact h2
theorem Zmj (a0 a1 a2 a3 : Int) (N : Nat) : ∃ c, Z7 a0 a1 a2 a3 N = some (.r0 c) := by
 unfold Z7
 repeat' (first | exact ⟨_, rfl⟩ | refine Zsj ?_ ?_)
theorem ZuO (M : List Int) (N : Nat) : ∃ x : Int × Bool, ZaX M N = some (.r0 x.1 x.2) := by
 unfold ZaX
 repeat' (first | exact ⟨(_, _), rfl⟩ | refine Zsj (f := fun x : Int × Bool => instr_ByNameR.r0 x.1 x.2) ?_ ?_)
theorem Zsk (a : Int) (N : Nat) : ∃ s, Z0 a N = some s := by
 unfold Z0
 repeat' (first | exact ⟨_, rfl⟩ | refine Zsj (f := id) ?_ ?_)
/-! ### Labels -/
def Zmk (c : Int) : Bool := decide (97 ≤ c ∧ c ≤ 122 ∨ 65 ≤ c ∧ c ≤ 90 ∨ 48 ≤ c ∧ c ≤ 57 ∨ c = 95)
def ZdR (M : List Int) : Bool := decide (1 ≤ M.length ∧ M.length ≤ 32) && M.all Zmk
theorem ZtD {c : Int} (h : 97 ≤ c ∧ c ≤ 122 ∨ 65 ≤ c ∧ c ≤ 90 ∨ 48 ≤ c ∧ c ≤ 57 ∨ c = 95) : Zmk c = true := decide_eq_true h
theorem Zy0 {c : Int} (h : ¬ (97 ≤ c ∧ c ≤ 122 ∨ 65 ≤ c ∧ c ≤ 90 ∨ 48 ≤ c ∧ c ≤ 57 ∨ c = 95)) : Zmk c = false := decide_eq_false h
theorem ZwT (M : List Int) (N v : Nat) (h : v < M.length) (hM : M.length ≤ 32) : ZcH M N (.h1m0 v) = some (if Zmk (M.getD v 0) = true then .inl (.h1m0 (v + 1)) else .inr (.r0 false)) := by
 show ZbX M N v = _
 unfold ZbX
 generalize M.getD v 0 = c
 have hv : (((v + 1) : Nat) : Int) ≤ (9223372036854775807 : Int) := by omega
 refine Zn (by omega) ?_
 have Y : (h : 97 ≤ c ∧ c ≤ 122 ∨ 65 ≤ c ∧ c ≤ 90 ∨ 48 ≤ c ∧ c ≤ 57 ∨ c = 95) → (some (.inl (.h1m0 (v + 1))) : Option (Zal ⊕ Zak)) = some (if Zmk c = true then .inl (.h1m0 (v + 1)) else .inr (.r0 false)) := fun h => by rw [if_pos (ZtD h)]
 have Z : (h : ¬ (97 ≤ c ∧ c ≤ 122 ∨ 65 ≤ c ∧ c ≤ 90 ∨ 48 ≤ c ∧ c ≤ 57 ∨ c = 95)) → (some (.inr (.r0 false)) : Option (Zal ⊕ Zak)) = some (if Zmk c = true then .inl (.h1m0 (v + 1)) else .inr (.r0 false)) := fun h => by rw [if_neg (by rw [Zy0 h]; decide)]
 refine ZcD (fun g1 => ZcD (fun g2 => Zn hv (Y (by omega))) (fun g2 => Z (by omega))) (fun g1 => ZcD (fun g2 => ZcD (fun g3 => Zn hv (Y (by omega))) (fun g3 => ZcD (fun g4 => Zn hv (Y (by omega))) (fun g4 => Z (by omega)))) (fun g2 => ZcD (fun g3 => ZcD (fun g4 => Zn hv (Y (by omega))) (fun g4 => Z (by omega))) (fun g3 => Z (by omega))))
theorem Zsl (M : List Int) (N : Nat) (hM : M.length ≤ 32) : ∀ (k v : Nat), v + k = M.length → Zcx (ZcH M N) (k + 1) (.h1m0 v) = some (.r0 ((M.drop v).all Zmk))
 | 0, v, h => by
  refine Zcj ?_
  show ZbX M N v = _
  unfold ZbX
  rw [if_neg (by omega), List.drop_of_length_le (by omega)]
  rfl
 | k + 1, v, h => by
  have hs := ZwT M N v (by omega) hM
  have hd : M.drop v = M.getD v 0 :: M.drop (v + 1) := by
   rw [List.drop_eq_getElem_cons (by omega)]
   simp [List.getD, show v < M.length by omega]
  rw [hd, List.all_cons]
  cases hc : Zmk (M.getD v 0) with
  | true =>
   rw [hc, if_pos rfl] at hs
   rw [ZdQ hs, Zsl M N hM k (v + 1) (by omega)]
   simp
  | false =>
   rw [hc, if_neg (by decide)] at hs
   rw [Zcj hs]
   simp
theorem ZoG (M : List Int) (N : Nat) (hb : Z1 M = true) (hN : 33 ≤ N) : ZeK M N = some (.r0 (ZdR M)) := by
 unfold ZeK ZdR
 by_cases h1 : M.length < 1
 ·rw [ZpF (r := .r0 false) (by unfold ZdC; rw [ZH, if_pos (by omega)])]
  rw [decide_eq_false (by omega)]; rfl
 ·by_cases h2 : 32 < M.length
  ·rw [ZpF (r := .r0 false) (by unfold ZdC; rw [ZH, if_neg (by omega), if_pos (by omega)])]
   rw [decide_eq_false (by omega)]; rfl
  ·rw [ZkC (x := .h1m0 0) (by unfold ZdC; rw [ZH, if_neg (by omega), if_neg (by omega), if_pos hb])]
   rw [decide_eq_true (by omega), Bool.true_and]
   exact ZeM (by omega) (Zsl M N (by omega) M.length 0 (by omega))
/-! ### Words -/
theorem Zqq (c : Int) : ∀ M, 0 < (ZD c M).length
 | [] => by simp [ZD]
 | x :: l => by
  unfold ZD
  by_cases h : x = c
  ·rw [if_pos h]; simp
  ·rw [if_neg h]; simp
theorem Zqr (c : Int) : ∀ (M w : List Int), w ∈ ZD c M → (∀ x ∈ w, x ∈ M) ∧ w.length ≤ M.length
 | [], w, h => by
  obtain rfl : w = [] := by simpa [ZD] using h
  exact ⟨fun x hx => (by cases hx), by simp⟩
 | x :: l, w, h => by
  have ih := Zqr c l
  unfold ZD at h
  by_cases hx : x = c
  ·rw [if_pos hx] at h
   rcases List.mem_cons.1 h with rfl | h
   ·exact ⟨fun x hx => (by cases hx), by simp⟩
   ·obtain ⟨h1, h2⟩ := ih w h
    exact ⟨fun y hy => List.mem_cons_of_mem _ (h1 y hy), by simp; omega⟩
  ·rw [if_neg hx] at h
   have hp := Zqq c l
   generalize ZD c l = S at *
   cases S with
   | nil => cases hp
   | cons a S =>
    simp only [List.headD_cons, List.tail_cons] at h
    rcases List.mem_cons.1 h with rfl | h
    ·obtain ⟨h1, h2⟩ := ih a (List.mem_cons_self ..)
     refine ⟨fun y hy => ?_, by simp; omega⟩
     rcases List.mem_cons.1 hy with rfl | hy
     ·exact List.mem_cons_self ..
     ·exact List.mem_cons_of_mem _ (h1 y hy)
    ·obtain ⟨h1, h2⟩ := ih w (List.mem_cons_of_mem _ h)
     exact ⟨fun y hy => List.mem_cons_of_mem _ (h1 y hy), by simp; omega⟩
theorem Zld {M : List Int} (h : ∀ x ∈ M, 0 ≤ x ∧ x ≤ 255) : Z1 M = true := by
 unfold Z1
 rw [List.all_eq_true]
 intro x hx
 have := h x hx
 simp [this]
theorem ZtE {c : Int} {M : List Int} (hb : Z1 M = true) (i : Nat) : Z1 ((ZD c M).getD i []) = true ∧ ((ZD c M).getD i []).length ≤ M.length := by
 by_cases hi : i < (ZD c M).length
 ·have hm : (ZD c M).getD i [] ∈ ZD c M := by
   rw [show (ZD c M).getD i [] = (ZD c M)[i] by simp [List.getD, hi]]
   exact List.getElem_mem hi
  obtain ⟨h1, h2⟩ := Zqr c M _ hm
  exact ⟨Zld fun x hx => Zfn hb (h1 x hx), h2⟩
 ·rw [show (ZD c M).getD i [] = [] by simp [List.getD, List.getElem?_eq_none (Nat.le_of_not_lt hi)]]
  exact ⟨rfl, by simp⟩
theorem ZoH {M : List Int} (hb : Z1 M = true) (k : Nat) : Z1 (M.drop k) = true := Zld fun x hx => Zfn hb (List.mem_of_mem_drop hx)
/-! ### Operands -/
def ZaC (w : List Int) : Bool := decide (w.length = 2 ∧ bAt w 0 = 114 ∧ 48 ≤ bAt w 1 ∧ bAt w 1 < 56)
def ZjT (w : List Int) : Bool := decide (1 < w.length ∧ bAt w 0 = 64) && ZdR (w.drop 1)
section
variable {L1 : List Int} {a2 : Int} {L3 : List RA} {L4 : List Int} {L5 : List R_is} {L6 : List (List Int)} {L7 : List R_si} {N : Nat}
theorem Zet (w : List Int) : Z9 w L1 a2 L3 L4 L5 L6 L7 N = some (if ZaC w = true then .r0 else .r1) := by
 unfold Z9
 rw [ZH]
 have Y : (w.length = 2 ∧ bAt w 0 = 114 ∧ 48 ≤ bAt w 1 ∧ bAt w 1 < 56) → (some .r0 : Option Zah) = some (if ZaC w = true then .r0 else .r1) := fun h => by rw [if_pos (show ZaC w = true from decide_eq_true h)]
 have Z : ¬ (w.length = 2 ∧ bAt w 0 = 114 ∧ 48 ≤ bAt w 1 ∧ bAt w 1 < 56) → (some .r1 : Option Zah) = some (if ZaC w = true then .r0 else .r1) := fun h => by rw [if_neg (show ¬ (ZaC w = true) from by unfold ZaC; rw [decide_eq_false h]; decide)]
 exact ZcD (fun g1 => ZcD (fun g2 => ZcD (fun g3 => ZcD (fun g4 => Y ⟨by omega, g2, g3, g4⟩) fun g => Z fun h => g h.2.2.2) fun g => Z fun h => g h.2.2.1) fun g => Z fun h => g h.2.1) fun g => Z fun h => g (by omega)
theorem Zml (w : List Int) (hb : Z1 w = true) (hl : w.length ≤ 1000000) : Zad w L1 a2 L3 L4 L5 L6 L7 N = some (if Zbq w = true then .r0 else .r1) := by
 unfold Zad
 refine Zn hb <| Zn hl ?_
 cases Zbq w <;> rfl
theorem ZvU (w : List Int) (hb : Z1 w = true) (hj : L5.length ≤ 100000) (hN : 33 ≤ N) : Za1 w L1 a2 L3 L4 L5 L6 L7 N = some (if ZjT w = true then .r0 else .r1) := by
 unfold Za1 ZjT
 rw [ZH]
 refine ZcD (fun g1 => ZcD (fun g2 => Z4 (ZoG _ N (ZoH hb 1) hN) ?_) fun g2 => ?_) fun g1 => ?_
 ·rw [decide_eq_true ⟨by omega, g2⟩, Bool.true_and]
  show (if ZdR (w.drop 1) = true then _ else _) = _
  cases ZdR (w.drop 1) with
  | true => exact Zn rfl <| Zn hj rfl
  | false => exact Zv (by decide) rfl
 ·rw [decide_eq_false (fun h => g2 h.2)]; rfl
 ·rw [decide_eq_false (fun h => g1 (by omega))]; rfl
/-! ### An instruction's line -/
def ZaJ (s : Zy) (op : Int) (W : List (List Int)) : Option (RA × Option (List Int)) :=
 match s with
 | .r0 => if W.length = 3 ∧ (ZaC (W.getD 1 []) && Zbq (W.getD 2 [])) = true then some (⟨op, bAt (W.getD 1 []) 1 - 48, Zbf (W.getD 2 []), 0⟩, none) else none
 | .r1 => if W.length = 2 ∧ (ZjT (W.getD 1 [])) = true then some (⟨op, 0, 0, 0⟩, some ((W.getD 1 []).drop 1)) else none
 | .r2 => if W.length = 3 ∧ (ZaC (W.getD 1 []) && ZjT (W.getD 2 [])) = true then some (⟨op, bAt (W.getD 1 []) 1 - 48, 0, 0⟩, some ((W.getD 2 []).drop 1)) else none
 | .r3 => if W.length = 4 ∧ (ZaC (W.getD 1 []) && Zbq (W.getD 2 []) && Zbq (W.getD 3 [])) = true then some (⟨op, bAt (W.getD 1 []) 1 - 48, Zbf (W.getD 2 []), Zbf (W.getD 3 [])⟩, none) else none
 | .r4 => if W.length = 4 ∧ (ZaC (W.getD 1 []) && ZaC (W.getD 2 []) && Zbq (W.getD 3 [])) = true then some (⟨op, bAt (W.getD 1 []) 1 - 48, bAt (W.getD 2 []) 1 - 48, Zbf (W.getD 3 [])⟩, none) else none
 | .r5 => if W.length = 4 ∧ (ZaC (W.getD 1 []) && Zbq (W.getD 2 []) && ZaC (W.getD 3 [])) = true then some (⟨op, bAt (W.getD 1 []) 1 - 48, Zbf (W.getD 2 []), bAt (W.getD 3 []) 1 - 48⟩, none) else none
 | .r6 => if W.length = 1 ∧ (true) = true then some (⟨op, 0, 0, 0⟩, none) else none
 | .r7 => if W.length = 2 ∧ (ZaC (W.getD 1 [])) = true then some (⟨op, bAt (W.getD 1 []) 1 - 48, 0, 0⟩, none) else none
 | .r8 => if W.length = 3 ∧ (ZaC (W.getD 1 []) && ZaC (W.getD 2 [])) = true then some (⟨op, bAt (W.getD 1 []) 1 - 48, bAt (W.getD 2 []) 1 - 48, 0⟩, none) else none
 | .r9 => if W.length = 4 ∧ (ZaC (W.getD 1 []) && ZaC (W.getD 2 []) && ZaC (W.getD 3 [])) = true then some (⟨op, bAt (W.getD 1 []) 1 - 48, bAt (W.getD 2 []) 1 - 48, bAt (W.getD 3 []) 1 - 48⟩, none) else none
def Zct (p : List RA) (j : List R_is) (x : Option (RA × Option (List Int))) : Zf :=
 if 512 ≤ p.length then .r0 else
 match x with
 | none => .r0
 | some (i, none) => .r1 (p ++ [i])
 | some (i, some l) => .r2 (p ++ [i]) (j ++ [⟨(p.length : Int), l⟩])
theorem ZS {p : List RA} {j : List R_is} : Zct p j none = .r0 := by
 unfold Zct
 split <;> rfl
theorem Zdw {p : List RA} {j : List R_is} {x : Option (RA × Option (List Int))} (h : 512 ≤ p.length) : Zct p j x = .r0 := by
 unfold Zct
 rw [if_pos h]
def Zil (M : List Int) (N : Nat) : Option (RA × Option (List Int)) :=
 match ZaX (wd M 0) N with
 | some (.r0 op kn) => match Z0 op N with
  | some s => if kn = true then ZaJ s op (wds M) else none
  | none => none
 | none => none
theorem ZwU (M : List Int) (hb : Z1 M = true) (hl : M.length ≤ 1000000) (hn : L4.length ≤ 100000) (hj : L5.length ≤ 100000) (hN : 33 ≤ N) :
  Zas M L1 a2 L3 L4 L5 L6 L7 N = some (Zct L3 L5 (Zil M N)) := by
 unfold Zas Zil
 have hW : ∀ i, Z1 (wd M i) = true := fun i => (ZtE (c := 32) hb i).1
 have hV : ∀ i, (wd M i).length ≤ 1000000 := fun i => Nat.le_trans (ZtE (c := 32) hb i).2 hl
 refine Zn hb <| Zn hl <| Zn (Zqq 32 M) ?_
 obtain ⟨⟨op, kn⟩, h1⟩ := ZuO (wd M 0) N
 obtain ⟨s, h2⟩ := Zsk op N
 refine Z4 h1 ?_
 simp only [h1]
 refine Z4 h2 ?_
 simp only [h2]
 cases kn with
 | false => cases s <;> exact Zn (by decide) (by rw [if_neg (by decide), ZS])
 | true =>
 rw [if_pos rfl]
 cases s with
 | r0 =>
  refine Zv (fun h => h rfl) ?_
  by_cases hw : (wds M).length = 3
  ·refine Zv (fun h => h (by omega)) ?_
   by_cases hp : 512 ≤ L3.length
   ·exact Zn (by omega) (by rw [Zdw hp])
   ·refine Zv (by omega) ?_
    refine Z4 (Zet (wd M 1)) ?_
    cases c1 : ZaC (wd M 1) with
    | false =>
     rw [show ZaJ .r0 op (wds M) = none from if_neg (fun h => by have hq := h.2; rw [c1] at hq; exact Bool.false_ne_true hq), ZS]; rfl
    | true =>
     refine Z4 (Zml (wd M 2) (hW 2) (hV 2)) ?_
     cases c2 : Zbq (wd M 2) with
     | false =>
      rw [show ZaJ .r0 op (wds M) = none from if_neg (fun h => by have hq := h.2; rw [c1, c2] at hq; exact Bool.false_ne_true hq), ZS]; rfl
     | true =>
      refine Zn hn ?_
      rw [show ZaJ .r0 op (wds M) = _ from if_pos ⟨hw, by simp only [c1, c2, Bool.and_self]⟩]
      unfold Zct
      rw [if_neg hp]
  ·refine Zn (fun h => hw (by omega)) ?_
   rw [show ZaJ .r0 op (wds M) = none from if_neg (fun h => hw h.1), ZS]
 | r1 =>
  refine Zv (fun h => h rfl) ?_
  by_cases hw : (wds M).length = 2
  ·refine Zv (fun h => h (by omega)) ?_
   by_cases hp : 512 ≤ L3.length
   ·exact Zn (by omega) (by rw [Zdw hp])
   ·refine Zv (by omega) ?_
    refine Z4 (ZvU (wd M 1) (hW 1) hj hN) ?_
    cases c1 : ZjT (wd M 1) with
    | false =>
     rw [show ZaJ .r1 op (wds M) = none from if_neg (fun h => by have hq := h.2; rw [c1] at hq; exact Bool.false_ne_true hq), ZS]; rfl
    | true =>
     refine Zn hn ?_
     rw [show ZaJ .r1 op (wds M) = _ from if_pos ⟨hw, by simp only [c1, Bool.and_self]⟩]
     unfold Zct
     rw [if_neg hp]
  ·refine Zn (fun h => hw (by omega)) ?_
   rw [show ZaJ .r1 op (wds M) = none from if_neg (fun h => hw h.1), ZS]
 | r2 =>
  refine Zv (fun h => h rfl) ?_
  by_cases hw : (wds M).length = 3
  ·refine Zv (fun h => h (by omega)) ?_
   by_cases hp : 512 ≤ L3.length
   ·exact Zn (by omega) (by rw [Zdw hp])
   ·refine Zv (by omega) ?_
    refine Z4 (Zet (wd M 1)) ?_
    cases c1 : ZaC (wd M 1) with
    | false =>
     rw [show ZaJ .r2 op (wds M) = none from if_neg (fun h => by have hq := h.2; rw [c1] at hq; exact Bool.false_ne_true hq), ZS]; rfl
    | true =>
     refine Z4 (ZvU (wd M 2) (hW 2) hj hN) ?_
     cases c2 : ZjT (wd M 2) with
     | false =>
      rw [show ZaJ .r2 op (wds M) = none from if_neg (fun h => by have hq := h.2; rw [c1, c2] at hq; exact Bool.false_ne_true hq), ZS]; rfl
     | true =>
      refine Zn hn ?_
      rw [show ZaJ .r2 op (wds M) = _ from if_pos ⟨hw, by simp only [c1, c2, Bool.and_self]⟩]
      unfold Zct
      rw [if_neg hp]
  ·refine Zn (fun h => hw (by omega)) ?_
   rw [show ZaJ .r2 op (wds M) = none from if_neg (fun h => hw h.1), ZS]
 | r3 =>
  refine Zv (fun h => h rfl) ?_
  by_cases hw : (wds M).length = 4
  ·refine Zv (fun h => h (by omega)) ?_
   by_cases hp : 512 ≤ L3.length
   ·exact Zn (by omega) (by rw [Zdw hp])
   ·refine Zv (by omega) ?_
    refine Z4 (Zet (wd M 1)) ?_
    cases c1 : ZaC (wd M 1) with
    | false =>
     rw [show ZaJ .r3 op (wds M) = none from if_neg (fun h => by have hq := h.2; rw [c1] at hq; exact Bool.false_ne_true hq), ZS]; rfl
    | true =>
     refine Z4 (Zml (wd M 2) (hW 2) (hV 2)) ?_
     cases c2 : Zbq (wd M 2) with
     | false =>
      rw [show ZaJ .r3 op (wds M) = none from if_neg (fun h => by have hq := h.2; rw [c1, c2] at hq; exact Bool.false_ne_true hq), ZS]; rfl
     | true =>
      refine Z4 (Zml (wd M 3) (hW 3) (hV 3)) ?_
      cases c3 : Zbq (wd M 3) with
      | false =>
       rw [show ZaJ .r3 op (wds M) = none from if_neg (fun h => by have hq := h.2; rw [c1, c2, c3] at hq; exact Bool.false_ne_true hq), ZS]; rfl
      | true =>
       refine Zn hn ?_
       rw [show ZaJ .r3 op (wds M) = _ from if_pos ⟨hw, by simp only [c1, c2, c3, Bool.and_self]⟩]
       unfold Zct
       rw [if_neg hp]
  ·refine Zn (fun h => hw (by omega)) ?_
   rw [show ZaJ .r3 op (wds M) = none from if_neg (fun h => hw h.1), ZS]
 | r4 =>
  refine Zv (fun h => h rfl) ?_
  by_cases hw : (wds M).length = 4
  ·refine Zv (fun h => h (by omega)) ?_
   by_cases hp : 512 ≤ L3.length
   ·exact Zn (by omega) (by rw [Zdw hp])
   ·refine Zv (by omega) ?_
    refine Z4 (Zet (wd M 1)) ?_
    cases c1 : ZaC (wd M 1) with
    | false =>
     rw [show ZaJ .r4 op (wds M) = none from if_neg (fun h => by have hq := h.2; rw [c1] at hq; exact Bool.false_ne_true hq), ZS]; rfl
    | true =>
     refine Z4 (Zet (wd M 2)) ?_
     cases c2 : ZaC (wd M 2) with
     | false =>
      rw [show ZaJ .r4 op (wds M) = none from if_neg (fun h => by have hq := h.2; rw [c1, c2] at hq; exact Bool.false_ne_true hq), ZS]; rfl
     | true =>
      refine Z4 (Zml (wd M 3) (hW 3) (hV 3)) ?_
      cases c3 : Zbq (wd M 3) with
      | false =>
       rw [show ZaJ .r4 op (wds M) = none from if_neg (fun h => by have hq := h.2; rw [c1, c2, c3] at hq; exact Bool.false_ne_true hq), ZS]; rfl
      | true =>
       refine Zn hn ?_
       rw [show ZaJ .r4 op (wds M) = _ from if_pos ⟨hw, by simp only [c1, c2, c3, Bool.and_self]⟩]
       unfold Zct
       rw [if_neg hp]
  ·refine Zn (fun h => hw (by omega)) ?_
   rw [show ZaJ .r4 op (wds M) = none from if_neg (fun h => hw h.1), ZS]
 | r5 =>
  refine Zv (fun h => h rfl) ?_
  by_cases hw : (wds M).length = 4
  ·refine Zv (fun h => h (by omega)) ?_
   by_cases hp : 512 ≤ L3.length
   ·exact Zn (by omega) (by rw [Zdw hp])
   ·refine Zv (by omega) ?_
    refine Z4 (Zet (wd M 1)) ?_
    cases c1 : ZaC (wd M 1) with
    | false =>
     rw [show ZaJ .r5 op (wds M) = none from if_neg (fun h => by have hq := h.2; rw [c1] at hq; exact Bool.false_ne_true hq), ZS]; rfl
    | true =>
     refine Z4 (Zml (wd M 2) (hW 2) (hV 2)) ?_
     cases c2 : Zbq (wd M 2) with
     | false =>
      rw [show ZaJ .r5 op (wds M) = none from if_neg (fun h => by have hq := h.2; rw [c1, c2] at hq; exact Bool.false_ne_true hq), ZS]; rfl
     | true =>
      refine Z4 (Zet (wd M 3)) ?_
      cases c3 : ZaC (wd M 3) with
      | false =>
       rw [show ZaJ .r5 op (wds M) = none from if_neg (fun h => by have hq := h.2; rw [c1, c2, c3] at hq; exact Bool.false_ne_true hq), ZS]; rfl
      | true =>
       refine Zn hn ?_
       rw [show ZaJ .r5 op (wds M) = _ from if_pos ⟨hw, by simp only [c1, c2, c3, Bool.and_self]⟩]
       unfold Zct
       rw [if_neg hp]
  ·refine Zn (fun h => hw (by omega)) ?_
   rw [show ZaJ .r5 op (wds M) = none from if_neg (fun h => hw h.1), ZS]
 | r6 =>
  refine Zv (fun h => h rfl) ?_
  by_cases hw : (wds M).length = 1
  ·refine Zv (fun h => h (by omega)) ?_
   by_cases hp : 512 ≤ L3.length
   ·exact Zn (by omega) (by rw [Zdw hp])
   ·refine Zv (by omega) ?_
    refine Zn hn ?_
    rw [show ZaJ .r6 op (wds M) = _ from if_pos ⟨hw, rfl⟩]
    unfold Zct
    rw [if_neg hp]
  ·refine Zn (fun h => hw (by omega)) ?_
   rw [show ZaJ .r6 op (wds M) = none from if_neg (fun h => hw h.1), ZS]
 | r7 =>
  refine Zv (fun h => h rfl) ?_
  by_cases hw : (wds M).length = 2
  ·refine Zv (fun h => h (by omega)) ?_
   by_cases hp : 512 ≤ L3.length
   ·exact Zn (by omega) (by rw [Zdw hp])
   ·refine Zv (by omega) ?_
    refine Z4 (Zet (wd M 1)) ?_
    cases c1 : ZaC (wd M 1) with
    | false =>
     rw [show ZaJ .r7 op (wds M) = none from if_neg (fun h => by have hq := h.2; rw [c1] at hq; exact Bool.false_ne_true hq), ZS]; rfl
    | true =>
     refine Zn hn ?_
     rw [show ZaJ .r7 op (wds M) = _ from if_pos ⟨hw, by simp only [c1, Bool.and_self]⟩]
     unfold Zct
     rw [if_neg hp]
  ·refine Zn (fun h => hw (by omega)) ?_
   rw [show ZaJ .r7 op (wds M) = none from if_neg (fun h => hw h.1), ZS]
 | r8 =>
  refine Zv (fun h => h rfl) ?_
  by_cases hw : (wds M).length = 3
  ·refine Zv (fun h => h (by omega)) ?_
   by_cases hp : 512 ≤ L3.length
   ·exact Zn (by omega) (by rw [Zdw hp])
   ·refine Zv (by omega) ?_
    refine Z4 (Zet (wd M 1)) ?_
    cases c1 : ZaC (wd M 1) with
    | false =>
     rw [show ZaJ .r8 op (wds M) = none from if_neg (fun h => by have hq := h.2; rw [c1] at hq; exact Bool.false_ne_true hq), ZS]; rfl
    | true =>
     refine Z4 (Zet (wd M 2)) ?_
     cases c2 : ZaC (wd M 2) with
     | false =>
      rw [show ZaJ .r8 op (wds M) = none from if_neg (fun h => by have hq := h.2; rw [c1, c2] at hq; exact Bool.false_ne_true hq), ZS]; rfl
     | true =>
      refine Zn hn ?_
      rw [show ZaJ .r8 op (wds M) = _ from if_pos ⟨hw, by simp only [c1, c2, Bool.and_self]⟩]
      unfold Zct
      rw [if_neg hp]
  ·refine Zn (fun h => hw (by omega)) ?_
   rw [show ZaJ .r8 op (wds M) = none from if_neg (fun h => hw h.1), ZS]
 | r9 =>
  refine Zv (fun h => h rfl) ?_
  by_cases hw : (wds M).length = 4
  ·refine Zv (fun h => h (by omega)) ?_
   by_cases hp : 512 ≤ L3.length
   ·exact Zn (by omega) (by rw [Zdw hp])
   ·refine Zv (by omega) ?_
    refine Z4 (Zet (wd M 1)) ?_
    cases c1 : ZaC (wd M 1) with
    | false =>
     rw [show ZaJ .r9 op (wds M) = none from if_neg (fun h => by have hq := h.2; rw [c1] at hq; exact Bool.false_ne_true hq), ZS]; rfl
    | true =>
     refine Z4 (Zet (wd M 2)) ?_
     cases c2 : ZaC (wd M 2) with
     | false =>
      rw [show ZaJ .r9 op (wds M) = none from if_neg (fun h => by have hq := h.2; rw [c1, c2] at hq; exact Bool.false_ne_true hq), ZS]; rfl
     | true =>
      refine Z4 (Zet (wd M 3)) ?_
      cases c3 : ZaC (wd M 3) with
      | false =>
       rw [show ZaJ .r9 op (wds M) = none from if_neg (fun h => by have hq := h.2; rw [c1, c2, c3] at hq; exact Bool.false_ne_true hq), ZS]; rfl
      | true =>
       refine Zn hn ?_
       rw [show ZaJ .r9 op (wds M) = _ from if_pos ⟨hw, by simp only [c1, c2, c3, Bool.and_self]⟩]
       unfold Zct
       rw [if_neg hp]
  ·refine Zn (fun h => hw (by omega)) ?_
   rw [show ZaJ .r9 op (wds M) = none from if_neg (fun h => hw h.1), ZS]
theorem ZxV (M : List Int) (hb : Z1 M = true) (hn : L6.length ≤ 100000) (hN : 33 ≤ N) : Zb2 M L1 a2 L3 L4 L5 L6 L7 N = some (if Zba L7 M = true ∨ ZdR M = false then .r0 else .r1) := by
 unfold Zb2
 refine ZcD (fun g => by rw [if_pos (.inl g)]) fun g => Z4 (ZoG M N hb hN) ?_
 show (if ¬ (ZdR M = true) then _ else _) = _
 cases h : ZdR M with
 | true => exact Zv (fun h => h rfl) <| Zn hn (by rw [if_neg (fun h2 => h2.elim g (fun h3 => by cases h3))])
 | false => exact Zn (by decide) (by rw [if_pos (.inr rfl)])
end
end Ev
end Go.Proofs.YtlbbiflodemagaaDoor
/- Parse, plainly: line by line. -/
namespace Go.Proofs.YtlbbiflodemagaaDoor
open Go.RowKit
namespace Ev
set_option linter.unusedVariables false
theorem ZwV {p p' : List RA} {j : List R_is} {x : Option (RA × Option (List Int))} (h : Zct p j x = .r1 p') : 0 < p'.length := by
 unfold Zct at h
 split at h
 ·cases h
 ·split at h
  ·cases h
  ·injection h with h; subst h; simp
  ·cases h
theorem Zsm {p p' : List RA} {j j' : List R_is} {x : Option (RA × Option (List Int))} (h : Zct p j x = .r2 p' j') : 0 < p'.length ∧ 0 < j'.length := by
 unfold Zct at h
 split at h
 ·cases h
 ·split at h
  ·cases h
  ·cases h
  ·injection h with h h2; subst h h2; simp
structure PS where
 pl : List R_si
 line : Int
 p : List RA
 ls : List Int
 js : List R_is
 lb : List (List Int)
def PS.x (S : PS) (left : List Int) : ZF := .h1m0 S.pl left S.line S.p S.ls S.js S.lb
def Zbv (N : Nat) (l : List Int) (S : PS) : Option PS :=
 if l = [] ∨ bAt l 0 = 35 then some S else
 if bAt l 0 = 58 then (if Zba S.pl (l.drop 1) = true ∨ ZdR (l.drop 1) = false then none else some { S with pl := ZaS S.pl (l.drop 1) S.p.length, lb := S.lb ++ [l.drop 1] }) else
 match Zct S.p S.js (Zil l N) with
 | .r0 => none
 | .r1 p => some { S with p := p, ls := S.ls ++ [S.line] }
 | .r2 p j => some { S with p := p, ls := S.ls ++ [S.line], js := j }
structure PS.Ok (S : PS) (k : Nat) : Prop where
 line : S.line = k
 ls : S.ls.length = S.p.length
 p : S.p.length ≤ 512
 js : S.js.length ≤ S.p.length
 lb : S.lb.length ≤ k
theorem ZwW {N : Nat} {l : List Int} {S S' : PS} {k : Nat} (h : Zbv N l S = some S') (hS : S.Ok (k + 1)) (hlb : S.lb.length ≤ k) : S'.Ok (k + 1) := by
 unfold Zbv at h
 split at h
 ·injection h with h; subst h; exact hS
 ·split at h
  ·split at h
   ·cases h
   ·injection h with h; subst h
    exact ⟨hS.line, hS.ls, hS.p, hS.js, by simp; omega⟩
  ·split at h
   ·cases h
   ·rename_i p hp
    injection h with h; subst h
    unfold Zct at hp
    split at hp
    ·cases hp
    ·split at hp
     ·cases hp
     ·rename_i i _
      injection hp with hp; subst hp
      have := hS.p; have := hS.js; have := hS.ls
      exact ⟨hS.line, by simp; omega, by simp; omega, by simp; omega, hS.lb⟩
     ·cases hp
   ·rename_i p j hp
    injection h with h; subst h
    unfold Zct at hp
    split at hp
    ·cases hp
    ·split at hp
     ·cases hp
     ·cases hp
     ·rename_i i l _
      injection hp with hp hq; subst hp hq
      have := hS.p; have := hS.js; have := hS.ls
      exact ⟨hS.line, by simp; omega, by simp; omega, by simp; omega, hS.lb⟩
theorem ZtF (c : Int) : ∀ M, (Zz c M).length ≤ M.length
 | [] => by simp [Zz]
 | x :: l => by
  unfold Zz
  split
  ·simp
  ·have := ZtF c l; simp; omega
theorem Zh5 (c : Int) : ∀ M, M ≠ [] → (Zap c M).length < M.length
 | [], h => absurd rfl h
 | x :: l, _ => by
  unfold Zap
  split
  ·simp
  ·by_cases hl : l = []
   ·subst hl; simp [Zap]
   ·have := Zh5 c l hl; simp; omega
section
variable {A : List Int} {a1 : Int} {B : List R_si} {N : Nat}
theorem rd_no {S : PS} {M : List Int} {k : Nat} (hS : S.Ok k) (hk : k ≤ 90000) (hM : M ≠ []) (hb : Z1 M = true) (hl : M.length ≤ 1000000) (hh : ZaT 10 M = false) :
  Zaw A a1 B N (S.x M) = some (.inr (.r0 (S.line + 1))) := by
 have hw : IntKind.i64.wrap (S.line + 1) = S.line + 1 := w64 (by have := hS.line; omega) (by have := hS.line; omega)
 show Za2 A a1 B N S.pl M S.line S.p S.ls S.js S.lb = _
 unfold Za2
 rw [hw]
 exact Zn (fun e => hM (Zjv.1 e)) <| Zn hb <| Zn hl <| Zv (by rw [hh]; decide) rfl
theorem ZxW {S : PS} {M : List Int} {k : Nat} (hS : S.Ok k) (hk : k ≤ 90000) (hM : M ≠ []) (hb : Z1 M = true) (hl : M.length ≤ 1000000) (hh : ZaT 10 M = true) (hN : 33 ≤ N) :
  Zaw A a1 B N (S.x M) = some (match Zbv N (Zz 10 M) { S with line := S.line + 1 } with | none => .inr (.r0 (S.line + 1)) | some S' => .inl (S'.x (Zap 10 M))) := by
 have hw : IntKind.i64.wrap (S.line + 1) = S.line + 1 := w64 (by have := hS.line; omega) (by have := hS.line; omega)
 have hbb := (Zh7 (c := 10) hb).1
 have hbl := Nat.le_trans (ZtF 10 M) hl
 show Za2 A a1 B N S.pl M S.line S.p S.ls S.js S.lb = _
 unfold Za2 Zbv
 rw [hw]
 refine Zn (fun e => hM (Zjv.1 e)) <| Zn hb <| Zn hl <| Zn hh ?_
 generalize Zz 10 M = l at *
 refine ZcD (fun g => by rw [if_pos (.inl (Zjv.1 g))]; rfl) fun g => ?_
 have hne : l ≠ [] := fun e => g (Zjv.2 e)
 refine Zn (List.length_pos_iff.2 hne) ?_
 refine ZcD (fun g2 => by rw [if_pos (.inr g2)]; rfl) fun g2 => ?_
 rw [if_neg (fun h : l = [] ∨ bAt l 0 = 35 => h.elim hne g2)]
 refine ZcD (fun g3 => ?_) fun g3 => ?_
 ·rw [if_pos g3]
  have hlb := hS.lb
  refine Z4 (ZxV (l.drop 1) (ZoH hbb 1) (by omega) hN) ?_
  by_cases hc : Zba S.pl (l.drop 1) = true ∨ ZdR (l.drop 1) = false
  ·rw [if_pos hc, if_pos hc]
  ·rw [if_neg hc, if_neg hc]; rfl
 ·rw [if_neg g3]
  have h1 := hS.p; have h2 := hS.ls; have h3 := hS.js
  refine Z4 (ZwU l hbb hbl (by omega) (by omega) hN) ?_
  cases hi : Zct S.p S.js (Zil l N) with
  | r0 => rfl
  | r1 p => exact Zn (ZwV hi) rfl
  | r2 p j => exact Zn (Zsm hi).1 <| Zn (Zsm hi).2 rfl
def rdL (N : Nat) : Nat → List Int → PS → Int ⊕ PS
 | 0, _, S => .inr S
 | f + 1, M, S => if M = [] then .inr S else
  if ZaT 10 M = false then .inl (S.line + 1) else
  match Zbv N (Zz 10 M) { S with line := S.line + 1 } with
  | none => .inl (S.line + 1)
  | some S' => rdL N f (Zap 10 M) S'
theorem Zsn (hN : 33 ≤ N) : ∀ (f : Nat) (M : List Int) (S : PS) (k : Nat), M.length ≤ f → S.Ok k → k + M.length ≤ 90000 → Z1 M = true →
  (∀ n, rdL N f M S = .inl n → Zcx (Zaw A a1 B N) (f + 1) (S.x M) = some (.r0 n)) ∧
  (∀ S', rdL N f M S = .inr S' → (∃ k', S'.Ok k') ∧ ∀ r, Zaw A a1 B N (S'.x []) = some (.inr r) → Zcx (Zaw A a1 B N) (f + 1) (S.x M) = some r)
 | 0, M, S, k, hf, hS, hk, hb => by
  obtain rfl : M = [] := List.length_eq_zero_iff.1 (by omega)
  exact ⟨fun n h => by simp [rdL] at h, fun S' h => by
   simp only [rdL] at h; injection h with h; subst h
   exact ⟨⟨k, hS⟩, fun r hr => Zcj hr⟩⟩
 | f + 1, M, S, k, hf, hS, hk, hb => by
  by_cases hM : M = []
  ·subst hM
   exact ⟨fun n h => by simp [rdL] at h, fun S' h => by
    simp only [rdL, if_true] at h; injection h with h; subst h
    exact ⟨⟨k, hS⟩, fun r hr => Zcj hr⟩⟩
  ·have hp : 0 < M.length := List.length_pos_iff.2 hM
   cases hh : ZaT 10 M with
   | false =>
    have e : rdL N (f + 1) M S = .inl (S.line + 1) := by unfold rdL; rw [if_neg hM, if_pos hh]
    rw [e]
    exact ⟨fun n h => by injection h with h; subst h; exact Zcj (rd_no hS (by omega) hM hb (by omega) hh), fun S' h => by cases h⟩
   | true =>
    have hs := ZxW (A := A) (a1 := a1) (B := B) hS (by omega) hM hb (by omega) hh hN
    have e : rdL N (f + 1) M S = (match Zbv N (Zz 10 M) { S with line := S.line + 1 } with | none => .inl (S.line + 1) | some S' => rdL N f (Zap 10 M) S') := by
     show (if M = [] then _ else _) = _
     rw [if_neg hM, if_neg (by rw [hh]; decide)]
    rw [e]
    cases hst : Zbv N (Zz 10 M) { S with line := S.line + 1 } with
    | none =>
     rw [hst] at hs
     exact ⟨fun n h => by injection h with h; subst h; exact Zcj hs, fun S' h => by cases h⟩
    | some S1 =>
     rw [hst] at hs
     have hO : S1.Ok (k + 1) := ZwW hst ⟨by show S.line + 1 = _; rw [hS.line]; rfl, hS.ls, hS.p, hS.js, by have := hS.lb; show S.lb.length ≤ k + 1; omega⟩ hS.lb
     have ha := Zh5 10 M hM
     obtain ⟨q1, q2⟩ := Zsn hN f (Zap 10 M) S1 (k + 1) (by omega) hO (by omega) (Zh7 (c := 10) hb).2
     exact ⟨fun n h => (ZdQ hs).trans (q1 n h), fun S' h => ⟨(q2 S' h).1, fun r hr => (ZdQ hs).trans ((q2 S' h).2 r hr)⟩⟩
end
end Ev
end Go.Proofs.YtlbbiflodemagaaDoor
/- Parse, plainly: jumps are aimed; all of it. -/
namespace Go.Proofs.YtlbbiflodemagaaDoor
open Go.RowKit
namespace Ev
set_option linter.unusedVariables false
def ckB (c : RA) (N : Nat) : Bool := match Z7 c.a0 c.a1 c.a2 c.a3 N with | some (.r0 x) => decide (x = 0) | none => false
def ZdB (c : RA) (t : Int) : RA := if c.a0 = 8 then ⟨c.a0, t, c.a2, c.a3⟩ else if c.a0 = 9 then ⟨c.a0, c.a1, t, c.a3⟩ else c
def ZfW (pl : List R_si) (N i : Nat) (p : List RA) (js : List R_is) : Option (List RA × List R_is) :=
 match js with
 | [] => if ckB (p.getD i RA.z) N = true then some (p, []) else none
 | j :: js' => if j.a0 = (i : Int) then
   if Zba pl j.a1 = true then
    if ckB (ZdB (p.getD i RA.z) (Z2 pl j.a1)) N = true then some (p.set i (ZdB (p.getD i RA.z) (Z2 pl j.a1)), js') else none
   else none
  else if ckB (p.getD i RA.z) N = true then some (p, j :: js') else none
def Zeu (pl : List R_si) (ls : List Int) (N : Nat) : Nat → Nat → List RA → List R_is → Int ⊕ List RA
 | 0, _, p, _ => .inr p
 | f + 1, i, p, js => if i < p.length then
   match ZfW pl N i p js with
   | some q => Zeu pl ls N f (i + 1) q.1 q.2
   | none => .inl (ls.getD i 0)
  else .inr p
theorem ZfD (pl : List R_si) (ls : List Int) (N f i : Nat) (p : List RA) (js : List R_is) : Zeu pl ls N (f + 1) i p js = if i < p.length then (match ZfW pl N i p js with | some q => Zeu pl ls N f (i + 1) q.1 q.2 | none => .inl (ls.getD i 0)) else .inr p := rfl
section
variable {A : List Int} {a1 : Int} {L2 : List RA} {L3 : List Int} {L4 : List R_is} {L5 : List (List Int)} {L6 : List R_si} {N : Nat}
theorem ZpG {R : Type} (c : RA) {k : ZaH → Option R} {r1 r2 : R} (h1 : ∀ x, x ≠ 0 → k (.r0 x) = some r2) (h2 : k (.r0 0) = some r1) : (Z7 c.a0 c.a1 c.a2 c.a3 N).bind k = some (if ckB c N = true then r1 else r2) := by
 obtain ⟨x, hx⟩ := Zmj c.a0 c.a1 c.a2 c.a3 N
 unfold ckB
 rw [hx]
 show k (.r0 x) = some (if decide (x = 0) = true then r1 else r2)
 by_cases h : x = 0
 ·subst h; rw [if_pos (by decide)]; exact h2
 ·rw [if_neg (by simpa using h)]; exact h1 x h
theorem ZqL {R : Type} {c : RA} {k : ZaH → Option R} {r1 r2 : R} {Q : R → Prop} (h1 : ∀ x, x ≠ 0 → k (.r0 x) = some r2) (h2 : k (.r0 0) = some r1) (q1 : ckB c N = true → Q r1) (q2 : ckB c N = false → Q r2) : ∃ y, (Z7 c.a0 c.a1 c.a2 c.a3 N).bind k = some y ∧ Q y := by
 rw [ZpG c h1 h2]
 cases h : ckB c N with
 | true => exact ⟨r1, rfl, q1 h⟩
 | false => exact ⟨r2, rfl, q2 h⟩
def Rep (L2 : List RA) (L4 : List R_is) (x : asm_reader_aimX) (i : Nat) (p : List RA) (js : List R_is) : Prop :=
 (∃ l, x = .h1m0 i l ∧ p = L2 ∧ js = L4) ∨ ∃ l o n, x = .h1m1 p i l o n ∧ o + n = L4.length ∧ js = L4.drop o ∧ p.length = L2.length
def ZvV (L2 : List RA) (r : Zt) (p : List RA) : Prop := (∃ l, r = .r1 l ∧ p = L2) ∨ ∃ l a b, r = .r2 p l a b
theorem ZxX {α : Type} {L : List α} {o : Nat} {j : α} {js : List α} (d : α) (h : L.drop o = j :: js) : o < L.length ∧ L.getD o d = j ∧ L.drop (o + 1) = js := by
 have hl : o < L.length := by
  rcases Nat.lt_or_ge o L.length with h1 | h1
  ·exact h1
  ·rw [List.drop_of_length_le h1] at h; cases h
 rw [List.drop_eq_getElem_cons hl] at h
 injection h with h1 h2
 exact ⟨hl, by simp [List.getD, hl, h1], h2⟩
theorem ZtG {x : asm_reader_aimX} {i : Nat} {p : List RA} {js : List R_is} (hR : Rep L2 L4 x i p js) (hi : ¬ i < p.length) : ∃ r, ZaU A a1 L2 L3 L4 L5 L6 N x = some (.inr r) ∧ ZvV L2 r p := by
 rcases hR with ⟨l, rfl, rfl, rfl⟩ | ⟨l, o, n, rfl, h1, rfl, h3⟩
 ·refine ⟨.r1 l, ?_, .inl ⟨l, rfl, rfl⟩⟩
  show Zbg A a1 p L3 js L5 L6 N i l = _
  unfold Zbg
  exact Zv (by omega) rfl
 ·refine ⟨.r2 p l o n, ?_, .inr ⟨l, o, n, rfl⟩⟩
  show Zbh A a1 L2 L3 L4 L5 L6 N p i l o n = _
  unfold Zbh
  exact Zv (by omega) rfl
theorem Zy1 {x : asm_reader_aimX} {i : Nat} {p : List RA} {js : List R_is} (hR : Rep L2 L4 x i p js) (hi : i < p.length) (hl : L3.length = L2.length) (hp : L2.length ≤ 512) :
  ∃ y, ZaU A a1 L2 L3 L4 L5 L6 N x = some y ∧ match ZfW L6 N i p js with
   | some q => ∃ z, y = .inl z ∧ Rep L2 L4 z (i + 1) q.1 q.2
   | none => y = .inr (.r0 (L3.getD i 0)) := by
 have hv : p.length ≤ 512 → (((i + 1) : Nat) : Int) ≤ (9223372036854775807 : Int) := fun h => by omega
 rcases hR with ⟨l, rfl, rfl, rfl⟩ | ⟨l, o, n, rfl, h1, rfl, h3⟩
 ·have hw := hv hp
  show ∃ y, Zbg A a1 p L3 js L5 L6 N i l = some y ∧ _
  unfold Zbg
  simp only [ai, aj, aiA, aiB, aiC]
  rw [if_pos (show (i : Int) < (p.length : Int) by omega), if_pos (show i < L3.length by omega)]
  unfold ZfW
  cases js with
  | nil =>
   rw [if_neg (by simp)]
   dsimp only
   refine ZqL (c := p.getD i RA.z) (r1 := .inl (.h1m0 (i + 1) (L3.getD i 0))) (r2 := .inr (.r0 (L3.getD i 0))) (fun x hx => Zn hx rfl) (Zv (fun h => h rfl) (Zn hw rfl)) (fun hc => ?_) (fun hc => ?_)
   ·rw [if_pos hc]; exact ⟨_, rfl, .inl ⟨_, rfl, rfl, rfl⟩⟩
   ·rw [if_neg (by rw [hc]; decide)]
  | cons j js' =>
   rw [if_pos (by simp only [List.length_cons]; omega)]
   have e0 : (j :: js').getD 0 R_is.z = j := rfl
   rw [e0]
   dsimp only
   by_cases g1 : j.a0 = (i : Int)
   ·rw [if_pos g1, if_pos g1]
    by_cases g2 : Zba L6 j.a1 = true
    ·rw [if_pos g2, if_pos g2]
     generalize hc : p.getD i RA.z = c
     generalize ht : Z2 L6 j.a1 = t
     have K : ∀ c' : RA, ZdB c t = c' → ∀ {k : ZaH → Option (asm_reader_aimX ⊕ Zt)}, (∀ x, x ≠ 0 → k (.r0 x) = some (.inr (.r0 (L3.getD i 0)))) → k (.r0 0) = some (.inl (.h1m1 (p.set i c') (i + 1) (L3.getD i 0) 1 ((j :: js').length - 1))) → ∃ y, (Z7 c'.a0 c'.a1 c'.a2 c'.a3 N).bind k = some y ∧ match (if ckB (ZdB c t) N = true then some (p.set i (ZdB c t), js') else none : Option (List RA × List R_is)) with | some q => ∃ z, y = .inl z ∧ Rep p (j :: js') z (i + 1) q.1 q.2 | none => y = .inr (.r0 (L3.getD i 0)) := fun c' hc' k k1 k2 => by
      rw [ZpG c' k1 k2, hc']
      cases ckB c' N with
      | true => exact ⟨_, rfl, _, rfl, .inr ⟨_, _, _, rfl, by simp only [List.length_cons]; omega, rfl, by simp⟩⟩
      | false => exact ⟨_, rfl, rfl⟩
     by_cases g3 : c.a0 = 8
     ·rw [if_pos g3]
      exact K ⟨c.a0, t, c.a2, c.a3⟩ (by unfold ZdB; rw [if_pos g3]) (fun x hx => Zn hx rfl) (Zv (fun h => h rfl) (Zn hw rfl))
     ·rw [if_neg g3]
      by_cases g4 : c.a0 = 9
      ·rw [if_pos g4]
       exact K ⟨c.a0, c.a1, t, c.a3⟩ (by unfold ZdB; rw [if_neg g3, if_pos g4]) (fun x hx => Zn hx rfl) (Zv (fun h => h rfl) (Zn hw rfl))
      ·rw [if_neg g4]
       exact K c (by unfold ZdB; rw [if_neg g3, if_neg g4]) (fun x hx => Zn hx rfl) (Zv (fun h => h rfl) (Zn hw rfl))
    ·rw [if_neg g2, if_neg g2]
     exact ⟨_, rfl, rfl⟩
   ·rw [if_neg g1, if_neg g1]
    refine ZqL (c := p.getD i RA.z) (r1 := .inl (.h1m0 (i + 1) (L3.getD i 0))) (r2 := .inr (.r0 (L3.getD i 0))) (fun x hx => Zn hx rfl) (Zv (fun h => h rfl) (Zn hw rfl)) (fun hc => ?_) (fun hc => ?_)
    ·rw [if_pos hc]; exact ⟨_, rfl, .inl ⟨_, rfl, rfl, rfl⟩⟩
    ·rw [if_neg (by rw [hc]; decide)]
 ·have hw := hv (by omega)
  show ∃ y, Zbh A a1 L2 L3 L4 L5 L6 N p i l o n = some y ∧ _
  unfold Zbh
  simp only [ai, aj, aiA, aiB, aiC]
  rw [if_pos (show (i : Int) < (L2.length : Int) by omega), if_pos hi, if_pos (show i < L3.length by omega)]
  unfold ZfW
  cases hj : L4.drop o with
  | nil =>
   have hn0 : n = 0 := by
    have := congrArg List.length hj
    rw [List.length_drop] at this
    simp at this; omega
   rw [if_neg (by omega)]
   dsimp only
   refine ZqL (c := p.getD i RA.z) (r1 := .inl (.h1m1 p (i + 1) (L3.getD i 0) o n)) (r2 := .inr (.r0 (L3.getD i 0))) (fun x hx => Zn hx rfl) (Zv (fun h => h rfl) (Zn hw rfl)) (fun hc => ?_) (fun hc => ?_)
   ·rw [if_pos hc]; exact ⟨_, rfl, .inr ⟨_, _, _, rfl, h1, hj.symm, h3⟩⟩
   ·rw [if_neg (by rw [hc]; decide)]
  | cons j js' =>
   obtain ⟨d1, d2, d3⟩ := ZxX R_is.z hj
   rw [if_pos (by omega), if_pos d1, d2]
   dsimp only
   by_cases g1 : j.a0 = (i : Int)
   ·rw [if_pos g1, if_pos g1]
    by_cases g2 : Zba L6 j.a1 = true
    ·rw [if_pos g2, if_pos g2]
     generalize hc : p.getD i RA.z = c
     generalize ht : Z2 L6 j.a1 = t
     have K : ∀ c' : RA, ZdB c t = c' → ∀ {k : ZaH → Option (asm_reader_aimX ⊕ Zt)}, (∀ x, x ≠ 0 → k (.r0 x) = some (.inr (.r0 (L3.getD i 0)))) → k (.r0 0) = some (.inl (.h1m1 (p.set i c') (i + 1) (L3.getD i 0) (o + 1) (n - 1))) → ∃ y, (Z7 c'.a0 c'.a1 c'.a2 c'.a3 N).bind k = some y ∧ match (if ckB (ZdB c t) N = true then some (p.set i (ZdB c t), js') else none : Option (List RA × List R_is)) with | some q => ∃ z, y = .inl z ∧ Rep L2 L4 z (i + 1) q.1 q.2 | none => y = .inr (.r0 (L3.getD i 0)) := fun c' hc' k k1 k2 => by
      rw [ZpG c' k1 k2, hc']
      cases ckB c' N with
      | true => exact ⟨_, rfl, _, rfl, .inr ⟨_, _, _, rfl, by omega, d3.symm, by simp; omega⟩⟩
      | false => exact ⟨_, rfl, rfl⟩
     by_cases g3 : c.a0 = 8
     ·rw [if_pos g3]
      exact K ⟨c.a0, t, c.a2, c.a3⟩ (by unfold ZdB; rw [if_pos g3]) (fun x hx => Zn hx rfl) (Zv (fun h => h rfl) (Zn hw rfl))
     ·rw [if_neg g3]
      by_cases g4 : c.a0 = 9
      ·rw [if_pos g4]
       exact K ⟨c.a0, c.a1, t, c.a3⟩ (by unfold ZdB; rw [if_neg g3, if_pos g4]) (fun x hx => Zn hx rfl) (Zv (fun h => h rfl) (Zn hw rfl))
      ·rw [if_neg g4]
       exact K c (by unfold ZdB; rw [if_neg g3, if_neg g4]) (fun x hx => Zn hx rfl) (Zv (fun h => h rfl) (Zn hw rfl))
    ·rw [if_neg g2, if_neg g2]
     exact ⟨_, rfl, rfl⟩
   ·rw [if_neg g1, if_neg g1]
    refine ZqL (c := p.getD i RA.z) (r1 := .inl (.h1m1 p (i + 1) (L3.getD i 0) o n)) (r2 := .inr (.r0 (L3.getD i 0))) (fun x hx => Zn hx rfl) (Zv (fun h => h rfl) (Zn hw rfl)) (fun hc => ?_) (fun hc => ?_)
    ·rw [if_pos hc]; exact ⟨_, rfl, .inr ⟨_, _, _, rfl, h1, hj.symm, h3⟩⟩
    ·rw [if_neg (by rw [hc]; decide)]
theorem Zso {pl : List R_si} {i : Nat} {p : List RA} {js : List R_is} {q : List RA × List R_is} (h : ZfW pl N i p js = some q) : q.1.length = p.length := by
 unfold ZfW at h
 split at h
 ·split at h
  ·injection h with h; subst h; rfl
  ·cases h
 ·split at h
  ·split at h
   ·split at h
    ·injection h with h; subst h; simp
    ·cases h
   ·cases h
  ·split at h
   ·injection h with h; subst h; rfl
   ·cases h
theorem ZtH (hl : L3.length = L2.length) (hp : L2.length ≤ 512) : ∀ (f : Nat) (x : asm_reader_aimX) (i : Nat) (p : List RA) (js : List R_is), p.length ≤ i + f → p.length ≤ 512 → Rep L2 L4 x i p js →
  ∃ r, Zcx (ZaU A a1 L2 L3 L4 L5 L6 N) (f + 1) x = some r ∧ match Zeu L6 L3 N f i p js with | .inl n => r = .r0 n | .inr q => ZvV L2 r q
 | 0, x, i, p, js, hf, hq, hR => by
  obtain ⟨r, h1, h2⟩ := ZtG (A := A) (a1 := a1) (L3 := L3) (L5 := L5) (L6 := L6) (N := N) hR (by omega)
  exact ⟨r, Zcj h1, h2⟩
 | f + 1, x, i, p, js, hf, hq, hR => by
  rw [ZfD]
  by_cases hi : i < p.length
  ·rw [if_pos hi]
   obtain ⟨y, h1, h2⟩ := Zy1 (A := A) (a1 := a1) (L5 := L5) (L6 := L6) (N := N) hR hi hl hp
   cases ho : ZfW L6 N i p js with
   | none =>
    rw [ho] at h2
    subst h2
    exact ⟨_, Zcj h1, rfl⟩
   | some q =>
    rw [ho] at h2
    obtain ⟨z, rfl, hz⟩ := h2
    have hlen := Zso ho
    obtain ⟨r, q1, q2⟩ := ZtH hl hp f z (i + 1) q.1 q.2 (by omega) (by omega) hz
    exact ⟨r, (ZdQ h1).trans q1, q2⟩
  ·rw [if_neg hi]
   obtain ⟨r, h1, h2⟩ := ZtG (A := A) (a1 := a1) (L3 := L3) (L5 := L5) (L6 := L6) (N := N) hR hi
   exact ⟨r, Zcj h1, h2⟩
end
def PS.zero : PS := ⟨[], 0, [], [], [], []⟩
def Zgm (M : List Int) (N : Nat) : Zbr :=
 match rdL N M.length M PS.zero with
 | .inl n => .r0 n 130
 | .inr S => match Zeu S.pl S.ls N 512 0 S.p S.js with
  | .inl n => .r0 n 130
  | .inr p => .r1 p
theorem Zsp (M : List Int) (N : Nat) (hb : Z1 M = true) (hl : M.length ≤ 90000) (hN : M.length + 600 ≤ N) : Zcs M N = some (Zgm M N) := by
 unfold Zcs
 refine Zv (by rw [ZH]; omega) ?_
 have h0 : PS.zero.Ok 0 := ⟨rfl, rfl, by decide, by decide, by decide⟩
 obtain ⟨q1, q2⟩ := Zsn (A := M) (a1 := 0) (B := []) (N := N) (by omega) M.length M PS.zero 0 (Nat.le_refl _) h0 (by omega) hb
 have e : Zee M 0 [] N = some (.inl (PS.zero.x M)) := rfl
 unfold Zgm ZcI
 rw [ZkC e]
 cases hr : rdL N M.length M PS.zero with
 | inl n =>
  exact Z4 (ZeM (by omega) (q1 n hr)) rfl
 | inr S =>
  obtain ⟨⟨k, hS⟩, q3⟩ := q2 S hr
  obtain ⟨r, a1, a2⟩ := ZtH (A := []) (a1 := S.line) (L2 := S.p) (L3 := S.ls) (L4 := S.js) (L5 := S.lb) (L6 := S.pl) (N := N) hS.ls hS.p 512 (.h1m0 0 S.line) 0 S.p S.js (by have := hS.p; omega) hS.p (.inl ⟨_, rfl, rfl, rfl⟩)
  have ha : Zcy [] S.line S.p S.ls S.js S.lb S.pl N = some r := by
   unfold Zcy
   rw [ZkC (o := Ze8 [] S.line S.p S.ls S.js S.lb S.pl N) (x := asm_reader_aimX.h1m0 0 S.line) rfl]
   exact ZeM (by omega) a1
  have hs : ∀ (z : ZE), (match r with | .r0 y1_0 => some (Sum.inr (.r0 y1_0)) | .r1 y1_0 => some (.inr (.r1 S.pl [] y1_0 S.p S.ls S.js S.lb)) | .r2 y1_0 y1_1 y1_2 y1_3 => some (.inr (.r2 S.pl [] y1_1 y1_0 S.ls S.js y1_2 y1_3 S.lb)) : Option (ZF ⊕ ZE)) = some (.inr z) → Zaw M 0 [] N (S.x []) = some (.inr z) := fun z hz => by
   show Za2 M 0 [] N S.pl [] S.line S.p S.ls S.js S.lb = _
   unfold Za2
   refine Zv (fun h => h (Zjv.2 rfl)) ?_
   refine Z4 ha ?_
   rw [← hz]
   cases r <;> rfl
  cases hm : Zeu S.pl S.ls N 512 0 S.p S.js with
  | inl n =>
   rw [hm] at a2
   subst a2
   exact Z4 (ZeM (by omega) (q3 _ (hs _ rfl))) (by simp only [hm])
  | inr p =>
   rw [hm] at a2
   rcases a2 with ⟨l, rfl, rfl⟩ | ⟨l, a, b, rfl⟩
   ·exact Z4 (ZeM (by omega) (q3 _ (hs _ rfl))) (by simp only [hm])
   ·exact Z4 (ZeM (by omega) (q3 _ (hs _ rfl))) (by simp only [hm])
end Ev
end Go.Proofs.YtlbbiflodemagaaDoor
/- Parse, plainly: a remark and an empty line put in between lines. -/
namespace Go.Proofs.YtlbbiflodemagaaDoor
open Go.RowKit
namespace Ev
set_option linter.unusedVariables false
theorem Zsq (N : Nat) : ∀ (f g : Nat) (M : List Int) (S : PS), M.length ≤ f → M.length ≤ g → rdL N f M S = rdL N g M S
 | 0, 0, _, _, _, _ => rfl
 | 0, g + 1, M, S, h1, _ => by
  obtain rfl : M = [] := List.length_eq_zero_iff.1 (by omega)
  simp [rdL]
 | f + 1, 0, M, S, _, h2 => by
  obtain rfl : M = [] := List.length_eq_zero_iff.1 (by omega)
  simp [rdL]
 | f + 1, g + 1, M, S, h1, h2 => by
  unfold rdL
  by_cases hM : M = []
  ·rw [if_pos hM, if_pos hM]
  ·rw [if_neg hM, if_neg hM]
   by_cases hh : ZaT 10 M = false
   ·rw [if_pos hh, if_pos hh]
   ·rw [if_neg hh, if_neg hh]
    have ha := Zh5 10 M hM
    cases Zbv N (Zz 10 M) { S with line := S.line + 1 } with
    | none => rfl
    | some S' => exact Zsq N f g _ S' (by omega) (by omega)
def RD (N : Nat) (M : List Int) (S : PS) : Int ⊕ PS := rdL N M.length M S
theorem Zy2 (N : Nat) (S : PS) : RD N [] S = .inr S := rfl
theorem Zxp {N : Nat} {M : List Int} {S : PS} (hM : M ≠ []) (hh : ZaT 10 M = false) : RD N M S = .inl (S.line + 1) := by
 unfold RD
 obtain ⟨f, hf⟩ : ∃ f, M.length = f + 1 := ⟨M.length - 1, by have := List.length_pos_iff.2 hM; omega⟩
 rw [hf]
 unfold rdL
 rw [if_neg hM, if_pos hh]
theorem ZfM {N : Nat} {M : List Int} {S : PS} (hh : ZaT 10 M = true) : RD N M S = match Zbv N (Zz 10 M) { S with line := S.line + 1 } with | none => .inl (S.line + 1) | some S' => RD N (Zap 10 M) S' := by
 have hM : M ≠ [] := fun e => by subst e; cases hh
 unfold RD
 obtain ⟨f, hf⟩ : ∃ f, M.length = f + 1 := ⟨M.length - 1, by have := List.length_pos_iff.2 hM; omega⟩
 have ha := Zh5 10 M hM
 rw [hf]
 conv => lhs; unfold rdL
 rw [if_neg hM, if_neg (by rw [hh]; decide)]
 cases Zbv N (Zz 10 M) { S with line := S.line + 1 } with
 | none => rfl
 | some S' => exact Zsq N f _ _ S' (by omega) (Nat.le_refl _)
theorem Zm6 {c : Int} : ∀ {a b : List Int}, ZaT c a = true → ZaT c (a ++ b) = true ∧ Zz c (a ++ b) = Zz c a ∧ Zap c (a ++ b) = Zap c a ++ b
 | [], b, h => by cases h
 | x :: a, b, h => by
  by_cases hx : x = c
  ·subst hx; simp [ZaT, Zz, Zap]
  ·have h' : ZaT c a = true := by simpa [ZaT, hx] using h
   obtain ⟨q1, q2, q3⟩ := Zm6 (b := b) h'
   simp [ZaT, Zz, Zap, hx, q1, q2, q3]
theorem ZkD {c : Int} : ∀ {a b : List Int}, c ∉ a → ZaT c (a ++ c :: b) = true ∧ Zz c (a ++ c :: b) = a ∧ Zap c (a ++ c :: b) = b
 | [], b, _ => by simp [ZaT, Zz, Zap]
 | x :: a, b, h => by
  have hx : ¬ x = c := fun e => h (e ▸ List.mem_cons_self ..)
  obtain ⟨q1, q2, q3⟩ := ZkD (b := b) (fun h2 => h (List.mem_cons_of_mem _ h2) : c ∉ a)
  simp [ZaT, Zz, Zap, hx, q1, q2, q3]
def ZwX (a : List Int) : Prop := a = [] ∨ ∃ b, a = b ++ [10]
theorem Zsr : ∀ {b : List Int}, ZaT 10 (b ++ [10]) = true
 | [] => rfl
 | x :: b => by
  show (decide (x = 10) || ZaT 10 (b ++ [10])) = true
  rw [Zsr, Bool.or_true]
theorem Zss : ∀ {b : List Int}, ZwX (Zap 10 (b ++ [10]))
 | [] => .inl (by simp [Zap])
 | x :: b => by
  show ZwX (if x = 10 then b ++ [10] else Zap 10 (b ++ [10]))
  by_cases hx : x = 10
  ·rw [if_pos hx]; exact .inr ⟨b, rfl⟩
  ·rw [if_neg hx]; exact Zss
theorem p1 (N : Nat) : ∀ (n : Nat) (a : List Int), a.length ≤ n → ZwX a → ∀ S : PS, (∃ m, ∀ C, RD N (a ++ C) S = .inl m) ∨ ∃ S1, ∀ C, RD N (a ++ C) S = RD N C S1
 | n, a, hn, .inl h, S => by subst h; exact .inr ⟨S, fun C => rfl⟩
 | 0, a, hn, .inr h, S => by
  obtain ⟨b, rfl⟩ := h
  simp at hn
 | n + 1, a, hn, .inr h, S => by
  obtain ⟨b, rfl⟩ := h
  have hh := @Zsr b
  have ha := Zh5 10 (b ++ [10]) (by simp)
  cases hs : Zbv N (Zz 10 (b ++ [10])) { S with line := S.line + 1 } with
  | none =>
   refine .inl ⟨S.line + 1, fun C => ?_⟩
   obtain ⟨q1, q2, q3⟩ := Zm6 (b := C) hh
   rw [ZfM q1, q2, hs]
  | some S' =>
   rcases p1 N n (Zap 10 (b ++ [10])) (by omega) Zss S' with ⟨m, hm⟩ | ⟨S1, h1⟩
   ·refine .inl ⟨m, fun C => ?_⟩
    obtain ⟨q1, q2, q3⟩ := Zm6 (b := C) hh
    rw [ZfM q1, q2, hs, q3]
    exact hm C
   ·refine .inr ⟨S1, fun C => ?_⟩
    obtain ⟨q1, q2, q3⟩ := Zm6 (b := C) hh
    rw [ZfM q1, q2, hs, q3]
    exact h1 C
theorem p2 (N : Nat) (note B : List Int) (hn : (10 : Int) ∉ note) (S : PS) : RD N ([35] ++ note ++ [10, 10] ++ B) S = RD N B { S with line := S.line + 1 + 1 } := by
 have e : [35] ++ note ++ [10, 10] ++ B = (35 :: note) ++ 10 :: (10 :: B) := by simp
 have h10 : (10 : Int) ∉ 35 :: note := fun h => by
  rcases List.mem_cons.1 h with h | h
  ·cases h
  ·exact hn h
 obtain ⟨q1, q2, q3⟩ := ZkD (b := 10 :: B) h10
 rw [e, ZfM q1, q2, q3]
 rw [show Zbv N (35 :: note) { S with line := S.line + 1 } = some { S with line := S.line + 1 } from if_pos (.inr rfl)]
 show RD N (10 :: B) { S with line := S.line + 1 } = _
 obtain ⟨r1, r2, r3⟩ := ZkD (c := 10) (a := []) (b := B) (by simp)
 rw [List.nil_append] at r1 r2 r3
 rw [ZfM r1, r2, r3]
 rfl
def LsR (l l' : List Int) : Prop := l'.length = l.length ∧ ∀ i, l'.getD i 0 = l.getD i 0 ∨ l'.getD i 0 = l.getD i 0 + 2
structure Sh (S S' : PS) : Prop where
 pl : S'.pl = S.pl
 line : S'.line = S.line + 2
 p : S'.p = S.p
 ls : LsR S.ls S'.ls
 js : S'.js = S.js
 lb : S'.lb = S.lb
theorem LsR.refl (l : List Int) : LsR l l := ⟨rfl, fun _ => .inl rfl⟩
def ZuP (N : Nat) (x : Int ⊕ PS) : Zbr :=
 match x with
 | .inl n => .r0 n 130
 | .inr S => match Zeu S.pl S.ls N 512 0 S.p S.js with
  | .inl n => .r0 n 130
  | .inr p => .r1 p
theorem Zmm (M : List Int) (N : Nat) : Zgm M N = ZuP N (RD N M PS.zero) := rfl
/-! ### Sizes -/
structure Bd (S : PS) (k : Int) : Prop where
 line : 0 ≤ S.line ∧ S.line ≤ k
 ls : ∀ i, 0 ≤ S.ls.getD i 0 ∧ S.ls.getD i 0 ≤ k
theorem ZtI {l : List Int} {x k : Int} (h : ∀ i, 0 ≤ l.getD i 0 ∧ l.getD i 0 ≤ k) (hx : 0 ≤ x ∧ x ≤ k) : ∀ i, 0 ≤ (l ++ [x]).getD i 0 ∧ (l ++ [x]).getD i 0 ≤ k := fun i => by
 rcases Nat.lt_trichotomy i l.length with hi | hi | hi
 ·rw [Zq7 hi]; exact h i
 ·subst hi; rw [ZvT]; exact hx
 ·rw [Ztk (by simp; omega)]; omega
theorem st_bd {N : Nat} {l : List Int} {S T : PS} {k : Int} (h : Bd S k) (hs : Zbv N l S = some T) : Bd T k := by
 unfold Zbv at hs
 split at hs
 ·injection hs with hs; subst hs; exact h
 ·split at hs
  ·split at hs
   ·cases hs
   ·injection hs with hs; subst hs; exact ⟨h.line, h.ls⟩
  ·split at hs
   ·cases hs
   ·injection hs with hs; subst hs; exact ⟨h.line, ZtI h.ls h.line⟩
   ·injection hs with hs; subst hs; exact ⟨h.line, ZtI h.ls h.line⟩
theorem Zxq (N : Nat) : ∀ (n : Nat) (B : List Int) (S : PS) (k : Int), B.length ≤ n → Bd S k → S.line + B.length ≤ k → (∀ m, RD N B S = .inl m → 0 ≤ m ∧ m ≤ k) ∧ ∀ T, RD N B S = .inr T → Bd T k
 | n, [], S, k, _, h, _ => ⟨fun m e => (by cases e), fun T e => by cases e; exact h⟩
 | 0, x :: B, S, k, hn, h, _ => by simp at hn
 | n + 1, x :: B, S, k, hn, h, hk => by
  have hl := h.line
  have hk' : S.line + 1 ≤ k := by simp at hk; omega
  cases hh : ZaT 10 (x :: B) with
  | false =>
   rw [Zxp (by simp) hh]
   exact ⟨fun m e => (by cases e; omega), fun T e => by cases e⟩
  | true =>
   have ha := Zh5 10 (x :: B) (by simp)
   rw [ZfM hh]
   cases e1 : Zbv N (Zz 10 (x :: B)) { S with line := S.line + 1 } with
   | none => exact ⟨fun m e => (by cases e; omega), fun T e => by cases e⟩
   | some T =>
    have hb : Bd { S with line := S.line + 1 } k := ⟨⟨by show 0 ≤ S.line + 1; omega, hk'⟩, h.ls⟩
    have hT := st_bd hb e1
    have hTl : T.line = S.line + 1 := by
     unfold Zbv at e1
     split at e1
     ·injection e1 with e1; subst e1; rfl
     ·split at e1
      ·split at e1
       ·cases e1
       ·injection e1 with e1; subst e1; rfl
      ·split at e1
       ·cases e1
       ·injection e1 with e1; subst e1; rfl
       ·injection e1 with e1; subst e1; rfl
    exact Zxq N n _ T k (by simp at hn ha; omega) hT (by rw [hTl]; simp at hk ha; omega)
theorem Zst (pl : List R_si) (N : Nat) {ls : List Int} {k : Int} (h : ∀ i, 0 ≤ ls.getD i 0 ∧ ls.getD i 0 ≤ k) : ∀ (f i : Nat) (p : List RA) (js : List R_is), (∀ m, Zeu pl ls N f i p js = .inl m → 0 ≤ m ∧ m ≤ k) ∧ ∀ q, Zeu pl ls N f i p js = .inr q → q.length = p.length
 | 0, i, p, js => ⟨fun m e => (by cases e), fun q e => by cases e; rfl⟩
 | f + 1, i, p, js => by
  rw [ZfD]
  by_cases hi : i < p.length
  ·rw [if_pos hi]
   cases ho : ZfW pl N i p js with
   | none => exact ⟨fun m e => (by cases e; exact h i), fun q e => by cases e⟩
   | some q =>
    obtain ⟨q1, q2⟩ := Zst pl N h f (i + 1) q.1 q.2
    exact ⟨q1, fun r e => (q2 r e).trans (Zso ho)⟩
  ·rw [if_neg hi]
   exact ⟨fun m e => (by cases e), fun q e => by cases e; rfl⟩
theorem ZwY (M : List Int) (N : Nat) (hb : Z1 M = true) (hl : M.length ≤ 90000) (hN : 33 ≤ N) : (∀ n e, Zgm M N = .r0 n e → 0 ≤ n ∧ n ≤ 90000) ∧ ∀ p, Zgm M N = .r1 p → p.length ≤ 512 := by
 have h0 : Bd PS.zero 90000 := ⟨⟨by decide, by decide⟩, fun i => by show 0 ≤ ([] : List Int).getD i 0 ∧ ([] : List Int).getD i 0 ≤ 90000; simp⟩
 obtain ⟨q1, q2⟩ := Zxq N M.length M PS.zero 90000 (Nat.le_refl _) h0 (by show (0 : Int) + (M.length : Int) ≤ 90000; omega)
 have hok := (Zsn (A := M) (a1 := 0) (B := []) (N := N) hN M.length M PS.zero 0 (Nat.le_refl _) ⟨rfl, rfl, by decide, by decide, by decide⟩ (by omega) hb).2
 unfold Zgm
 cases hr : rdL N M.length M PS.zero with
 | inl n =>
  exact ⟨fun m e h => (by injection h with h; subst h; exact q1 _ hr), fun p h => by cases h⟩
 | inr T =>
  have hT := q2 T hr
  obtain ⟨⟨k, hk⟩, _⟩ := hok T hr
  obtain ⟨r1, r2⟩ := Zst T.pl N hT.ls 512 0 T.p T.js
  dsimp only
  cases ha : Zeu T.pl T.ls N 512 0 T.p T.js with
  | inl n => exact ⟨fun m e h => (by injection h with h; subst h; exact r1 _ ha), fun p h => by cases h⟩
  | inr q => exact ⟨fun m e h => (by cases h), fun p h => by injection h with h; subst h; rw [r2 _ ha]; exact hk.p⟩
end Ev
end Go.Proofs.YtlbbiflodemagaaDoor
/- Parse, plainly: a text of one line; words; numbers' texts. -/
namespace Go.Proofs.YtlbbiflodemagaaDoor
open Go.RowKit
namespace Ev
set_option linter.unusedVariables false
theorem ZoI {c : Int} : ∀ {a b : List Int}, c ∉ a → ZD c (a ++ c :: b) = a :: ZD c b
 | [], b, _ => by simp [ZD]
 | x :: a, b, h => by
  have hx : ¬ x = c := fun e => h (e ▸ List.mem_cons_self ..)
  have ih := ZoI (b := b) (fun h2 => h (List.mem_cons_of_mem _ h2) : c ∉ a)
  have e : ∀ L, ZD c (x :: L) = if x = c then [] :: ZD c L else (x :: (ZD c L).headD []) :: (ZD c L).tail := fun _ => rfl
  show ZD c (x :: (a ++ c :: b)) = _
  rw [e, if_neg hx, ih]
  rfl
theorem Zqs {c : Int} : ∀ {a : List Int}, c ∉ a → ZD c a = [a]
 | [], _ => by simp [ZD]
 | x :: a, h => by
  have hx : ¬ x = c := fun e => h (e ▸ List.mem_cons_self ..)
  have ih := Zqs (fun h2 => h (List.mem_cons_of_mem _ h2) : c ∉ a)
  unfold ZD
  rw [if_neg hx, ih]
  rfl
theorem ZvW {n : Int} (h0 : -9223372036854775808 ≤ n) (h1 : n ≤ 9223372036854775807) : ∀ x ∈ Zd n, x = 45 ∨ 48 ≤ x ∧ x ≤ 57 := by
 have hd : ∀ u : Nat, u ≤ 9223372036854775808 → ∀ x ∈ ZeO 20 u, 48 ≤ x ∧ x ≤ 57 := fun u hu => by
  have h20 : (10 : Nat) ^ 20 = 100000000000000000000 := by decide
  exact (ZiE 20 u (by decide) (by omega)).2.2.2.1
 intro x hx
 unfold Zd at hx
 by_cases hn : n < 0
 ·rw [if_pos hn] at hx
  rcases List.mem_cons.1 hx with h | h
  ·exact .inl h
  ·exact .inr (hd _ (by omega) x h)
 ·rw [if_neg hn] at hx
  exact .inr (hd _ (by omega) x hx)
theorem ZtJ {n c : Int} (h0 : -9223372036854775808 ≤ n) (h1 : n ≤ 9223372036854775807) (hc : c < 45) : c ∉ Zd n := fun h => by
 rcases ZvW h0 h1 c h with h | h <;> omega
end Ev
end Go.Proofs.YtlbbiflodemagaaDoor
/- An instruction's line and its words. -/
namespace Go.Proofs.YtlbbiflodemagaaDoor
open Go.RowKit
namespace Ev
set_option linter.unusedVariables false
structure Fine (T : List Int) : Prop where
 b : Z1 T = true
 l : T.length ≤ 100
 n : (10 : Int) ∉ T
 e : T ≠ []
 h : ¬ bAt T 0 = 35
 c : ¬ bAt T 0 = 58
structure WOk (w : List Int) : Prop where
 b : Z1 w = true
 s : (32 : Int) ∉ w
 n : (10 : Int) ∉ w
 l : w.length ≤ 20
def Zsu : List (List Int) → Prop
 | [] => True
 | w :: r => WOk w ∧ Zsu r
def Zbc : List (List Int) → List Int
 | [] => []
 | [w] => w
 | w :: v :: r => w ++ 32 :: Zbc (v :: r)
theorem ZoJ : ∀ {S : List (List Int)}, Zsu S → S ≠ [] → ZD 32 (Zbc S) = S
 | [], _, h => absurd rfl h
 | [w], h, _ => Zqs h.1.s
 | w :: v :: r, h, _ => by
  show ZD 32 (w ++ 32 :: Zbc (v :: r)) = _
  rw [ZoI h.1.s, ZoJ h.2 (by simp)]
theorem Zsv {M : List Int} (h : ∀ x ∈ M, 0 ≤ x ∧ x ≤ 255) : Z1 M = true := Zld h
theorem Zqt : ∀ {S : List (List Int)}, Zsu S → Z1 (Zbc S) = true ∧ (10 : Int) ∉ Zbc S ∧ (Zbc S).length ≤ 21 * S.length
 | [], _ => ⟨rfl, by simp [Zbc], by simp [Zbc]⟩
 | [w], h => ⟨h.1.b, h.1.n, by have := h.1.l; simp [Zbc]; omega⟩
 | w :: v :: r, h => by
  obtain ⟨q1, q2, q3⟩ := Zqt h.2
  refine ⟨Zsv fun x hx => ?_, fun hx => ?_, ?_⟩
  ·rcases List.mem_append.1 (show x ∈ w ++ 32 :: Zbc (v :: r) from hx) with h1 | h1
   ·exact Zfn h.1.b h1
   ·rcases List.mem_cons.1 h1 with h2 | h2
    ·omega
    ·exact Zfn q1 h2
  ·rcases List.mem_append.1 (show (10 : Int) ∈ w ++ 32 :: Zbc (v :: r) from hx) with h1 | h1
   ·exact h.1.n h1
   ·rcases List.mem_cons.1 h1 with h2 | h2
    ·omega
    ·exact q2 h2
  ·have := h.1.l
   show (w ++ 32 :: Zbc (v :: r)).length ≤ _
   simp only [List.length_append, List.length_cons] at q3 ⊢
   omega
theorem Zsw {n : Int} (h0 : -1099511627776 ≤ n) (h1 : n ≤ 1099511627776) : (Zd n).length ≤ 14 := by
 have hd : ∀ u : Nat, u ≤ 1099511627776 → (ZeO 20 u).length ≤ 13 := fun u hu => by
  have h20 : (10 : Nat) ^ 20 = 100000000000000000000 := by decide
  have h13 : (10 : Nat) ^ 13 = 10000000000000 := by decide
  exact (ZhP (ZiE 20 u (by decide) (by omega)) 13 (by decide)).2 (by omega)
 unfold Zd
 by_cases hn : n < 0
 ·rw [if_pos hn]; have := hd n.natAbs (by omega); simp only [List.length_cons]; omega
 ·rw [if_neg hn]; have := hd n.toNat (by omega); omega
theorem Zsx {n : Int} (h0 : 0 ≤ n) (h1 : n ≤ 512) : ∀ x ∈ Zd n, 48 ≤ x ∧ x ≤ 57 := by
 have h20 : (10 : Nat) ^ 20 = 100000000000000000000 := by decide
 have hd := (ZiE 20 n.toNat (by decide) (by omega)).2.2.2.1
 unfold Zd
 rw [if_neg (by omega)]
 exact hd
theorem ZpH {n : Int} (h0 : 0 ≤ n) (h1 : n ≤ 512) : 0 < (Zd n).length ∧ (Zd n).length ≤ 3 := by
 have h20 : (10 : Nat) ^ 20 = 100000000000000000000 := by decide
 have h3 : (10 : Nat) ^ 3 = 1000 := by decide
 have hd := ZiE 20 n.toNat (by decide) (by omega)
 have h3' := (ZhP hd 3 (by decide)).2 (by omega)
 unfold Zd
 rw [if_neg (by omega)]
 exact ⟨hd.2.1, h3'⟩
def RegOk (a : Int) : Prop := ZaC (114 :: Zd a) = true ∧ bAt (114 :: Zd a) 1 - 48 = a ∧ WOk (114 :: Zd a)
theorem Zev {a : Int} (h : 0 ≤ a ∧ a ≤ 7) : RegOk a := by
 have hw : ∀ w : List Int, Z1 w = true → (32 : Int) ∉ w → (10 : Int) ∉ w → w.length ≤ 20 → WOk w := fun w a b c d => ⟨a, b, c, d⟩
 rcases (by omega : a = 0 ∨ a = 1 ∨ a = 2 ∨ a = 3 ∨ a = 4 ∨ a = 5 ∨ a = 6 ∨ a = 7) with h | h | h | h | h | h | h | h <;> subst h <;> exact ⟨rfl, rfl, rfl, by decide, by decide, by decide⟩
def NumOk (a : Int) : Prop := Zbq (Zd a) = true ∧ Zbf (Zd a) = a ∧ WOk (Zd a)
theorem Zmn {a : Int} (h : -1099511627776 ≤ a ∧ a ≤ 1099511627776) : NumOk a :=
 ⟨ZjC.2 ⟨a, by omega, by omega, rfl⟩, Zjb (by omega) (by omega), ZgJ a (by omega) (by omega), ZtJ (by omega) (by omega) (by decide), ZtJ (by omega) (by omega) (by decide), by have := Zsw h.1 h.2; omega⟩
def PlcOk (a : Int) : Prop := ZjT (64 :: 76 :: Zd a) = true ∧ ZdR (76 :: Zd a) = true ∧ WOk (64 :: 76 :: Zd a)
theorem Zsy {a : Int} (h : 0 ≤ a ∧ a ≤ 512) : PlcOk a := by
 have hl := ZpH h.1 h.2
 have hd := Zsx h.1 h.2
 have h1 : ZdR (76 :: Zd a) = true := by
  unfold ZdR
  rw [Bool.and_eq_true, decide_eq_true_eq, List.all_eq_true]
  refine ⟨by simp only [List.length_cons]; omega, fun x hx => ?_⟩
  rcases List.mem_cons.1 hx with hx | hx
  ·subst hx; rfl
  ·have := hd x hx; exact ZtD (by omega)
 refine ⟨?_, h1, Zsv fun x hx => ?_, fun hx => ?_, fun hx => ?_, by simp only [List.length_cons]; omega⟩
 ·unfold ZjT
  rw [Bool.and_eq_true, decide_eq_true_eq]
  exact ⟨⟨by simp only [List.length_cons]; omega, rfl⟩, h1⟩
 ·rcases List.mem_cons.1 hx with hx | hx
  ·omega
  ·rcases List.mem_cons.1 hx with hx | hx
   ·omega
   ·have := hd x hx; omega
 ·rcases List.mem_cons.1 hx with hx | hx
  ·omega
  ·rcases List.mem_cons.1 hx with hx | hx
   ·omega
   ·have := hd _ hx; omega
 ·rcases List.mem_cons.1 hx with hx | hx
  ·omega
  ·rcases List.mem_cons.1 hx with hx | hx
   ·omega
   ·have := hd _ hx; omega
theorem ZxY (n : Nat) (h : 1 ≤ n) (h2 : n ≤ 16) : ((2 : Int) ^ n) = ((2 ^ n : Nat) : Int) ∧ 2 ≤ 2 ^ n ∧ 2 ^ n ≤ 65536 := by
 refine ⟨by simp, ?_, ?_⟩
 ·have := Nat.pow_le_pow_right (show 0 < 2 by omega) h; omega
 ·have := Nat.pow_le_pow_right (show 0 < 2 by omega) h2
  have e : 2 ^ 16 = 65536 := by decide
  omega
theorem ZvX {a2 : Int} (h1 : 1 ≤ a2) (h2 : a2 ≤ 16) : ∃ p : Int, IntKind.i64.wrap (IntKind.i64.wrap ((1 : Int) * (2 ^ a2.toNat : Int)) - (1 : Int)) = p ∧ p ≤ 65535 := by
 obtain ⟨q1, q2, q3⟩ := ZxY a2.toNat (by omega) (by omega)
 refine ⟨((2 ^ a2.toNat : Nat) : Int) - 1, ?_, by omega⟩
 rw [q1, Int.one_mul, w64 (x := ((2 ^ a2.toNat : Nat) : Int)) (by omega) (by omega), w64 (by omega) (by omega)]
structure ZdS (a0 a1 a2 a3 : Int) (N : Nat) (T : List Int) : Prop where
 f : Fine T
 i : Zil T N = some (if a0 = 8 then ⟨8, 0, a2, a3⟩ else if a0 = 9 then ⟨9, a1, 0, a3⟩ else ⟨a0, a1, a2, a3⟩, if a0 = 8 then some (76 :: Zd a1) else if a0 = 9 then some (76 :: Zd a2) else none)
theorem ZwZ {S : List (List Int)} {N : Nat} {op : Int} {s : Zy} {x : RA × Option (List Int)} (hS : Zsu S) (h0 : S ≠ []) (h1 : ZaX (S.getD 0 []) N = some (.r0 op true)) (h2 : Z0 op N = some s) (h3 : ZaJ s op S = some x) : Zil (Zbc S) N = some x := by
 unfold Zil wds wd wds
 rw [ZoJ hS h0, h1]
 dsimp only
 rw [h2]
 dsimp only
 rw [if_pos rfl]
 exact h3
theorem ZeN {a0 a1 a2 a3 : Int} {S : List (List Int)} {N : Nat} {op : Int} {s : Zy} {x : RA × Option (List Int)} (hS : Zsu S) (h0 : S ≠ []) (hl : S.length ≤ 4) (hc : ∃ c r, Zbc S = c :: r ∧ 97 ≤ c ∧ c ≤ 122) (h1 : ZaX (S.getD 0 []) N = some (.r0 op true)) (h2 : Z0 op N = some s) (h3 : ZaJ s op S = some x)
  (h4 : x = (if a0 = 8 then ⟨8, 0, a2, a3⟩ else if a0 = 9 then ⟨9, a1, 0, a3⟩ else ⟨a0, a1, a2, a3⟩, if a0 = 8 then some (76 :: Zd a1) else if a0 = 9 then some (76 :: Zd a2) else none)) : ZdS a0 a1 a2 a3 N (Zbc S) := by
 obtain ⟨q1, q2, q3⟩ := Zqt hS
 have hi := ZwZ hS h0 h1 h2 h3
 obtain ⟨c, r, e, g1, g2⟩ := hc
 have hb0 : bAt (Zbc S) 0 = c := by
  rw [Zyv q1 (by rw [e]; simp), e]
  rfl
 exact ⟨⟨q1, by omega, q2, (by rw [e]; simp), by omega, by omega⟩, h4 ▸ hi⟩
def BdR (a : Int) : Prop := 0 ≤ a ∧ a ≤ 7
def BdN (a : Int) : Prop := -1099511627776 ≤ a ∧ a ≤ 1099511627776
def BdP (a : Int) : Prop := 0 ≤ a ∧ a ≤ 512
def BdA (a0 a1 a2 a3 : Int) : Prop :=
 if a0 = 1 then BdR a1 ∧ BdN a2 ∧ a3 = 0 else
 if a0 = 8 then BdP a1 ∧ a2 = 0 ∧ a3 = 0 else
 if a0 = 9 then BdR a1 ∧ BdP a2 ∧ a3 = 0 else
 if a0 = 11 then BdR a1 ∧ BdN a2 ∧ BdN a3 else
 if a0 = 13 then BdR a1 ∧ BdR a2 ∧ BdN a3 else
 if a0 = 14 then BdR a1 ∧ BdN a2 ∧ BdR a3 else
 if a0 = 2 ∨ a0 = 10 ∨ a0 = 12 ∨ a0 = 19 then BdR a1 ∧ a2 = 0 ∧ a3 = 0 else
 if a0 = 3 then BdR a1 ∧ BdR a2 ∧ a3 = 0 else
 if a0 = 4 ∨ a0 = 5 ∨ a0 = 6 ∨ a0 = 7 then BdR a1 ∧ BdR a2 ∧ BdR a3 else
 a1 = 0 ∧ a2 = 0 ∧ a3 = 0
theorem ZoK {a0 a1 a2 a3 : Int} {N : Nat} (h : Z7 a0 a1 a2 a3 N = some (.r0 0)) : 1 ≤ a0 ∧ a0 ≤ 20 := by
 unfold Z7 at h
 by_cases h1 : a0 < 0
 ·rw [if_pos h1] at h; injection h with h; injection h with h; omega
 ·rw [if_neg h1] at h
  by_cases h2 : 21 ≤ a0
  ·rw [if_pos h2] at h; injection h with h; injection h with h; omega
  ·rw [if_neg h2] at h
   by_cases h3 : a0 = 0
   ·rw [if_pos h3] at h; injection h with h; injection h with h; omega
   ·omega
theorem ZuQ {a0 : Int} (h : 1 ≤ a0 ∧ a0 ≤ 20) : a0 = 1 ∨ a0 = 2 ∨ a0 = 3 ∨ a0 = 4 ∨ a0 = 5 ∨ a0 = 6 ∨ a0 = 7 ∨ a0 = 8 ∨ a0 = 9 ∨ a0 = 10 ∨ a0 = 11 ∨ a0 = 12 ∨ a0 = 13 ∨ a0 = 14 ∨ a0 = 15 ∨ a0 = 16 ∨ a0 = 17 ∨ a0 = 18 ∨ a0 = 19 ∨ a0 = 20 := by omega
set_option maxHeartbeats 16000000 in
theorem ZvY {a0 a1 a2 a3 : Int} {N : Nat} (h : Z7 a0 a1 a2 a3 N = some (.r0 0)) : BdA a0 a1 a2 a3 := by
 rcases ZuQ (ZoK h) with e | e | e | e | e | e | e | e | e | e | e | e | e | e | e | e | e | e | e | e <;> subst e <;> unfold Z7 at h <;> simp only [Int.reduceLT, Int.reduceLE, Int.reduceEq, Int.reduceNeg, reduceIte] at h <;> simp only [BdA, BdR, BdN, BdP, Int.reduceEq, or_true, true_or, or_false, false_or, or_self, reduceIte]
 case inr.inr.inr.inr.inr.inr.inr.inr.inr.inr.inl =>
  by_cases h16 : 1 ≤ a2 ∧ a2 ≤ 16
  ·obtain ⟨p, e1, e2⟩ := ZvX h16.1 h16.2
   simp only [e1] at h
   repeat' split at h
   all_goals (first | (exfalso; injection h with h; injection h with h; omega) | omega)
  ·exfalso
   repeat' split at h
   all_goals (first | omega | (injection h with h; injection h with h; omega))
 all_goals
  repeat' split at h
  all_goals (first | (exfalso; injection h with h; injection h with h; omega) | omega)
structure ZjU (N : Nat) (op c : Int) (t : List Int) : Prop where
 w : WOk (c :: t)
 l : 97 ≤ c ∧ c ≤ 122
 n : ZaX (c :: t) N = some (.r0 op true)
section
variable {a1 a2 a3 op c : Int} {N : Nat} {t : List Int}
theorem sh_0 (hn : ZjU N op c t) (ho : Z0 op N = some .r0) (e8 : ¬ op = 8) (e9 : ¬ op = 9) (h1 : BdR a1) (h2 : BdN a2) : ZdS op a1 a2 0 N (Zbc [c :: t, (114 :: Zd a1), (Zd a2)]) := by
 obtain ⟨r1, v1, w1⟩ := Zev h1
 obtain ⟨r2, v2, w2⟩ := Zmn h2
 refine ZeN (op := op) (s := .r0) (x := (⟨op, bAt (114 :: Zd a1) 1 - 48, Zbf (Zd a2), 0⟩, none)) ⟨hn.w, w1, w2, trivial⟩ (by simp) (by simp) ⟨c, _, rfl, hn.l⟩ hn.n ho (if_pos ⟨rfl, ?ca⟩) ?cb
 case ca =>
  show (ZaC (114 :: Zd a1) && Zbq (Zd a2)) = true
  simp only [r1, r2, Bool.and_self]
 case cb => rw [v1, v2, if_neg e8, if_neg e9, if_neg e8, if_neg e9]
theorem sh_1 (hn : ZjU N 8 c t) (h1 : BdP a1) : ZdS 8 a1 0 0 N (Zbc [c :: t, (64 :: 76 :: Zd a1)]) := by
 obtain ⟨r1, v1, w1⟩ := Zsy h1
 refine ZeN (op := 8) (s := .r1) (x := (⟨8, 0, 0, 0⟩, some (76 :: Zd a1))) ⟨hn.w, w1, trivial⟩ (by simp) (by simp) ⟨c, _, rfl, hn.l⟩ hn.n rfl (if_pos ⟨rfl, ?ca⟩) ?cb
 case ca =>
  show (ZjT (64 :: 76 :: Zd a1)) = true
  rw [r1]
 case cb => rfl
theorem sh_2 (hn : ZjU N 9 c t) (h1 : BdR a1) (h2 : BdP a2) : ZdS 9 a1 a2 0 N (Zbc [c :: t, (114 :: Zd a1), (64 :: 76 :: Zd a2)]) := by
 obtain ⟨r1, v1, w1⟩ := Zev h1
 obtain ⟨r2, v2, w2⟩ := Zsy h2
 refine ZeN (op := 9) (s := .r2) (x := (⟨9, bAt (114 :: Zd a1) 1 - 48, 0, 0⟩, some (76 :: Zd a2))) ⟨hn.w, w1, w2, trivial⟩ (by simp) (by simp) ⟨c, _, rfl, hn.l⟩ hn.n rfl (if_pos ⟨rfl, ?ca⟩) ?cb
 case ca =>
  show (ZaC (114 :: Zd a1) && ZjT (64 :: 76 :: Zd a2)) = true
  simp only [r1, r2, Bool.and_self]
 case cb => rw [v1]; rfl
theorem sh_3 (hn : ZjU N op c t) (ho : Z0 op N = some .r3) (e8 : ¬ op = 8) (e9 : ¬ op = 9) (h1 : BdR a1) (h2 : BdN a2) (h3 : BdN a3) : ZdS op a1 a2 a3 N (Zbc [c :: t, (114 :: Zd a1), (Zd a2), (Zd a3)]) := by
 obtain ⟨r1, v1, w1⟩ := Zev h1
 obtain ⟨r2, v2, w2⟩ := Zmn h2
 obtain ⟨r3, v3, w3⟩ := Zmn h3
 refine ZeN (op := op) (s := .r3) (x := (⟨op, bAt (114 :: Zd a1) 1 - 48, Zbf (Zd a2), Zbf (Zd a3)⟩, none)) ⟨hn.w, w1, w2, w3, trivial⟩ (by simp) (by simp) ⟨c, _, rfl, hn.l⟩ hn.n ho (if_pos ⟨rfl, ?ca⟩) ?cb
 case ca =>
  show (ZaC (114 :: Zd a1) && Zbq (Zd a2) && Zbq (Zd a3)) = true
  simp only [r1, r2, r3, Bool.and_self]
 case cb => rw [v1, v2, v3, if_neg e8, if_neg e9, if_neg e8, if_neg e9]
theorem sh_4 (hn : ZjU N op c t) (ho : Z0 op N = some .r4) (e8 : ¬ op = 8) (e9 : ¬ op = 9) (h1 : BdR a1) (h2 : BdR a2) (h3 : BdN a3) : ZdS op a1 a2 a3 N (Zbc [c :: t, (114 :: Zd a1), (114 :: Zd a2), (Zd a3)]) := by
 obtain ⟨r1, v1, w1⟩ := Zev h1
 obtain ⟨r2, v2, w2⟩ := Zev h2
 obtain ⟨r3, v3, w3⟩ := Zmn h3
 refine ZeN (op := op) (s := .r4) (x := (⟨op, bAt (114 :: Zd a1) 1 - 48, bAt (114 :: Zd a2) 1 - 48, Zbf (Zd a3)⟩, none)) ⟨hn.w, w1, w2, w3, trivial⟩ (by simp) (by simp) ⟨c, _, rfl, hn.l⟩ hn.n ho (if_pos ⟨rfl, ?ca⟩) ?cb
 case ca =>
  show (ZaC (114 :: Zd a1) && ZaC (114 :: Zd a2) && Zbq (Zd a3)) = true
  simp only [r1, r2, r3, Bool.and_self]
 case cb => rw [v1, v2, v3, if_neg e8, if_neg e9, if_neg e8, if_neg e9]
theorem sh_5 (hn : ZjU N op c t) (ho : Z0 op N = some .r5) (e8 : ¬ op = 8) (e9 : ¬ op = 9) (h1 : BdR a1) (h2 : BdN a2) (h3 : BdR a3) : ZdS op a1 a2 a3 N (Zbc [c :: t, (114 :: Zd a1), (Zd a2), (114 :: Zd a3)]) := by
 obtain ⟨r1, v1, w1⟩ := Zev h1
 obtain ⟨r2, v2, w2⟩ := Zmn h2
 obtain ⟨r3, v3, w3⟩ := Zev h3
 refine ZeN (op := op) (s := .r5) (x := (⟨op, bAt (114 :: Zd a1) 1 - 48, Zbf (Zd a2), bAt (114 :: Zd a3) 1 - 48⟩, none)) ⟨hn.w, w1, w2, w3, trivial⟩ (by simp) (by simp) ⟨c, _, rfl, hn.l⟩ hn.n ho (if_pos ⟨rfl, ?ca⟩) ?cb
 case ca =>
  show (ZaC (114 :: Zd a1) && Zbq (Zd a2) && ZaC (114 :: Zd a3)) = true
  simp only [r1, r2, r3, Bool.and_self]
 case cb => rw [v1, v2, v3, if_neg e8, if_neg e9, if_neg e8, if_neg e9]
theorem Zsz (hn : ZjU N op c t) (ho : Z0 op N = some .r6) (e8 : ¬ op = 8) (e9 : ¬ op = 9)  : ZdS op 0 0 0 N (Zbc [c :: t]) := by
 refine ZeN (op := op) (s := .r6) (x := (⟨op, 0, 0, 0⟩, none)) ⟨hn.w, trivial⟩ (by simp) (by simp) ⟨c, _, rfl, hn.l⟩ hn.n ho rfl ?cb
 case cb => rw [if_neg e8, if_neg e9, if_neg e8, if_neg e9]
theorem ZuR (hn : ZjU N op c t) (ho : Z0 op N = some .r7) (e8 : ¬ op = 8) (e9 : ¬ op = 9) (h1 : BdR a1) : ZdS op a1 0 0 N (Zbc [c :: t, (114 :: Zd a1)]) := by
 obtain ⟨r1, v1, w1⟩ := Zev h1
 refine ZeN (op := op) (s := .r7) (x := (⟨op, bAt (114 :: Zd a1) 1 - 48, 0, 0⟩, none)) ⟨hn.w, w1, trivial⟩ (by simp) (by simp) ⟨c, _, rfl, hn.l⟩ hn.n ho (if_pos ⟨rfl, ?ca⟩) ?cb
 case ca =>
  show (ZaC (114 :: Zd a1)) = true
  rw [r1]
 case cb => rw [v1, if_neg e8, if_neg e9, if_neg e8, if_neg e9]
theorem sh_8 (hn : ZjU N op c t) (ho : Z0 op N = some .r8) (e8 : ¬ op = 8) (e9 : ¬ op = 9) (h1 : BdR a1) (h2 : BdR a2) : ZdS op a1 a2 0 N (Zbc [c :: t, (114 :: Zd a1), (114 :: Zd a2)]) := by
 obtain ⟨r1, v1, w1⟩ := Zev h1
 obtain ⟨r2, v2, w2⟩ := Zev h2
 refine ZeN (op := op) (s := .r8) (x := (⟨op, bAt (114 :: Zd a1) 1 - 48, bAt (114 :: Zd a2) 1 - 48, 0⟩, none)) ⟨hn.w, w1, w2, trivial⟩ (by simp) (by simp) ⟨c, _, rfl, hn.l⟩ hn.n ho (if_pos ⟨rfl, ?ca⟩) ?cb
 case ca =>
  show (ZaC (114 :: Zd a1) && ZaC (114 :: Zd a2)) = true
  simp only [r1, r2, Bool.and_self]
 case cb => rw [v1, v2, if_neg e8, if_neg e9, if_neg e8, if_neg e9]
theorem ZuS (hn : ZjU N op c t) (ho : Z0 op N = some .r9) (e8 : ¬ op = 8) (e9 : ¬ op = 9) (h1 : BdR a1) (h2 : BdR a2) (h3 : BdR a3) : ZdS op a1 a2 a3 N (Zbc [c :: t, (114 :: Zd a1), (114 :: Zd a2), (114 :: Zd a3)]) := by
 obtain ⟨r1, v1, w1⟩ := Zev h1
 obtain ⟨r2, v2, w2⟩ := Zev h2
 obtain ⟨r3, v3, w3⟩ := Zev h3
 refine ZeN (op := op) (s := .r9) (x := (⟨op, bAt (114 :: Zd a1) 1 - 48, bAt (114 :: Zd a2) 1 - 48, bAt (114 :: Zd a3) 1 - 48⟩, none)) ⟨hn.w, w1, w2, w3, trivial⟩ (by simp) (by simp) ⟨c, _, rfl, hn.l⟩ hn.n ho (if_pos ⟨rfl, ?ca⟩) ?cb
 case ca =>
  show (ZaC (114 :: Zd a1) && ZaC (114 :: Zd a2) && ZaC (114 :: Zd a3)) = true
  simp only [r1, r2, r3, Bool.and_self]
 case cb => rw [v1, v2, v3, if_neg e8, if_neg e9, if_neg e8, if_neg e9]
end
def ZqM (a0 a1 a2 a3 : Int) : List (List Int) :=
 if a0 = 1 then [[99, 111, 110, 115, 116], (114 :: Zd a1), (Zd a2)] else
 if a0 = 2 then [[110, 105, 108], (114 :: Zd a1)] else
 if a0 = 3 then [[109, 111, 118, 101], (114 :: Zd a1), (114 :: Zd a2)] else
 if a0 = 4 then [[97, 100, 100], (114 :: Zd a1), (114 :: Zd a2), (114 :: Zd a3)] else
 if a0 = 5 then [[115, 117, 98], (114 :: Zd a1), (114 :: Zd a2), (114 :: Zd a3)] else
 if a0 = 6 then [[108, 101, 115, 115], (114 :: Zd a1), (114 :: Zd a2), (114 :: Zd a3)] else
 if a0 = 7 then [[101, 113], (114 :: Zd a1), (114 :: Zd a2), (114 :: Zd a3)] else
 if a0 = 8 then [[106, 117, 109, 112], (64 :: 76 :: Zd a1)] else
 if a0 = 9 then [[106, 117, 109, 112, 122], (114 :: Zd a1), (64 :: 76 :: Zd a2)] else
 if a0 = 10 then [[114, 111, 111, 116], (114 :: Zd a1)] else
 if a0 = 11 then [[110, 101, 119], (114 :: Zd a1), (Zd a2), (Zd a3)] else
 if a0 = 12 then [[102, 114, 101, 101], (114 :: Zd a1)] else
 if a0 = 13 then [[103, 101, 116], (114 :: Zd a1), (114 :: Zd a2), (Zd a3)] else
 if a0 = 14 then [[115, 101, 116], (114 :: Zd a1), (Zd a2), (114 :: Zd a3)] else
 if a0 = 15 then [[98, 101, 103, 105, 110]] else
 if a0 = 16 then [[101, 108, 115, 101]] else
 if a0 = 17 then [[101, 110, 100]] else
 if a0 = 18 then [[114, 101, 116, 114, 121]] else
 if a0 = 19 then [[101, 109, 105, 116], (114 :: Zd a1)] else
 [[104, 97, 108, 116]]
theorem Zxa {a0 a1 a2 a3 : Int} {N : Nat} (h : Z7 a0 a1 a2 a3 N = some (.r0 0)) : ZdS a0 a1 a2 a3 N (Zbc (ZqM a0 a1 a2 a3)) := by
 have hb := ZvY h
 have hw : ∀ {w : List Int}, Z1 w = true → (32 : Int) ∉ w → (10 : Int) ∉ w → w.length ≤ 20 → WOk w := fun a b c d => ⟨a, b, c, d⟩
 rcases ZuQ (ZoK h) with e | e | e | e | e | e | e | e | e | e | e | e | e | e | e | e | e | e | e | e <;> subst e <;> simp only [BdA, Int.reduceEq, or_true, true_or, or_false, false_or, or_self, reduceIte] at hb <;> obtain ⟨h1, h2, h3⟩ := hb
 ·subst h3; exact sh_0 ⟨hw rfl (by decide) (by decide) (by decide), by decide, rfl⟩ rfl (by decide) (by decide) h1 h2
 ·subst h2 h3; exact ZuR ⟨hw rfl (by decide) (by decide) (by decide), by decide, rfl⟩ rfl (by decide) (by decide) h1
 ·subst h3; exact sh_8 ⟨hw rfl (by decide) (by decide) (by decide), by decide, rfl⟩ rfl (by decide) (by decide) h1 h2
 ·exact ZuS ⟨hw rfl (by decide) (by decide) (by decide), by decide, rfl⟩ rfl (by decide) (by decide) h1 h2 h3
 ·exact ZuS ⟨hw rfl (by decide) (by decide) (by decide), by decide, rfl⟩ rfl (by decide) (by decide) h1 h2 h3
 ·exact ZuS ⟨hw rfl (by decide) (by decide) (by decide), by decide, rfl⟩ rfl (by decide) (by decide) h1 h2 h3
 ·exact ZuS ⟨hw rfl (by decide) (by decide) (by decide), by decide, rfl⟩ rfl (by decide) (by decide) h1 h2 h3
 ·subst h2 h3; exact sh_1 ⟨hw rfl (by decide) (by decide) (by decide), by decide, rfl⟩ h1
 ·subst h3; exact sh_2 ⟨hw rfl (by decide) (by decide) (by decide), by decide, rfl⟩ h1 h2
 ·subst h2 h3; exact ZuR ⟨hw rfl (by decide) (by decide) (by decide), by decide, rfl⟩ rfl (by decide) (by decide) h1
 ·exact sh_3 ⟨hw rfl (by decide) (by decide) (by decide), by decide, rfl⟩ rfl (by decide) (by decide) h1 h2 h3
 ·subst h2 h3; exact ZuR ⟨hw rfl (by decide) (by decide) (by decide), by decide, rfl⟩ rfl (by decide) (by decide) h1
 ·exact sh_4 ⟨hw rfl (by decide) (by decide) (by decide), by decide, rfl⟩ rfl (by decide) (by decide) h1 h2 h3
 ·exact sh_5 ⟨hw rfl (by decide) (by decide) (by decide), by decide, rfl⟩ rfl (by decide) (by decide) h1 h2 h3
 ·subst h1 h2 h3; exact Zsz ⟨hw rfl (by decide) (by decide) (by decide), by decide, rfl⟩ rfl (by decide) (by decide)
 ·subst h1 h2 h3; exact Zsz ⟨hw rfl (by decide) (by decide) (by decide), by decide, rfl⟩ rfl (by decide) (by decide)
 ·subst h1 h2 h3; exact Zsz ⟨hw rfl (by decide) (by decide) (by decide), by decide, rfl⟩ rfl (by decide) (by decide)
 ·subst h1 h2 h3; exact Zsz ⟨hw rfl (by decide) (by decide) (by decide), by decide, rfl⟩ rfl (by decide) (by decide)
 ·subst h2 h3; exact ZuR ⟨hw rfl (by decide) (by decide) (by decide), by decide, rfl⟩ rfl (by decide) (by decide) h1
 ·subst h1 h2 h3; exact Zsz ⟨hw rfl (by decide) (by decide) (by decide), by decide, rfl⟩ rfl (by decide) (by decide)
theorem Zs0 {a0 a1 a2 a3 : Int} {N : Nat} (h : Z7 a0 a1 a2 a3 N = some (.r0 0)) : BdN a1 ∧ BdN a2 ∧ BdN a3 ∧ (a0 = 8 → BdP a1) ∧ (a0 = 9 → BdP a2) := by
 have hb := ZvY h
 have ho := ZoK h
 unfold BdA at hb
 simp only [BdR, BdN, BdP] at *
 repeat' split at hb
 all_goals omega
end Ev
end Go.Proofs.YtlbbiflodemagaaDoor
