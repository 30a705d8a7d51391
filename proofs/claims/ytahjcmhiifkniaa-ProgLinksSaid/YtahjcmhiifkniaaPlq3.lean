/- Calls do what the plain functions say. -/
import Derived.Test.YtahjcmhiifkniaaPlq2
namespace Go.Proofs.Ytahjcmhiifkniaa
open Go.RowKit
namespace Ev
set_option linter.unusedVariables false
set_option maxRecDepth 100000
theorem prog_Link_2_en  (N : Nat) : (prog_Link_2M  N).Enter Try.prog ext_Pl #[vn] (prog_Link_2In  N) := by
 unfold prog_Link_2In
 exact Mach.en_head (bK := prog_Link_2C 1) (M := prog_Link_2M  N) (cd := 1000000) (cm := 0) (y := (.h1m0 : prog_Link_2X)) (fu := 4000) (orc := (orcw [] [] [] [] [])) (live := []) (tv := [some (vn), some (vq), some (vn), some (vq), some (vq)]) (bl := []) (ob := []) rfl rfl (show rids (prog_Link_2C 1).2 = [] from rfl) (by kernel_rfl) obs_nil rfl (by decide) (by rfl) ⟨rr, ⟨rr, ⟨rr, ⟨rr, ⟨rr, trivial⟩⟩⟩⟩⟩ trivial

theorem prog_Link_2_spec  (N : Nat) (r : prog_Link_2R) (h : prog_Link_2  N = some r) : LSpec Try.prog 6 #[vn] [] (prog_Link_2V  r) (prog_Link_2Po  r) :=
 Mach.spec fit_Pl (prog_Link_2M  N) Try.func6 (by kernel_rfl) (by kernel_rfl) (fun x => by cases x <;> exact le_far _ rfl) (fun r => by cases r <;> exact le_far _ rfl) (fun x => by
  cases x with
  | h1m0 => exact fun _ => (show ¬ (1 ∈ rids (prog_Link_2C 1).2) from by decide +kernel)
  | h2m0 => exact fun _ => (show ¬ (2 ∈ rids (prog_Link_2C 2).2) from by decide +kernel)
  ) (fun x => (show (prog_Link_2M  N).Ok Try.prog ext_Pl x (prog_Link_2Step  N x) from by
  cases x with
  | h1m0 => exact prog_Link_2_ok1_0  N
  | h2m0 => exact prog_Link_2_ok2_0  N
  )) (prog_Link_2_en  N) (n := N) h

noncomputable def prog_Link_2T0  (n : Nat) : Told := .call [] (Value.tuple #[vn, vq]) [] 0
def prog_Link_2P0 (A : Array Value)  (n : Nat) : Prop := CallSpec Try.prog 6 A [] (Value.tuple #[vn, vq]) [] n 0

theorem prog_Link_2C0 (A : Array Value)  (N : Nat) (h : prog_Link_2  N = some (.r0)) (n : Nat) (hA : A = #[vn]) (hnd : ([] : List Nat).Nodup) (hlt : ∀ k ∈ ([] : List Nat), k < n) : prog_Link_2P0 A   n :=
 cs_args hA (LSpec.callL (show LSpec Try.prog 6 #[vn] [] (Value.tuple #[vn, vq]) [] from prog_Link_2_spec  N _ h) [] n [] rfl hnd hlt (show 0 ≤ 0 from by decide) (show ∀ j ∈ ([] : List Nat), j < 0 from by decide) (by rfl) trivial (by rfl) trivial trivial rfl rfl rfl rfl rfl)

noncomputable def ref11_SameV  : ref11_SameR → Value
 | .r0 => vT
noncomputable def ref11_SamePo  : ref11_SameR → List (Option AObj)
 | .r0 => []

def ref11_SameHd : ref11_SameX → Nat
 | .h1m0 => 1
noncomputable def ref11_SameL  : ref11_SameX → List (Nat × Value)
 | .h1m0 => [(0, vn), (1, vn), (5, vq)]
noncomputable def ref11_SameH  : ref11_SameX → List (Option AObj)
 | .h1m0 => []

noncomputable def ref11_SameC : Nat → Code × List Kont
 | 1 => headOf [1, 1, 0, 1, 3] (bodyC Try.f8) []
 | _ => (.skip, [])
def ref11_SameIL : Nat → Bool
 | 1 => true
 | _ => true
noncomputable def ref11_SameM  (N : Nat) : Mach := ⟨Try.f8, [], ref11_SameX, ref11_SameR, ref11_SameStep  N, ref11_SameHd, ref11_SameC, ref11_SameIL, ref11_SameL , ref11_SameH , ref11_SameV , ref11_SamePo ⟩

theorem ref11_Same_ok1_0  (N : Nat) : (ref11_SameM  N).Ok Try.prog ext_Pl (.h1m0 : ref11_SameX) (ref11_SameStep  N (.h1m0 : ref11_SameX)) := by
 show (ref11_SameM  N).Ok Try.prog ext_Pl (.h1m0 : ref11_SameX) (ref11_Same_h1m0  N)
 unfold ref11_Same_h1m0
 exact Mach.ok_fin (M := ref11_SameM  N) (cd := 1000000) (cm := 0) (r := (.r0 : ref11_SameR)) (fu := 4000) (orc := (orcw [] [] [] [] [])) (live := []) (u := vT) (bl := []) (ob := []) (fun gv => by kernel_rfl) obs_nil rfl (by decide) (by rfl) rr trivial

theorem ref11_Same_en  (N : Nat) : (ref11_SameM  N).Enter Try.prog ext_Pl #[vn, vn] (ref11_SameIn  N) := by
 unfold ref11_SameIn
 exact Mach.en_head (bK := ref11_SameC 1) (M := ref11_SameM  N) (cd := 1000000) (cm := 0) (y := (.h1m0 : ref11_SameX)) (fu := 4000) (orc := (orcw [] [] [] [] [])) (live := []) (tv := [some (vn), some (vn), some (vq)]) (bl := []) (ob := []) rfl rfl (show rids (ref11_SameC 1).2 = [] from rfl) (by kernel_rfl) obs_nil rfl (by decide) (by rfl) ⟨rr, ⟨rr, ⟨rr, trivial⟩⟩⟩ trivial

theorem ref11_Same_spec  (N : Nat) (r : ref11_SameR) (h : ref11_Same  N = some r) : LSpec Try.prog 8 #[vn, vn] [] (ref11_SameV  r) (ref11_SamePo  r) :=
 Mach.spec fit_Pl (ref11_SameM  N) Try.func8 (by kernel_rfl) (by kernel_rfl) (fun x => by cases x <;> exact le_far _ rfl) (fun r => by cases r <;> exact le_far _ rfl) (fun x => by
  cases x with
  | h1m0 => exact fun _ => (show ¬ (1 ∈ rids (ref11_SameC 1).2) from by decide +kernel)
  ) (fun x => (show (ref11_SameM  N).Ok Try.prog ext_Pl x (ref11_SameStep  N x) from by
  cases x with
  | h1m0 => exact ref11_Same_ok1_0  N
  )) (ref11_Same_en  N) (n := N) h

noncomputable def ref11_SameT0  (n : Nat) : Told := .call [] (vT) [] 0
def ref11_SameP0 (A : Array Value)  (n : Nat) : Prop := CallSpec Try.prog 8 A [] (vT) [] n 0

theorem ref11_SameC0 (A : Array Value)  (N : Nat) (h : ref11_Same  N = some (.r0)) (n : Nat) (hA : A = #[vn, vn]) (hnd : ([] : List Nat).Nodup) (hlt : ∀ k ∈ ([] : List Nat), k < n) : ref11_SameP0 A   n :=
 cs_args hA (LSpec.callL (show LSpec Try.prog 8 #[vn, vn] [] (vT) [] from ref11_Same_spec  N _ h) [] n [] rfl hnd hlt (show 0 ≤ 0 from by decide) (show ∀ j ∈ ([] : List Nat), j < 0 from by decide) (by rfl) trivial (by rfl) trivial trivial rfl rfl rfl rfl rfl)

noncomputable def prog_SameV (o0 : Nat) (L1 : List R_iiii) (n2 n3 o4 : Nat) (L5 : List R_iiii) (n6 n7 : Nat) (O0 O1 : Obj) : prog_SameR → Value
 | .r0 w4 => Value.bool w4
noncomputable def prog_SamePo (o0 : Nat) (L1 : List R_iiii) (n2 n3 o4 : Nat) (L5 : List R_iiii) (n6 n7 : Nat) (O0 O1 : Obj) : prog_SameR → List (Option AObj)
 | .r0 w4 => [some (.ro O0), some (.ro O1)]

def prog_SameHd : prog_SameX → Nat
 | .h1m0 v9 => 1
noncomputable def prog_SameL (o0 : Nat) (L1 : List R_iiii) (n2 n3 o4 : Nat) (L5 : List R_iiii) (n6 n7 : Nat) (O0 O1 : Obj) : prog_SameX → List (Nat × Value)
 | .h1m0 v9 => [(1, vs 1 o4 n6 n7), (12, vs 0 o0 n2 n3), (13, vi (n2 : Int)), (14, vi (v9 : Int))]
noncomputable def prog_SameH (o0 : Nat) (L1 : List R_iiii) (n2 n3 o4 : Nat) (L5 : List R_iiii) (n6 n7 : Nat) (O0 O1 : Obj) : prog_SameX → List (Option AObj)
 | .h1m0 v9 => [some (.ro O0), some (.ro O1)]

noncomputable def prog_SameC : Nat → Code × List Kont
 | 1 => headOf [1, 1, 0, 1, 3] (bodyC Try.f9) []
 | _ => (.skip, [])
def prog_SameIL : Nat → Bool
 | 1 => true
 | _ => true
noncomputable def prog_SameK (i : Nat) : List Kont := match prog_SameIL i with | true => .rnd i :: (prog_SameC i).2 | false => (prog_SameC i).2

noncomputable def prog_SameM (o0 : Nat) (L1 : List R_iiii) (n2 n3 o4 : Nat) (L5 : List R_iiii) (n6 n7 : Nat) (O0 O1 : Obj) (N : Nat) : Mach := ⟨Try.f9, [.ro O0, .ro O1], prog_SameX, prog_SameR, prog_SameStep L1 n2 n3 L5 n6 n7 N, prog_SameHd, prog_SameC, prog_SameIL, prog_SameL o0 L1 n2 n3 o4 L5 n6 n7 O0 O1, prog_SameH o0 L1 n2 n3 o4 L5 n6 n7 O0 O1, prog_SameV o0 L1 n2 n3 o4 L5 n6 n7 O0 O1, prog_SamePo o0 L1 n2 n3 o4 L5 n6 n7 O0 O1⟩

theorem prog_Same_ok1_0 (o0 : Nat) (L1 : List R_iiii) (n2 n3 o4 : Nat) (L5 : List R_iiii) (n6 n7 : Nat) (O0 : Obj) (F0 : RO_iiii O0 o0 L1) (O1 : Obj) (F1 : RO_iiii O1 o4 L5) (v9 N : Nat) : (prog_SameM o0 L1 n2 n3 o4 L5 n6 n7 O0 O1 N).Ok Try.prog ext_Pl (.h1m0 v9 : prog_SameX) (prog_SameStep L1 n2 n3 L5 n6 n7 N (.h1m0 v9 : prog_SameX)) := by
 show (prog_SameM o0 L1 n2 n3 o4 L5 n6 n7 O0 O1 N).Ok Try.prog ext_Pl (.h1m0 v9 : prog_SameX) (prog_Same_h1m0 L1 n2 n3 L5 n6 n7 N v9)
 unfold prog_Same_h1m0
 refine Mach.ok_ite (fun g0 => ?_) (fun g0 => ?_)
 ·
  refine Mach.ok_ite (fun g1 => ?_) (fun g1 => ?_)
  ·
   refine Mach.ok_ite (fun g2 => ?_) (fun g2 => ?_)
   ·
    refine Mach.ok_ite (fun g3 => ?_) (fun g3 => ?_)
    ·
     refine Mach.ok_ite (fun g4 => ?_) (fun g4 => ?_)
     ·
      exact Mach.ok_fin (M := prog_SameM o0 L1 n2 n3 o4 L5 n6 n7 O0 O1 N) (cd := 1000000) (cm := 0) (r := (.r0 (false) : prog_SameR)) (fu := 4000) (orc := (orcw [(0, true), (1, true)] [] [(0, v9), (1, v9)] [(0, [.i (L1.getD v9 R_iiii.z).a0, .i (L1.getD v9 R_iiii.z).a1, .i (L1.getD v9 R_iiii.z).a2, .i (L1.getD v9 R_iiii.z).a3]), (2, [.i (L5.getD v9 R_iiii.z).a0, .i (L5.getD v9 R_iiii.z).a1, .i (L5.getD v9 R_iiii.z).a2, .i (L5.getD v9 R_iiii.z).a3])] [])) (live := [0, 1]) (u := vf) (bl := [some (.ro O0), some (.ro O1)]) (ob := [((!(((L1.getD v9 R_iiii.z).a0 == (L5.getD v9 R_iiii.z).a0) && (((L1.getD v9 R_iiii.z).a1 == (L5.getD v9 R_iiii.z).a1) && (((L1.getD v9 R_iiii.z).a2 == (L5.getD v9 R_iiii.z).a2) && (((L1.getD v9 R_iiii.z).a3 == (L5.getD v9 R_iiii.z).a3) && true))))), true), (sameR (roRow O1 (o4 + (v9 * 4)) 4) [.i (L5.getD v9 R_iiii.z).a0, .i (L5.getD v9 R_iiii.z).a1, .i (L5.getD v9 R_iiii.z).a2, .i (L5.getD v9 R_iiii.z).a3], true), (Nat.blt v9 n6, true), ((v9 : Int) == Int.ofNat v9, true), (sameR (roRow O0 (o0 + (v9 * 4)) 4) [.i (L1.getD v9 R_iiii.z).a0, .i (L1.getD v9 R_iiii.z).a1, .i (L1.getD v9 R_iiii.z).a2, .i (L1.getD v9 R_iiii.z).a3], true), (Nat.blt v9 n2, true), ((v9 : Int) == Int.ofNat v9, true), ((decide ((v9 : Int) < (n2 : Int))), true)]) (fun gv => by kernel_rfl) (obs_cons (by rw [Bool.not_eq_true']; exact Bool.eq_false_iff.2 (by simp only [ne_eq, Bool.and_true, Bool.and_eq_true, beq_iff_eq]; first | omega | (intro hh; simp_all; done))) <| obs_cons ((show (o4 + v9 * 4 + 0) = (o4 + (v9 * 4)) from by omega) ▸ F1 v9 (by omega) 0 4 (show 0 + 4 ≤ 4 from by decide)) <| oB <| oI <| obs_cons ((show (o0 + v9 * 4 + 0) = (o0 + (v9 * 4)) from by omega) ▸ F0 v9 (by omega) 0 4 (show 0 + 4 ≤ 4 from by decide)) <| oB <| oI <| oY obs_nil) rfl (by decide) (by rfl) rr ⟨rfl, ⟨rfl, trivial⟩⟩
     ·
      refine Mach.ok_ite (fun g5 => ?_) (fun g5 => ?_)
      ·
       exact Mach.ok_next (M := prog_SameM o0 L1 n2 n3 o4 L5 n6 n7 O0 O1 N) (cd := 1000000) (cm := 0) (y := (.h1m0 ((v9 + 1)) : prog_SameX)) (fu := 4000) (orc := (orcw [(0, true), (1, false)] [(0, (((v9 + 1) : Nat) : Int))] [(0, v9), (1, v9)] [(0, [.i (L1.getD v9 R_iiii.z).a0, .i (L1.getD v9 R_iiii.z).a1, .i (L1.getD v9 R_iiii.z).a2, .i (L1.getD v9 R_iiii.z).a3]), (2, [.i (L5.getD v9 R_iiii.z).a0, .i (L5.getD v9 R_iiii.z).a1, .i (L5.getD v9 R_iiii.z).a2, .i (L5.getD v9 R_iiii.z).a3])] [])) (live := [0, 1]) (tv := fun _ => [some (vs 1 o4 n6 n7), some (vs 0 o0 n2 n3), some (vi (n2 : Int)), some (vi (((v9 + 1) : Nat) : Int))]) (bl := [some (.ro O0), some (.ro O1)]) (ob := [((IntKind.i64.wrap ((v9 : Int) + (1 : Int))) == (((v9 + 1) : Nat) : Int), true), ((!(((L1.getD v9 R_iiii.z).a0 == (L5.getD v9 R_iiii.z).a0) && (((L1.getD v9 R_iiii.z).a1 == (L5.getD v9 R_iiii.z).a1) && (((L1.getD v9 R_iiii.z).a2 == (L5.getD v9 R_iiii.z).a2) && (((L1.getD v9 R_iiii.z).a3 == (L5.getD v9 R_iiii.z).a3) && true))))), false), (sameR (roRow O1 (o4 + (v9 * 4)) 4) [.i (L5.getD v9 R_iiii.z).a0, .i (L5.getD v9 R_iiii.z).a1, .i (L5.getD v9 R_iiii.z).a2, .i (L5.getD v9 R_iiii.z).a3], true), (Nat.blt v9 n6, true), ((v9 : Int) == Int.ofNat v9, true), (sameR (roRow O0 (o0 + (v9 * 4)) 4) [.i (L1.getD v9 R_iiii.z).a0, .i (L1.getD v9 R_iiii.z).a1, .i (L1.getD v9 R_iiii.z).a2, .i (L1.getD v9 R_iiii.z).a3], true), (Nat.blt v9 n2, true), ((v9 : Int) == Int.ofNat v9, true), ((decide ((v9 : Int) < (n2 : Int))), true)]) rfl (show 1 ∈ rids (prog_SameK 1) from by decide +kernel) (fun gv => by kernel_rfl) (obs_cons (beq_iff_eq.2 ((wrap_i64 ltA).trans (by first | rfl | omega))) <| obs_cons (by rw [Bool.not_eq_false']; first | (simp only [beq_self_eq_true, Bool.and_self]; done) | (simp only [Bool.and_true, Bool.and_eq_true, beq_iff_eq] <;> first | omega | (simp_all; done))) <| obs_cons ((show (o4 + v9 * 4 + 0) = (o4 + (v9 * 4)) from by omega) ▸ F1 v9 (by omega) 0 4 (show 0 + 4 ≤ 4 from by decide)) <| oB <| oI <| obs_cons ((show (o0 + v9 * 4 + 0) = (o0 + (v9 * 4)) from by omega) ▸ F0 v9 (by omega) 0 4 (show 0 + 4 ≤ 4 from by decide)) <| oB <| oI <| oY obs_nil) rfl (by decide) (by rfl) (fun _ => ⟨rr, ⟨rr, ⟨rr, ⟨rr, trivial⟩⟩⟩⟩) ⟨rfl, ⟨rfl, trivial⟩⟩
      ·
       exact Mach.ok_none
    ·
     exact Mach.ok_none
   ·
    exact Mach.ok_none
  ·
   exact Mach.ok_none
 ·
  exact Mach.ok_fin (M := prog_SameM o0 L1 n2 n3 o4 L5 n6 n7 O0 O1 N) (cd := 1000000) (cm := 0) (r := (.r0 (true) : prog_SameR)) (fu := 4000) (orc := (orcw [(0, false)] [] [] [] [])) (live := [0, 1]) (u := vT) (bl := [some (.ro O0), some (.ro O1)]) (ob := [((decide ((v9 : Int) < (n2 : Int))), false)]) (fun gv => by kernel_rfl) (oN obs_nil) rfl (by decide) (by rfl) rr ⟨rfl, ⟨rfl, trivial⟩⟩

theorem prog_Same_en (o0 : Nat) (L1 : List R_iiii) (n2 n3 o4 : Nat) (L5 : List R_iiii) (n6 n7 : Nat) (O0 : Obj) (F0 : RO_iiii O0 o0 L1) (O1 : Obj) (F1 : RO_iiii O1 o4 L5) (N : Nat) : (prog_SameM o0 L1 n2 n3 o4 L5 n6 n7 O0 O1 N).Enter Try.prog ext_Pl #[vs 0 o0 n2 n3, vs 1 o4 n6 n7] (prog_SameIn L1 n2 n3 L5 n6 n7 N) := by
 unfold prog_SameIn
 refine Mach.en_ite (fun g0 => ?_) (fun g0 => ?_)
 ·
  exact Mach.en_fin (M := prog_SameM o0 L1 n2 n3 o4 L5 n6 n7 O0 O1 N) (cd := 1000000) (cm := 0) (r := (.r0 (false) : prog_SameR)) (fu := 4000) (orc := (orcw [(0, true)] [] [] [] [])) (live := [0, 1]) (u := vf) (bl := [some (.ro O0), some (.ro O1)]) (ob := [(((n2 : Int) != (n6 : Int)), true)]) (by kernel_rfl) (oD obs_nil) rfl (by decide) (by rfl) rr ⟨rfl, ⟨rfl, trivial⟩⟩
 ·
  exact Mach.en_head (bK := prog_SameC 1) (M := prog_SameM o0 L1 n2 n3 o4 L5 n6 n7 O0 O1 N) (cd := 1000000) (cm := 0) (y := (.h1m0 (0) : prog_SameX)) (fu := 4000) (orc := (orcw [(0, false)] [] [] [] [])) (live := [0, 1]) (tv := [some (vs 1 o4 n6 n7), some (vs 0 o0 n2 n3), some (vi (n2 : Int)), some (vq)]) (bl := [some (.ro O0), some (.ro O1)]) (ob := [(((n2 : Int) != (n6 : Int)), false)]) rfl rfl (show rids (prog_SameC 1).2 = [] from rfl) (by kernel_rfl) (oE obs_nil) rfl (by decide) (by rfl) ⟨rr, ⟨rr, ⟨rr, ⟨⟨Eq.trans (show (vi ((0 : Nat) : Int) : Value) = vq from (congrArg (Value.int .i64) (by first | rfl | omega))) (by rfl), by rfl⟩, trivial⟩⟩⟩⟩ ⟨rfl, ⟨rfl, trivial⟩⟩

theorem prog_Same_spec (o0 : Nat) (L1 : List R_iiii) (n2 n3 o4 : Nat) (L5 : List R_iiii) (n6 n7 : Nat) (O0 : Obj) (F0 : RO_iiii O0 o0 L1) (O1 : Obj) (F1 : RO_iiii O1 o4 L5) (N : Nat) (r : prog_SameR) (h : prog_Same L1 n2 n3 L5 n6 n7 N = some r) : LSpec Try.prog 9 #[vs 0 o0 n2 n3, vs 1 o4 n6 n7] [.ro O0, .ro O1] (prog_SameV o0 L1 n2 n3 o4 L5 n6 n7 O0 O1 r) (prog_SamePo o0 L1 n2 n3 o4 L5 n6 n7 O0 O1 r) :=
 Mach.spec fit_Pl (prog_SameM o0 L1 n2 n3 o4 L5 n6 n7 O0 O1 N) Try.func9 (by kernel_rfl) (by kernel_rfl) (fun x => by cases x <;> exact le_far _ rfl) (fun r => by cases r <;> exact le_far _ rfl) (fun x => by
  cases x with
  | h1m0 _ => exact fun _ => (show ¬ (1 ∈ rids (prog_SameC 1).2) from by decide +kernel)
  ) (fun x => (show (prog_SameM o0 L1 n2 n3 o4 L5 n6 n7 O0 O1 N).Ok Try.prog ext_Pl x (prog_SameStep L1 n2 n3 L5 n6 n7 N x) from by
  cases x with
  | h1m0 v9 => exact prog_Same_ok1_0 o0 L1 n2 n3 o4 L5 n6 n7 O0 F0 O1 F1 v9 N
  )) (prog_Same_en o0 L1 n2 n3 o4 L5 n6 n7 O0 F0 O1 F1 N) (n := N) h

noncomputable def prog_SameT0 (o0 : Nat) (L1 : List R_iiii) (n2 n3 o4 : Nat) (L5 : List R_iiii) (n6 n7 : Nat) (O0 O1 : Obj) (w4 : Bool) (k0 k1 n : Nat) : Told := .call [(k0, .ro O0), (k1, .ro O1)] (Value.bool w4) [] 0
def prog_SameP0 (A : Array Value) (o0 : Nat) (L1 : List R_iiii) (n2 n3 o4 : Nat) (L5 : List R_iiii) (n6 n7 : Nat) (O0 O1 : Obj) (w4 : Bool) (k0 k1 n : Nat) : Prop := CallSpec Try.prog 9 A [(k0, .ro O0), (k1, .ro O1)] (Value.bool w4) [] n 0

theorem prog_SameC0 (A : Array Value) (o0 : Nat) (L1 : List R_iiii) (n2 n3 o4 : Nat) (L5 : List R_iiii) (n6 n7 : Nat) (O0 : Obj) (F0 : RO_iiii O0 o0 L1) (O1 : Obj) (F1 : RO_iiii O1 o4 L5) (w4 : Bool) (N : Nat) (h : prog_Same L1 n2 n3 L5 n6 n7 N = some (.r0 w4)) (k0 k1 n : Nat) (hA : A = #[vs k0 o0 n2 n3, vs k1 o4 n6 n7]) (hnd : ([k0, k1] : List Nat).Nodup) (hlt : ∀ k ∈ ([k0, k1] : List Nat), k < n) : prog_SameP0 A o0 L1 n2 n3 o4 L5 n6 n7 O0 O1 w4 k0 k1 n :=
 cs_args hA (LSpec.callL (show LSpec Try.prog 9 #[vs 0 o0 n2 n3, vs 1 o4 n6 n7] [.ro O0, .ro O1] (Value.bool w4) [some (.ro O0), some (.ro O1)] from prog_Same_spec o0 L1 n2 n3 o4 L5 n6 n7 O0 F0 O1 F1 N _ h) [k0, k1] n [] rfl hnd hlt (show 2 ≤ 2 from by decide) (show ∀ j ∈ ([] : List Nat), j < 2 from by decide) (by rfl) ⟨rfl, ⟨rfl, trivial⟩⟩ (by rfl) ⟨rfl, ⟨rfl, trivial⟩⟩ ⟨.inr rfl, ⟨.inr rfl, trivial⟩⟩ rfl rfl rfl (cons_eq (pair_eq rfl rfl) (cons_eq (pair_eq rfl rfl) rfl)) rfl)

noncomputable def ref11_Same_2V (o0 : Nat) (L1 : List R_iiii) (n2 n3 o4 : Nat) (L5 : List R_iiii) (n6 n7 : Nat) (O0 O1 : Obj) : ref11_Same_2R → Value
 | .r0 w4 => Value.bool w4
noncomputable def ref11_Same_2Po (o0 : Nat) (L1 : List R_iiii) (n2 n3 o4 : Nat) (L5 : List R_iiii) (n6 n7 : Nat) (O0 O1 : Obj) : ref11_Same_2R → List (Option AObj)
 | .r0 w4 => [some (.ro O0), some (.ro O1)]

def ref11_Same_2Hd : ref11_Same_2X → Nat
 | .h1m0 v8 => 1
noncomputable def ref11_Same_2L (o0 : Nat) (L1 : List R_iiii) (n2 n3 o4 : Nat) (L5 : List R_iiii) (n6 n7 : Nat) (O0 O1 : Obj) : ref11_Same_2X → List (Nat × Value)
 | .h1m0 v8 => [(0, vs 0 o0 n2 n3), (1, vs 1 o4 n6 n7), (5, vi (v8 : Int))]
noncomputable def ref11_Same_2H (o0 : Nat) (L1 : List R_iiii) (n2 n3 o4 : Nat) (L5 : List R_iiii) (n6 n7 : Nat) (O0 O1 : Obj) : ref11_Same_2X → List (Option AObj)
 | .h1m0 v8 => [some (.ro O0), some (.ro O1)]

noncomputable def ref11_Same_2C : Nat → Code × List Kont
 | 1 => headOf [1, 1, 0, 1, 3] (bodyC Try.f8) []
 | _ => (.skip, [])
def ref11_Same_2IL : Nat → Bool
 | 1 => true
 | _ => true
noncomputable def ref11_Same_2K (i : Nat) : List Kont := match ref11_Same_2IL i with | true => .rnd i :: (ref11_Same_2C i).2 | false => (ref11_Same_2C i).2

noncomputable def ref11_Same_2M (o0 : Nat) (L1 : List R_iiii) (n2 n3 o4 : Nat) (L5 : List R_iiii) (n6 n7 : Nat) (O0 O1 : Obj) (N : Nat) : Mach := ⟨Try.f8, [.ro O0, .ro O1], ref11_Same_2X, ref11_Same_2R, ref11_Same_2Step L1 n2 n3 L5 n6 n7 N, ref11_Same_2Hd, ref11_Same_2C, ref11_Same_2IL, ref11_Same_2L o0 L1 n2 n3 o4 L5 n6 n7 O0 O1, ref11_Same_2H o0 L1 n2 n3 o4 L5 n6 n7 O0 O1, ref11_Same_2V o0 L1 n2 n3 o4 L5 n6 n7 O0 O1, ref11_Same_2Po o0 L1 n2 n3 o4 L5 n6 n7 O0 O1⟩

theorem ref11_Same_2_ok1_0 (o0 : Nat) (L1 : List R_iiii) (n2 n3 o4 : Nat) (L5 : List R_iiii) (n6 n7 : Nat) (O0 : Obj) (F0 : RO_iiii O0 o0 L1) (O1 : Obj) (F1 : RO_iiii O1 o4 L5) (v8 N : Nat) : (ref11_Same_2M o0 L1 n2 n3 o4 L5 n6 n7 O0 O1 N).Ok Try.prog ext_Pl (.h1m0 v8 : ref11_Same_2X) (ref11_Same_2Step L1 n2 n3 L5 n6 n7 N (.h1m0 v8 : ref11_Same_2X)) := by
 show (ref11_Same_2M o0 L1 n2 n3 o4 L5 n6 n7 O0 O1 N).Ok Try.prog ext_Pl (.h1m0 v8 : ref11_Same_2X) (ref11_Same_2_h1m0 L1 n2 n3 L5 n6 n7 N v8)
 unfold ref11_Same_2_h1m0
 refine Mach.ok_ite (fun g0 => ?_) (fun g0 => ?_)
 ·
  refine Mach.ok_ite (fun g1 => ?_) (fun g1 => ?_)
  ·
   refine Mach.ok_ite (fun g2 => ?_) (fun g2 => ?_)
   ·
    refine Mach.ok_ite (fun g3 => ?_) (fun g3 => ?_)
    ·
     refine Mach.ok_ite (fun g4 => ?_) (fun g4 => ?_)
     ·
      exact Mach.ok_fin (M := ref11_Same_2M o0 L1 n2 n3 o4 L5 n6 n7 O0 O1 N) (cd := 1000000) (cm := 0) (r := (.r0 (false) : ref11_Same_2R)) (fu := 4000) (orc := (orcw [(0, true), (1, true)] [] [(0, v8), (1, v8)] [(0, [.i (L1.getD v8 R_iiii.z).a0, .i (L1.getD v8 R_iiii.z).a1, .i (L1.getD v8 R_iiii.z).a2, .i (L1.getD v8 R_iiii.z).a3]), (1, [.i (L5.getD v8 R_iiii.z).a0, .i (L5.getD v8 R_iiii.z).a1, .i (L5.getD v8 R_iiii.z).a2, .i (L5.getD v8 R_iiii.z).a3])] [])) (live := [0, 1]) (u := vf) (bl := [some (.ro O0), some (.ro O1)]) (ob := [((!(((L1.getD v8 R_iiii.z).a0 == (L5.getD v8 R_iiii.z).a0) && (((L1.getD v8 R_iiii.z).a1 == (L5.getD v8 R_iiii.z).a1) && (((L1.getD v8 R_iiii.z).a2 == (L5.getD v8 R_iiii.z).a2) && (((L1.getD v8 R_iiii.z).a3 == (L5.getD v8 R_iiii.z).a3) && true))))), true), (sameR (roRow O1 (o4 + (v8 * 4)) 4) [.i (L5.getD v8 R_iiii.z).a0, .i (L5.getD v8 R_iiii.z).a1, .i (L5.getD v8 R_iiii.z).a2, .i (L5.getD v8 R_iiii.z).a3], true), (Nat.blt v8 n6, true), ((v8 : Int) == Int.ofNat v8, true), (sameR (roRow O0 (o0 + (v8 * 4)) 4) [.i (L1.getD v8 R_iiii.z).a0, .i (L1.getD v8 R_iiii.z).a1, .i (L1.getD v8 R_iiii.z).a2, .i (L1.getD v8 R_iiii.z).a3], true), (Nat.blt v8 n2, true), ((v8 : Int) == Int.ofNat v8, true), ((decide ((v8 : Int) < (n2 : Int))), true)]) (fun gv => by kernel_rfl) (obs_cons (by rw [Bool.not_eq_true']; exact Bool.eq_false_iff.2 (by simp only [ne_eq, Bool.and_true, Bool.and_eq_true, beq_iff_eq]; first | omega | (intro hh; simp_all; done))) <| obs_cons ((show (o4 + v8 * 4 + 0) = (o4 + (v8 * 4)) from by omega) ▸ F1 v8 (by omega) 0 4 (show 0 + 4 ≤ 4 from by decide)) <| oB <| oI <| obs_cons ((show (o0 + v8 * 4 + 0) = (o0 + (v8 * 4)) from by omega) ▸ F0 v8 (by omega) 0 4 (show 0 + 4 ≤ 4 from by decide)) <| oB <| oI <| oY obs_nil) rfl (by decide) (by rfl) rr ⟨rfl, ⟨rfl, trivial⟩⟩
     ·
      refine Mach.ok_ite (fun g5 => ?_) (fun g5 => ?_)
      ·
       exact Mach.ok_next (M := ref11_Same_2M o0 L1 n2 n3 o4 L5 n6 n7 O0 O1 N) (cd := 1000000) (cm := 0) (y := (.h1m0 ((v8 + 1)) : ref11_Same_2X)) (fu := 4000) (orc := (orcw [(0, true), (1, false)] [(0, (((v8 + 1) : Nat) : Int))] [(0, v8), (1, v8)] [(0, [.i (L1.getD v8 R_iiii.z).a0, .i (L1.getD v8 R_iiii.z).a1, .i (L1.getD v8 R_iiii.z).a2, .i (L1.getD v8 R_iiii.z).a3]), (1, [.i (L5.getD v8 R_iiii.z).a0, .i (L5.getD v8 R_iiii.z).a1, .i (L5.getD v8 R_iiii.z).a2, .i (L5.getD v8 R_iiii.z).a3])] [])) (live := [0, 1]) (tv := fun _ => [some (vs 0 o0 n2 n3), some (vs 1 o4 n6 n7), some (vi (((v8 + 1) : Nat) : Int))]) (bl := [some (.ro O0), some (.ro O1)]) (ob := [((IntKind.i64.wrap ((v8 : Int) + (1 : Int))) == (((v8 + 1) : Nat) : Int), true), ((!(((L1.getD v8 R_iiii.z).a0 == (L5.getD v8 R_iiii.z).a0) && (((L1.getD v8 R_iiii.z).a1 == (L5.getD v8 R_iiii.z).a1) && (((L1.getD v8 R_iiii.z).a2 == (L5.getD v8 R_iiii.z).a2) && (((L1.getD v8 R_iiii.z).a3 == (L5.getD v8 R_iiii.z).a3) && true))))), false), (sameR (roRow O1 (o4 + (v8 * 4)) 4) [.i (L5.getD v8 R_iiii.z).a0, .i (L5.getD v8 R_iiii.z).a1, .i (L5.getD v8 R_iiii.z).a2, .i (L5.getD v8 R_iiii.z).a3], true), (Nat.blt v8 n6, true), ((v8 : Int) == Int.ofNat v8, true), (sameR (roRow O0 (o0 + (v8 * 4)) 4) [.i (L1.getD v8 R_iiii.z).a0, .i (L1.getD v8 R_iiii.z).a1, .i (L1.getD v8 R_iiii.z).a2, .i (L1.getD v8 R_iiii.z).a3], true), (Nat.blt v8 n2, true), ((v8 : Int) == Int.ofNat v8, true), ((decide ((v8 : Int) < (n2 : Int))), true)]) rfl (show 1 ∈ rids (ref11_Same_2K 1) from by decide +kernel) (fun gv => by kernel_rfl) (obs_cons (beq_iff_eq.2 ((wrap_i64 ltA).trans (by first | rfl | omega))) <| obs_cons (by rw [Bool.not_eq_false']; first | (simp only [beq_self_eq_true, Bool.and_self]; done) | (simp only [Bool.and_true, Bool.and_eq_true, beq_iff_eq] <;> first | omega | (simp_all; done))) <| obs_cons ((show (o4 + v8 * 4 + 0) = (o4 + (v8 * 4)) from by omega) ▸ F1 v8 (by omega) 0 4 (show 0 + 4 ≤ 4 from by decide)) <| oB <| oI <| obs_cons ((show (o0 + v8 * 4 + 0) = (o0 + (v8 * 4)) from by omega) ▸ F0 v8 (by omega) 0 4 (show 0 + 4 ≤ 4 from by decide)) <| oB <| oI <| oY obs_nil) rfl (by decide) (by rfl) (fun _ => ⟨rr, ⟨rr, ⟨rr, trivial⟩⟩⟩) ⟨rfl, ⟨rfl, trivial⟩⟩
      ·
       exact Mach.ok_none
    ·
     exact Mach.ok_none
   ·
    exact Mach.ok_none
  ·
   exact Mach.ok_none
 ·
  exact Mach.ok_fin (M := ref11_Same_2M o0 L1 n2 n3 o4 L5 n6 n7 O0 O1 N) (cd := 1000000) (cm := 0) (r := (.r0 (true) : ref11_Same_2R)) (fu := 4000) (orc := (orcw [(0, false)] [] [] [] [])) (live := [0, 1]) (u := vT) (bl := [some (.ro O0), some (.ro O1)]) (ob := [((decide ((v8 : Int) < (n2 : Int))), false)]) (fun gv => by kernel_rfl) (oN obs_nil) rfl (by decide) (by rfl) rr ⟨rfl, ⟨rfl, trivial⟩⟩

theorem ref11_Same_2_en (o0 : Nat) (L1 : List R_iiii) (n2 n3 o4 : Nat) (L5 : List R_iiii) (n6 n7 : Nat) (O0 : Obj) (F0 : RO_iiii O0 o0 L1) (O1 : Obj) (F1 : RO_iiii O1 o4 L5) (N : Nat) : (ref11_Same_2M o0 L1 n2 n3 o4 L5 n6 n7 O0 O1 N).Enter Try.prog ext_Pl #[vs 0 o0 n2 n3, vs 1 o4 n6 n7] (ref11_Same_2In L1 n2 n3 L5 n6 n7 N) := by
 unfold ref11_Same_2In
 refine Mach.en_ite (fun g0 => ?_) (fun g0 => ?_)
 ·
  exact Mach.en_fin (M := ref11_Same_2M o0 L1 n2 n3 o4 L5 n6 n7 O0 O1 N) (cd := 1000000) (cm := 0) (r := (.r0 (false) : ref11_Same_2R)) (fu := 4000) (orc := (orcw [(0, true)] [] [] [] [])) (live := [0, 1]) (u := vf) (bl := [some (.ro O0), some (.ro O1)]) (ob := [(((n2 : Int) != (n6 : Int)), true)]) (by kernel_rfl) (oD obs_nil) rfl (by decide) (by rfl) rr ⟨rfl, ⟨rfl, trivial⟩⟩
 ·
  exact Mach.en_head (bK := ref11_Same_2C 1) (M := ref11_Same_2M o0 L1 n2 n3 o4 L5 n6 n7 O0 O1 N) (cd := 1000000) (cm := 0) (y := (.h1m0 (0) : ref11_Same_2X)) (fu := 4000) (orc := (orcw [(0, false)] [] [] [] [])) (live := [0, 1]) (tv := [some (vs 0 o0 n2 n3), some (vs 1 o4 n6 n7), some (vq)]) (bl := [some (.ro O0), some (.ro O1)]) (ob := [(((n2 : Int) != (n6 : Int)), false)]) rfl rfl (show rids (ref11_Same_2C 1).2 = [] from rfl) (by kernel_rfl) (oE obs_nil) rfl (by decide) (by rfl) ⟨rr, ⟨rr, ⟨⟨Eq.trans (show (vi ((0 : Nat) : Int) : Value) = vq from (congrArg (Value.int .i64) (by first | rfl | omega))) (by rfl), by rfl⟩, trivial⟩⟩⟩ ⟨rfl, ⟨rfl, trivial⟩⟩

theorem ref11_Same_2_spec (o0 : Nat) (L1 : List R_iiii) (n2 n3 o4 : Nat) (L5 : List R_iiii) (n6 n7 : Nat) (O0 : Obj) (F0 : RO_iiii O0 o0 L1) (O1 : Obj) (F1 : RO_iiii O1 o4 L5) (N : Nat) (r : ref11_Same_2R) (h : ref11_Same_2 L1 n2 n3 L5 n6 n7 N = some r) : LSpec Try.prog 8 #[vs 0 o0 n2 n3, vs 1 o4 n6 n7] [.ro O0, .ro O1] (ref11_Same_2V o0 L1 n2 n3 o4 L5 n6 n7 O0 O1 r) (ref11_Same_2Po o0 L1 n2 n3 o4 L5 n6 n7 O0 O1 r) :=
 Mach.spec fit_Pl (ref11_Same_2M o0 L1 n2 n3 o4 L5 n6 n7 O0 O1 N) Try.func8 (by kernel_rfl) (by kernel_rfl) (fun x => by cases x <;> exact le_far _ rfl) (fun r => by cases r <;> exact le_far _ rfl) (fun x => by
  cases x with
  | h1m0 _ => exact fun _ => (show ¬ (1 ∈ rids (ref11_Same_2C 1).2) from by decide +kernel)
  ) (fun x => (show (ref11_Same_2M o0 L1 n2 n3 o4 L5 n6 n7 O0 O1 N).Ok Try.prog ext_Pl x (ref11_Same_2Step L1 n2 n3 L5 n6 n7 N x) from by
  cases x with
  | h1m0 v8 => exact ref11_Same_2_ok1_0 o0 L1 n2 n3 o4 L5 n6 n7 O0 F0 O1 F1 v8 N
  )) (ref11_Same_2_en o0 L1 n2 n3 o4 L5 n6 n7 O0 F0 O1 F1 N) (n := N) h

noncomputable def ref11_Same_2T0 (o0 : Nat) (L1 : List R_iiii) (n2 n3 o4 : Nat) (L5 : List R_iiii) (n6 n7 : Nat) (O0 O1 : Obj) (w4 : Bool) (k0 k1 n : Nat) : Told := .call [(k0, .ro O0), (k1, .ro O1)] (Value.bool w4) [] 0
def ref11_Same_2P0 (A : Array Value) (o0 : Nat) (L1 : List R_iiii) (n2 n3 o4 : Nat) (L5 : List R_iiii) (n6 n7 : Nat) (O0 O1 : Obj) (w4 : Bool) (k0 k1 n : Nat) : Prop := CallSpec Try.prog 8 A [(k0, .ro O0), (k1, .ro O1)] (Value.bool w4) [] n 0

theorem ref11_Same_2C0 (A : Array Value) (o0 : Nat) (L1 : List R_iiii) (n2 n3 o4 : Nat) (L5 : List R_iiii) (n6 n7 : Nat) (O0 : Obj) (F0 : RO_iiii O0 o0 L1) (O1 : Obj) (F1 : RO_iiii O1 o4 L5) (w4 : Bool) (N : Nat) (h : ref11_Same_2 L1 n2 n3 L5 n6 n7 N = some (.r0 w4)) (k0 k1 n : Nat) (hA : A = #[vs k0 o0 n2 n3, vs k1 o4 n6 n7]) (hnd : ([k0, k1] : List Nat).Nodup) (hlt : ∀ k ∈ ([k0, k1] : List Nat), k < n) : ref11_Same_2P0 A o0 L1 n2 n3 o4 L5 n6 n7 O0 O1 w4 k0 k1 n :=
 cs_args hA (LSpec.callL (show LSpec Try.prog 8 #[vs 0 o0 n2 n3, vs 1 o4 n6 n7] [.ro O0, .ro O1] (Value.bool w4) [some (.ro O0), some (.ro O1)] from ref11_Same_2_spec o0 L1 n2 n3 o4 L5 n6 n7 O0 F0 O1 F1 N _ h) [k0, k1] n [] rfl hnd hlt (show 2 ≤ 2 from by decide) (show ∀ j ∈ ([] : List Nat), j < 2 from by decide) (by rfl) ⟨rfl, ⟨rfl, trivial⟩⟩ (by rfl) ⟨rfl, ⟨rfl, trivial⟩⟩ ⟨.inr rfl, ⟨.inr rfl, trivial⟩⟩ rfl rfl rfl (cons_eq (pair_eq rfl rfl) (cons_eq (pair_eq rfl rfl) rfl)) rfl)

noncomputable def prog_Same_2V (o0 : Nat) (L1 : List R_iiii) (n2 n3 n4 n5 : Nat) (O0 : Obj) : prog_Same_2R → Value
 | .r0 w2 => Value.bool w2
noncomputable def prog_Same_2Po (o0 : Nat) (L1 : List R_iiii) (n2 n3 n4 n5 : Nat) (O0 : Obj) : prog_Same_2R → List (Option AObj)
 | .r0 w2 => [some (.ro O0)]

def prog_Same_2Hd : prog_Same_2X → Nat
 | .h1m0 v7 => 1
noncomputable def prog_Same_2L (o0 : Nat) (L1 : List R_iiii) (n2 n3 n4 n5 : Nat) (O0 : Obj) : prog_Same_2X → List (Nat × Value)
 | .h1m0 v7 => [(1, vs 0 o0 n4 n5), (12, vs 0 o0 n2 n3), (13, vi (n2 : Int)), (14, vi (v7 : Int))]
noncomputable def prog_Same_2H (o0 : Nat) (L1 : List R_iiii) (n2 n3 n4 n5 : Nat) (O0 : Obj) : prog_Same_2X → List (Option AObj)
 | .h1m0 v7 => [some (.ro O0)]

noncomputable def prog_Same_2C : Nat → Code × List Kont
 | 1 => headOf [1, 1, 0, 1, 3] (bodyC Try.f9) []
 | _ => (.skip, [])
def prog_Same_2IL : Nat → Bool
 | 1 => true
 | _ => true
noncomputable def prog_Same_2K (i : Nat) : List Kont := match prog_Same_2IL i with | true => .rnd i :: (prog_Same_2C i).2 | false => (prog_Same_2C i).2

noncomputable def prog_Same_2M (o0 : Nat) (L1 : List R_iiii) (n2 n3 n4 n5 : Nat) (O0 : Obj) (N : Nat) : Mach := ⟨Try.f9, [.ro O0], prog_Same_2X, prog_Same_2R, prog_Same_2Step L1 n2 n3 n4 n5 N, prog_Same_2Hd, prog_Same_2C, prog_Same_2IL, prog_Same_2L o0 L1 n2 n3 n4 n5 O0, prog_Same_2H o0 L1 n2 n3 n4 n5 O0, prog_Same_2V o0 L1 n2 n3 n4 n5 O0, prog_Same_2Po o0 L1 n2 n3 n4 n5 O0⟩

theorem prog_Same_2_ok1_0 (o0 : Nat) (L1 : List R_iiii) (n2 n3 n4 n5 : Nat) (O0 : Obj) (F0 : RO_iiii O0 o0 L1) (v7 N : Nat) : (prog_Same_2M o0 L1 n2 n3 n4 n5 O0 N).Ok Try.prog ext_Pl (.h1m0 v7 : prog_Same_2X) (prog_Same_2Step L1 n2 n3 n4 n5 N (.h1m0 v7 : prog_Same_2X)) := by
 show (prog_Same_2M o0 L1 n2 n3 n4 n5 O0 N).Ok Try.prog ext_Pl (.h1m0 v7 : prog_Same_2X) (prog_Same_2_h1m0 L1 n2 n3 n4 n5 N v7)
 unfold prog_Same_2_h1m0
 refine Mach.ok_ite (fun g0 => ?_) (fun g0 => ?_)
 ·
  refine Mach.ok_ite (fun g1 => ?_) (fun g1 => ?_)
  ·
   refine Mach.ok_ite (fun g2 => ?_) (fun g2 => ?_)
   ·
    refine Mach.ok_ite (fun g3 => ?_) (fun g3 => ?_)
    ·
     exact Mach.ok_next (M := prog_Same_2M o0 L1 n2 n3 n4 n5 O0 N) (cd := 1000000) (cm := 0) (y := (.h1m0 ((v7 + 1)) : prog_Same_2X)) (fu := 4000) (orc := (orcw [(0, true), (1, false)] [(0, (((v7 + 1) : Nat) : Int))] [(0, v7), (1, v7)] [(0, [.i (L1.getD v7 R_iiii.z).a0, .i (L1.getD v7 R_iiii.z).a1, .i (L1.getD v7 R_iiii.z).a2, .i (L1.getD v7 R_iiii.z).a3]), (2, [.i (L1.getD v7 R_iiii.z).a0, .i (L1.getD v7 R_iiii.z).a1, .i (L1.getD v7 R_iiii.z).a2, .i (L1.getD v7 R_iiii.z).a3])] [])) (live := [0]) (tv := fun _ => [some (vs 0 o0 n4 n5), some (vs 0 o0 n2 n3), some (vi (n2 : Int)), some (vi (((v7 + 1) : Nat) : Int))]) (bl := [some (.ro O0)]) (ob := [((IntKind.i64.wrap ((v7 : Int) + (1 : Int))) == (((v7 + 1) : Nat) : Int), true), ((!(((L1.getD v7 R_iiii.z).a0 == (L1.getD v7 R_iiii.z).a0) && (((L1.getD v7 R_iiii.z).a1 == (L1.getD v7 R_iiii.z).a1) && (((L1.getD v7 R_iiii.z).a2 == (L1.getD v7 R_iiii.z).a2) && (((L1.getD v7 R_iiii.z).a3 == (L1.getD v7 R_iiii.z).a3) && true))))), false), (sameR (roRow O0 (o0 + (v7 * 4)) 4) [.i (L1.getD v7 R_iiii.z).a0, .i (L1.getD v7 R_iiii.z).a1, .i (L1.getD v7 R_iiii.z).a2, .i (L1.getD v7 R_iiii.z).a3], true), (Nat.blt v7 n4, true), ((v7 : Int) == Int.ofNat v7, true), (sameR (roRow O0 (o0 + (v7 * 4)) 4) [.i (L1.getD v7 R_iiii.z).a0, .i (L1.getD v7 R_iiii.z).a1, .i (L1.getD v7 R_iiii.z).a2, .i (L1.getD v7 R_iiii.z).a3], true), (Nat.blt v7 n2, true), ((v7 : Int) == Int.ofNat v7, true), ((decide ((v7 : Int) < (n2 : Int))), true)]) rfl (show 1 ∈ rids (prog_Same_2K 1) from by decide +kernel) (fun gv => by kernel_rfl) (obs_cons (beq_iff_eq.2 ((wrap_i64 ltA).trans (by first | rfl | omega))) <| obs_cons (by rw [Bool.not_eq_false']; first | (simp only [beq_self_eq_true, Bool.and_self]; done) | (simp only [Bool.and_true, Bool.and_eq_true, beq_iff_eq] <;> first | omega | (simp_all; done))) <| obs_cons ((show (o0 + v7 * 4 + 0) = (o0 + (v7 * 4)) from by omega) ▸ F0 v7 (by omega) 0 4 (show 0 + 4 ≤ 4 from by decide)) <| oB <| oI <| obs_cons ((show (o0 + v7 * 4 + 0) = (o0 + (v7 * 4)) from by omega) ▸ F0 v7 (by omega) 0 4 (show 0 + 4 ≤ 4 from by decide)) <| oB <| oI <| oY obs_nil) rfl (by decide) (by rfl) (fun _ => ⟨rr, ⟨rr, ⟨rr, ⟨rr, trivial⟩⟩⟩⟩) ⟨rfl, trivial⟩
    ·
     exact Mach.ok_none
   ·
    exact Mach.ok_none
  ·
   exact Mach.ok_none
 ·
  exact Mach.ok_fin (M := prog_Same_2M o0 L1 n2 n3 n4 n5 O0 N) (cd := 1000000) (cm := 0) (r := (.r0 (true) : prog_Same_2R)) (fu := 4000) (orc := (orcw [(0, false)] [] [] [] [])) (live := [0]) (u := vT) (bl := [some (.ro O0)]) (ob := [((decide ((v7 : Int) < (n2 : Int))), false)]) (fun gv => by kernel_rfl) (oN obs_nil) rfl (by decide) (by rfl) rr ⟨rfl, trivial⟩

theorem prog_Same_2_en (o0 : Nat) (L1 : List R_iiii) (n2 n3 n4 n5 : Nat) (O0 : Obj) (F0 : RO_iiii O0 o0 L1) (N : Nat) : (prog_Same_2M o0 L1 n2 n3 n4 n5 O0 N).Enter Try.prog ext_Pl #[vs 0 o0 n2 n3, vs 0 o0 n4 n5] (prog_Same_2In L1 n2 n3 n4 n5 N) := by
 unfold prog_Same_2In
 refine Mach.en_ite (fun g0 => ?_) (fun g0 => ?_)
 ·
  exact Mach.en_fin (M := prog_Same_2M o0 L1 n2 n3 n4 n5 O0 N) (cd := 1000000) (cm := 0) (r := (.r0 (false) : prog_Same_2R)) (fu := 4000) (orc := (orcw [(0, true)] [] [] [] [])) (live := [0]) (u := vf) (bl := [some (.ro O0)]) (ob := [(((n2 : Int) != (n4 : Int)), true)]) (by kernel_rfl) (oD obs_nil) rfl (by decide) (by rfl) rr ⟨rfl, trivial⟩
 ·
  exact Mach.en_head (bK := prog_Same_2C 1) (M := prog_Same_2M o0 L1 n2 n3 n4 n5 O0 N) (cd := 1000000) (cm := 0) (y := (.h1m0 (0) : prog_Same_2X)) (fu := 4000) (orc := (orcw [(0, false)] [] [] [] [])) (live := [0]) (tv := [some (vs 0 o0 n4 n5), some (vs 0 o0 n2 n3), some (vi (n2 : Int)), some (vq)]) (bl := [some (.ro O0)]) (ob := [(((n2 : Int) != (n4 : Int)), false)]) rfl rfl (show rids (prog_Same_2C 1).2 = [] from rfl) (by kernel_rfl) (oE obs_nil) rfl (by decide) (by rfl) ⟨rr, ⟨rr, ⟨rr, ⟨⟨Eq.trans (show (vi ((0 : Nat) : Int) : Value) = vq from (congrArg (Value.int .i64) (by first | rfl | omega))) (by rfl), by rfl⟩, trivial⟩⟩⟩⟩ ⟨rfl, trivial⟩

theorem prog_Same_2_spec (o0 : Nat) (L1 : List R_iiii) (n2 n3 n4 n5 : Nat) (O0 : Obj) (F0 : RO_iiii O0 o0 L1) (N : Nat) (r : prog_Same_2R) (h : prog_Same_2 L1 n2 n3 n4 n5 N = some r) : LSpec Try.prog 9 #[vs 0 o0 n2 n3, vs 0 o0 n4 n5] [.ro O0] (prog_Same_2V o0 L1 n2 n3 n4 n5 O0 r) (prog_Same_2Po o0 L1 n2 n3 n4 n5 O0 r) :=
 Mach.spec fit_Pl (prog_Same_2M o0 L1 n2 n3 n4 n5 O0 N) Try.func9 (by kernel_rfl) (by kernel_rfl) (fun x => by cases x <;> exact le_far _ rfl) (fun r => by cases r <;> exact le_far _ rfl) (fun x => by
  cases x with
  | h1m0 _ => exact fun _ => (show ¬ (1 ∈ rids (prog_Same_2C 1).2) from by decide +kernel)
  ) (fun x => (show (prog_Same_2M o0 L1 n2 n3 n4 n5 O0 N).Ok Try.prog ext_Pl x (prog_Same_2Step L1 n2 n3 n4 n5 N x) from by
  cases x with
  | h1m0 v7 => exact prog_Same_2_ok1_0 o0 L1 n2 n3 n4 n5 O0 F0 v7 N
  )) (prog_Same_2_en o0 L1 n2 n3 n4 n5 O0 F0 N) (n := N) h

noncomputable def prog_Same_2T0 (o0 : Nat) (L1 : List R_iiii) (n2 n3 n4 n5 : Nat) (O0 : Obj) (w2 : Bool) (k0 n : Nat) : Told := .call [(k0, .ro O0)] (Value.bool w2) [] 0
def prog_Same_2P0 (A : Array Value) (o0 : Nat) (L1 : List R_iiii) (n2 n3 n4 n5 : Nat) (O0 : Obj) (w2 : Bool) (k0 n : Nat) : Prop := CallSpec Try.prog 9 A [(k0, .ro O0)] (Value.bool w2) [] n 0

theorem prog_Same_2C0 (A : Array Value) (o0 : Nat) (L1 : List R_iiii) (n2 n3 n4 n5 : Nat) (O0 : Obj) (F0 : RO_iiii O0 o0 L1) (w2 : Bool) (N : Nat) (h : prog_Same_2 L1 n2 n3 n4 n5 N = some (.r0 w2)) (k0 n : Nat) (hA : A = #[vs k0 o0 n2 n3, vs k0 o0 n4 n5]) (hnd : ([k0] : List Nat).Nodup) (hlt : ∀ k ∈ ([k0] : List Nat), k < n) : prog_Same_2P0 A o0 L1 n2 n3 n4 n5 O0 w2 k0 n :=
 cs_args hA (LSpec.callL (show LSpec Try.prog 9 #[vs 0 o0 n2 n3, vs 0 o0 n4 n5] [.ro O0] (Value.bool w2) [some (.ro O0)] from prog_Same_2_spec o0 L1 n2 n3 n4 n5 O0 F0 N _ h) [k0] n [] rfl hnd hlt (show 1 ≤ 1 from by decide) (show ∀ j ∈ ([] : List Nat), j < 1 from by decide) (by rfl) ⟨rfl, trivial⟩ (by rfl) ⟨rfl, trivial⟩ ⟨.inr rfl, trivial⟩ rfl rfl rfl (cons_eq (pair_eq rfl rfl) rfl) rfl)

noncomputable def ref11_Same_3V (L0 : List R_iiii) : ref11_Same_3R → Value
 | .r0 w1 => Value.bool w1
noncomputable def ref11_Same_3Po (L0 : List R_iiii) : ref11_Same_3R → List (Option AObj)
 | .r0 w1 => [some (.cells (rowV E_iiii L0) 35)]

def ref11_Same_3Hd : ref11_Same_3X → Nat
 | .h1m0 => 1
noncomputable def ref11_Same_3L (L0 : List R_iiii) : ref11_Same_3X → List (Nat × Value)
 | .h1m0 => [(0, vn), (1, vs 0 0 L0.length L0.length), (5, vq)]
noncomputable def ref11_Same_3H (L0 : List R_iiii) : ref11_Same_3X → List (Option AObj)
 | .h1m0 => [some (.cells (rowV E_iiii L0) 35)]

noncomputable def ref11_Same_3C : Nat → Code × List Kont
 | 1 => headOf [1, 1, 0, 1, 3] (bodyC Try.f8) []
 | _ => (.skip, [])
def ref11_Same_3IL : Nat → Bool
 | 1 => true
 | _ => true
noncomputable def ref11_Same_3M (L0 : List R_iiii) (N : Nat) : Mach := ⟨Try.f8, [.cells (rowV E_iiii L0) 35], ref11_Same_3X, ref11_Same_3R, ref11_Same_3Step L0 N, ref11_Same_3Hd, ref11_Same_3C, ref11_Same_3IL, ref11_Same_3L L0, ref11_Same_3H L0, ref11_Same_3V L0, ref11_Same_3Po L0⟩

theorem ref11_Same_3_ok1_0 (L0 : List R_iiii) (N : Nat) : (ref11_Same_3M L0 N).Ok Try.prog ext_Pl (.h1m0 : ref11_Same_3X) (ref11_Same_3Step L0 N (.h1m0 : ref11_Same_3X)) := by
 show (ref11_Same_3M L0 N).Ok Try.prog ext_Pl (.h1m0 : ref11_Same_3X) (ref11_Same_3_h1m0 L0 N)
 unfold ref11_Same_3_h1m0
 exact Mach.ok_fin (M := ref11_Same_3M L0 N) (cd := 1000000) (cm := 0) (r := (.r0 (true) : ref11_Same_3R)) (fu := 4000) (orc := (orcw [] [] [] [] [])) (live := [0]) (u := vT) (bl := [some (.cells (rowV E_iiii L0) 35)]) (ob := []) (fun gv => by kernel_rfl) obs_nil rfl (by decide) (by rfl) rr ⟨(same_row (E := E_iiii) (α := R_iiii) _ L0 _), trivial⟩

theorem ref11_Same_3_en (L0 : List R_iiii) (N : Nat) : (ref11_Same_3M L0 N).Enter Try.prog ext_Pl #[vn, vs 0 0 L0.length L0.length] (ref11_Same_3In L0 N) := by
 unfold ref11_Same_3In
 refine Mach.en_ite (fun g0 => ?_) (fun g0 => ?_)
 ·
  exact Mach.en_fin (M := ref11_Same_3M L0 N) (cd := 1000000) (cm := 0) (r := (.r0 (false) : ref11_Same_3R)) (fu := 4000) (orc := (orcw [(0, true)] [] [] [] [])) (live := [0]) (u := vf) (bl := [some (.cells (rowV E_iiii L0) 35)]) (ob := [(((0 : Int) != ((L0.length : Nat) : Int)), true)]) (by kernel_rfl) (oD obs_nil) rfl (by decide) (by rfl) rr ⟨(same_row (E := E_iiii) (α := R_iiii) _ L0 _), trivial⟩
 ·
  exact Mach.en_head (bK := ref11_Same_3C 1) (M := ref11_Same_3M L0 N) (cd := 1000000) (cm := 0) (y := (.h1m0 : ref11_Same_3X)) (fu := 4000) (orc := (orcw [(0, false)] [] [] [] [])) (live := [0]) (tv := [some (vn), some (vs 0 0 L0.length L0.length), some (vq)]) (bl := [some (.cells (rowV E_iiii L0) 35)]) (ob := [(((0 : Int) != ((L0.length : Nat) : Int)), false)]) rfl rfl (show rids (ref11_Same_3C 1).2 = [] from rfl) (by kernel_rfl) (oE obs_nil) rfl (by decide) (by rfl) ⟨rr, ⟨rr, ⟨rr, trivial⟩⟩⟩ ⟨(same_row (E := E_iiii) (α := R_iiii) _ L0 _), trivial⟩

theorem ref11_Same_3_spec (L0 : List R_iiii) (N : Nat) (r : ref11_Same_3R) (h : ref11_Same_3 L0 N = some r) : LSpec Try.prog 8 #[vn, vs 0 0 L0.length L0.length] [.cells (rowV E_iiii L0) 35] (ref11_Same_3V L0 r) (ref11_Same_3Po L0 r) :=
 Mach.spec fit_Pl (ref11_Same_3M L0 N) Try.func8 (by kernel_rfl) (by kernel_rfl) (fun x => by cases x <;> exact le_far _ rfl) (fun r => by cases r <;> exact le_far _ rfl) (fun x => by
  cases x with
  | h1m0 => exact fun _ => (show ¬ (1 ∈ rids (ref11_Same_3C 1).2) from by decide +kernel)
  ) (fun x => (show (ref11_Same_3M L0 N).Ok Try.prog ext_Pl x (ref11_Same_3Step L0 N x) from by
  cases x with
  | h1m0 => exact ref11_Same_3_ok1_0 L0 N
  )) (ref11_Same_3_en L0 N) (n := N) h

noncomputable def ref11_Same_3T0 (L0 : List R_iiii) (w1 : Bool) (k0 n : Nat) : Told := .call [(k0, .cells (rowV E_iiii L0) 35)] (Value.bool w1) [] 0
def ref11_Same_3P0 (A : Array Value) (L0 : List R_iiii) (w1 : Bool) (k0 n : Nat) : Prop := CallSpec Try.prog 8 A [(k0, .cells (rowV E_iiii L0) 35)] (Value.bool w1) [] n 0

theorem ref11_Same_3C0 (A : Array Value) (L0 : List R_iiii) (w1 : Bool) (N : Nat) (h : ref11_Same_3 L0 N = some (.r0 w1)) (k0 n : Nat) (hA : A = #[vn, vs k0 0 L0.length L0.length]) (hnd : ([k0] : List Nat).Nodup) (hlt : ∀ k ∈ ([k0] : List Nat), k < n) : ref11_Same_3P0 A L0 w1 k0 n :=
 cs_args hA (LSpec.callL (show LSpec Try.prog 8 #[vn, vs 0 0 L0.length L0.length] [.cells (rowV E_iiii L0) 35] (Value.bool w1) [some (.cells (rowV E_iiii L0) 35)] from ref11_Same_3_spec L0 N _ h) [k0] n [] rfl hnd hlt (show 1 ≤ 1 from by decide) (show ∀ j ∈ ([] : List Nat), j < 1 from by decide) (by rfl) ⟨(under_row _ _ _), trivial⟩ (by rfl) ⟨(under_row _ _ _), trivial⟩ ⟨.inr rfl, trivial⟩ rfl rfl rfl (cons_eq (pair_eq rfl (renO_row _ _ _)) rfl) rfl)

noncomputable def ref11_Same_4V (L0 : List R_iiii) : ref11_Same_4R → Value
 | .r0 w1 => Value.bool w1
noncomputable def ref11_Same_4Po (L0 : List R_iiii) : ref11_Same_4R → List (Option AObj)
 | .r0 w1 => [some (.cells (rowV E_iiii L0) 35)]

def ref11_Same_4Hd : ref11_Same_4X → Nat
 | .h1m0 => 1
noncomputable def ref11_Same_4L (L0 : List R_iiii) : ref11_Same_4X → List (Nat × Value)
 | .h1m0 => [(0, vs 0 0 L0.length L0.length), (1, vn), (5, vq)]
noncomputable def ref11_Same_4H (L0 : List R_iiii) : ref11_Same_4X → List (Option AObj)
 | .h1m0 => [some (.cells (rowV E_iiii L0) 35)]

noncomputable def ref11_Same_4C : Nat → Code × List Kont
 | 1 => headOf [1, 1, 0, 1, 3] (bodyC Try.f8) []
 | _ => (.skip, [])
def ref11_Same_4IL : Nat → Bool
 | 1 => true
 | _ => true
noncomputable def ref11_Same_4M (L0 : List R_iiii) (N : Nat) : Mach := ⟨Try.f8, [.cells (rowV E_iiii L0) 35], ref11_Same_4X, ref11_Same_4R, ref11_Same_4Step L0 N, ref11_Same_4Hd, ref11_Same_4C, ref11_Same_4IL, ref11_Same_4L L0, ref11_Same_4H L0, ref11_Same_4V L0, ref11_Same_4Po L0⟩

theorem ref11_Same_4_ok1_0 (L0 : List R_iiii) (N : Nat) : (ref11_Same_4M L0 N).Ok Try.prog ext_Pl (.h1m0 : ref11_Same_4X) (ref11_Same_4Step L0 N (.h1m0 : ref11_Same_4X)) := by
 show (ref11_Same_4M L0 N).Ok Try.prog ext_Pl (.h1m0 : ref11_Same_4X) (ref11_Same_4_h1m0 L0 N)
 unfold ref11_Same_4_h1m0
 refine Mach.ok_ite (fun g0 => ?_) (fun g0 => ?_)
 ·
  exact Mach.ok_none
 ·
  exact Mach.ok_fin (M := ref11_Same_4M L0 N) (cd := 1000000) (cm := 0) (r := (.r0 (true) : ref11_Same_4R)) (fu := 4000) (orc := (orcw [(0, false)] [] [] [] [])) (live := [0]) (u := vT) (bl := [some (.cells (rowV E_iiii L0) 35)]) (ob := [((decide ((0 : Int) < ((L0.length : Nat) : Int))), false)]) (fun gv => by kernel_rfl) (oN obs_nil) rfl (by decide) (by rfl) rr ⟨(same_row (E := E_iiii) (α := R_iiii) _ L0 _), trivial⟩

theorem ref11_Same_4_en (L0 : List R_iiii) (N : Nat) : (ref11_Same_4M L0 N).Enter Try.prog ext_Pl #[vs 0 0 L0.length L0.length, vn] (ref11_Same_4In L0 N) := by
 unfold ref11_Same_4In
 refine Mach.en_ite (fun g0 => ?_) (fun g0 => ?_)
 ·
  exact Mach.en_fin (M := ref11_Same_4M L0 N) (cd := 1000000) (cm := 0) (r := (.r0 (false) : ref11_Same_4R)) (fu := 4000) (orc := (orcw [(0, true)] [] [] [] [])) (live := [0]) (u := vf) (bl := [some (.cells (rowV E_iiii L0) 35)]) (ob := [((((L0.length : Nat) : Int) != (0 : Int)), true)]) (by kernel_rfl) (oD obs_nil) rfl (by decide) (by rfl) rr ⟨(same_row (E := E_iiii) (α := R_iiii) _ L0 _), trivial⟩
 ·
  exact Mach.en_head (bK := ref11_Same_4C 1) (M := ref11_Same_4M L0 N) (cd := 1000000) (cm := 0) (y := (.h1m0 : ref11_Same_4X)) (fu := 4000) (orc := (orcw [(0, false)] [] [] [] [])) (live := [0]) (tv := [some (vs 0 0 L0.length L0.length), some (vn), some (vq)]) (bl := [some (.cells (rowV E_iiii L0) 35)]) (ob := [((((L0.length : Nat) : Int) != (0 : Int)), false)]) rfl rfl (show rids (ref11_Same_4C 1).2 = [] from rfl) (by kernel_rfl) (oE obs_nil) rfl (by decide) (by rfl) ⟨rr, ⟨rr, ⟨rr, trivial⟩⟩⟩ ⟨(same_row (E := E_iiii) (α := R_iiii) _ L0 _), trivial⟩

theorem ref11_Same_4_spec (L0 : List R_iiii) (N : Nat) (r : ref11_Same_4R) (h : ref11_Same_4 L0 N = some r) : LSpec Try.prog 8 #[vs 0 0 L0.length L0.length, vn] [.cells (rowV E_iiii L0) 35] (ref11_Same_4V L0 r) (ref11_Same_4Po L0 r) :=
 Mach.spec fit_Pl (ref11_Same_4M L0 N) Try.func8 (by kernel_rfl) (by kernel_rfl) (fun x => by cases x <;> exact le_far _ rfl) (fun r => by cases r <;> exact le_far _ rfl) (fun x => by
  cases x with
  | h1m0 => exact fun _ => (show ¬ (1 ∈ rids (ref11_Same_4C 1).2) from by decide +kernel)
  ) (fun x => (show (ref11_Same_4M L0 N).Ok Try.prog ext_Pl x (ref11_Same_4Step L0 N x) from by
  cases x with
  | h1m0 => exact ref11_Same_4_ok1_0 L0 N
  )) (ref11_Same_4_en L0 N) (n := N) h

noncomputable def ref11_Same_4T0 (L0 : List R_iiii) (w1 : Bool) (k0 n : Nat) : Told := .call [(k0, .cells (rowV E_iiii L0) 35)] (Value.bool w1) [] 0
def ref11_Same_4P0 (A : Array Value) (L0 : List R_iiii) (w1 : Bool) (k0 n : Nat) : Prop := CallSpec Try.prog 8 A [(k0, .cells (rowV E_iiii L0) 35)] (Value.bool w1) [] n 0

theorem ref11_Same_4C0 (A : Array Value) (L0 : List R_iiii) (w1 : Bool) (N : Nat) (h : ref11_Same_4 L0 N = some (.r0 w1)) (k0 n : Nat) (hA : A = #[vs k0 0 L0.length L0.length, vn]) (hnd : ([k0] : List Nat).Nodup) (hlt : ∀ k ∈ ([k0] : List Nat), k < n) : ref11_Same_4P0 A L0 w1 k0 n :=
 cs_args hA (LSpec.callL (show LSpec Try.prog 8 #[vs 0 0 L0.length L0.length, vn] [.cells (rowV E_iiii L0) 35] (Value.bool w1) [some (.cells (rowV E_iiii L0) 35)] from ref11_Same_4_spec L0 N _ h) [k0] n [] rfl hnd hlt (show 1 ≤ 1 from by decide) (show ∀ j ∈ ([] : List Nat), j < 1 from by decide) (by rfl) ⟨(under_row _ _ _), trivial⟩ (by rfl) ⟨(under_row _ _ _), trivial⟩ ⟨.inr rfl, trivial⟩ rfl rfl rfl (cons_eq (pair_eq rfl (renO_row _ _ _)) rfl) rfl)

noncomputable def ref11_Same_5V (L0 L1 : List R_iiii) : ref11_Same_5R → Value
 | .r0 w2 => Value.bool w2
noncomputable def ref11_Same_5Po (L0 L1 : List R_iiii) : ref11_Same_5R → List (Option AObj)
 | .r0 w2 => [some (.cells (rowV E_iiii L0) 35), some (.cells (rowV E_iiii L1) 35)]

def ref11_Same_5Hd : ref11_Same_5X → Nat
 | .h1m0 v2 => 1
noncomputable def ref11_Same_5L (L0 L1 : List R_iiii) : ref11_Same_5X → List (Nat × Value)
 | .h1m0 v2 => [(0, vs 0 0 L0.length L0.length), (1, vs 1 0 L1.length L1.length), (5, vi (v2 : Int))]
noncomputable def ref11_Same_5H (L0 L1 : List R_iiii) : ref11_Same_5X → List (Option AObj)
 | .h1m0 v2 => [some (.cells (rowV E_iiii L0) 35), some (.cells (rowV E_iiii L1) 35)]

noncomputable def ref11_Same_5C : Nat → Code × List Kont
 | 1 => headOf [1, 1, 0, 1, 3] (bodyC Try.f8) []
 | _ => (.skip, [])
def ref11_Same_5IL : Nat → Bool
 | 1 => true
 | _ => true
noncomputable def ref11_Same_5K (i : Nat) : List Kont := match ref11_Same_5IL i with | true => .rnd i :: (ref11_Same_5C i).2 | false => (ref11_Same_5C i).2

noncomputable def ref11_Same_5M (L0 L1 : List R_iiii) (N : Nat) : Mach := ⟨Try.f8, [.cells (rowV E_iiii L0) 35, .cells (rowV E_iiii L1) 35], ref11_Same_5X, ref11_Same_5R, ref11_Same_5Step L0 L1 N, ref11_Same_5Hd, ref11_Same_5C, ref11_Same_5IL, ref11_Same_5L L0 L1, ref11_Same_5H L0 L1, ref11_Same_5V L0 L1, ref11_Same_5Po L0 L1⟩

theorem ref11_Same_5_ok1_0 (L0 L1 : List R_iiii) (v2 N : Nat) : (ref11_Same_5M L0 L1 N).Ok Try.prog ext_Pl (.h1m0 v2 : ref11_Same_5X) (ref11_Same_5Step L0 L1 N (.h1m0 v2 : ref11_Same_5X)) := by
 show (ref11_Same_5M L0 L1 N).Ok Try.prog ext_Pl (.h1m0 v2 : ref11_Same_5X) (ref11_Same_5_h1m0 L0 L1 N v2)
 unfold ref11_Same_5_h1m0
 refine Mach.ok_ite (fun g0 => ?_) (fun g0 => ?_)
 ·
  refine Mach.ok_ite (fun g1 => ?_) (fun g1 => ?_)
  ·
   refine Mach.ok_ite (fun g2 => ?_) (fun g2 => ?_)
   ·
    exact Mach.ok_fin (M := ref11_Same_5M L0 L1 N) (cd := 1000000) (cm := 0) (r := (.r0 (false) : ref11_Same_5R)) (fu := 4000) (orc := (orcw [(0, true), (1, true)] [] [(0, v2), (1, v2)] [(0, [.i (L0.getD v2 R_iiii.z).a0, .i (L0.getD v2 R_iiii.z).a1, .i (L0.getD v2 R_iiii.z).a2, .i (L0.getD v2 R_iiii.z).a3]), (1, [.i (L1.getD v2 R_iiii.z).a0, .i (L1.getD v2 R_iiii.z).a1, .i (L1.getD v2 R_iiii.z).a2, .i (L1.getD v2 R_iiii.z).a3])] [])) (live := [0, 1]) (u := vf) (bl := [some (.cells (rowV E_iiii L0) 35), some (.cells (rowV E_iiii L1) 35)]) (ob := [((!(((L0.getD v2 R_iiii.z).a0 == (L1.getD v2 R_iiii.z).a0) && (((L0.getD v2 R_iiii.z).a1 == (L1.getD v2 R_iiii.z).a1) && (((L0.getD v2 R_iiii.z).a2 == (L1.getD v2 R_iiii.z).a2) && (((L0.getD v2 R_iiii.z).a3 == (L1.getD v2 R_iiii.z).a3) && true))))), true), (sameR (takeN 4 (List.drop (0 + (v2 * 4)) (rowV E_iiii L1))) [.i (L1.getD v2 R_iiii.z).a0, .i (L1.getD v2 R_iiii.z).a1, .i (L1.getD v2 R_iiii.z).a2, .i (L1.getD v2 R_iiii.z).a3], true), (Nat.blt v2 L1.length, true), ((v2 : Int) == Int.ofNat v2, true), (sameR (takeN 4 (List.drop (0 + (v2 * 4)) (rowV E_iiii L0))) [.i (L0.getD v2 R_iiii.z).a0, .i (L0.getD v2 R_iiii.z).a1, .i (L0.getD v2 R_iiii.z).a2, .i (L0.getD v2 R_iiii.z).a3], true), (Nat.blt v2 L0.length, true), ((v2 : Int) == Int.ofNat v2, true), ((decide ((v2 : Int) < ((L0.length : Nat) : Int))), true)]) (fun gv => by kernel_rfl) (obs_cons (by rw [Bool.not_eq_true']; exact Bool.eq_false_iff.2 (by simp only [ne_eq, Bool.and_true, Bool.and_eq_true, beq_iff_eq]; first | omega | (intro hh; simp_all; done))) <| obs_cons (rowV_load (E := E_iiii) (L := L1) (i := v2) (q := 0) (by omega) (show (0 + (v2 * 4)) = v2 * 4 + 0 from by omega) (show 0 + 4 ≤ 4 from by decide) rfl rfl) <| oB <| oI <| obs_cons (rowV_load (E := E_iiii) (L := L0) (i := v2) (q := 0) (by omega) (show (0 + (v2 * 4)) = v2 * 4 + 0 from by omega) (show 0 + 4 ≤ 4 from by decide) rfl rfl) <| oB <| oI <| oY obs_nil) rfl (by decide) (by rfl) rr ⟨(same_row (E := E_iiii) (α := R_iiii) _ L0 _), ⟨(same_row (E := E_iiii) (α := R_iiii) _ L1 _), trivial⟩⟩
   ·
    refine Mach.ok_ite (fun g3 => ?_) (fun g3 => ?_)
    ·
     exact Mach.ok_next (M := ref11_Same_5M L0 L1 N) (cd := 1000000) (cm := 0) (y := (.h1m0 ((v2 + 1)) : ref11_Same_5X)) (fu := 4000) (orc := (orcw [(0, true), (1, false)] [(0, (((v2 + 1) : Nat) : Int))] [(0, v2), (1, v2)] [(0, [.i (L0.getD v2 R_iiii.z).a0, .i (L0.getD v2 R_iiii.z).a1, .i (L0.getD v2 R_iiii.z).a2, .i (L0.getD v2 R_iiii.z).a3]), (1, [.i (L1.getD v2 R_iiii.z).a0, .i (L1.getD v2 R_iiii.z).a1, .i (L1.getD v2 R_iiii.z).a2, .i (L1.getD v2 R_iiii.z).a3])] [])) (live := [0, 1]) (tv := fun _ => [some (vs 0 0 L0.length L0.length), some (vs 1 0 L1.length L1.length), some (vi (((v2 + 1) : Nat) : Int))]) (bl := [some (.cells (rowV E_iiii L0) 35), some (.cells (rowV E_iiii L1) 35)]) (ob := [((IntKind.i64.wrap ((v2 : Int) + (1 : Int))) == (((v2 + 1) : Nat) : Int), true), ((!(((L0.getD v2 R_iiii.z).a0 == (L1.getD v2 R_iiii.z).a0) && (((L0.getD v2 R_iiii.z).a1 == (L1.getD v2 R_iiii.z).a1) && (((L0.getD v2 R_iiii.z).a2 == (L1.getD v2 R_iiii.z).a2) && (((L0.getD v2 R_iiii.z).a3 == (L1.getD v2 R_iiii.z).a3) && true))))), false), (sameR (takeN 4 (List.drop (0 + (v2 * 4)) (rowV E_iiii L1))) [.i (L1.getD v2 R_iiii.z).a0, .i (L1.getD v2 R_iiii.z).a1, .i (L1.getD v2 R_iiii.z).a2, .i (L1.getD v2 R_iiii.z).a3], true), (Nat.blt v2 L1.length, true), ((v2 : Int) == Int.ofNat v2, true), (sameR (takeN 4 (List.drop (0 + (v2 * 4)) (rowV E_iiii L0))) [.i (L0.getD v2 R_iiii.z).a0, .i (L0.getD v2 R_iiii.z).a1, .i (L0.getD v2 R_iiii.z).a2, .i (L0.getD v2 R_iiii.z).a3], true), (Nat.blt v2 L0.length, true), ((v2 : Int) == Int.ofNat v2, true), ((decide ((v2 : Int) < ((L0.length : Nat) : Int))), true)]) rfl (show 1 ∈ rids (ref11_Same_5K 1) from by decide +kernel) (fun gv => by kernel_rfl) (obs_cons (beq_iff_eq.2 ((wrap_i64 ltA).trans (by first | rfl | omega))) <| obs_cons (by rw [Bool.not_eq_false']; first | (simp only [beq_self_eq_true, Bool.and_self]; done) | (simp only [Bool.and_true, Bool.and_eq_true, beq_iff_eq] <;> first | omega | (simp_all; done))) <| obs_cons (rowV_load (E := E_iiii) (L := L1) (i := v2) (q := 0) (by omega) (show (0 + (v2 * 4)) = v2 * 4 + 0 from by omega) (show 0 + 4 ≤ 4 from by decide) rfl rfl) <| oB <| oI <| obs_cons (rowV_load (E := E_iiii) (L := L0) (i := v2) (q := 0) (by omega) (show (0 + (v2 * 4)) = v2 * 4 + 0 from by omega) (show 0 + 4 ≤ 4 from by decide) rfl rfl) <| oB <| oI <| oY obs_nil) rfl (by decide) (by rfl) (fun _ => ⟨rr, ⟨rr, ⟨rr, trivial⟩⟩⟩) ⟨(same_row (E := E_iiii) (α := R_iiii) _ L0 _), ⟨(same_row (E := E_iiii) (α := R_iiii) _ L1 _), trivial⟩⟩
    ·
     exact Mach.ok_none
  ·
   exact Mach.ok_none
 ·
  exact Mach.ok_fin (M := ref11_Same_5M L0 L1 N) (cd := 1000000) (cm := 0) (r := (.r0 (true) : ref11_Same_5R)) (fu := 4000) (orc := (orcw [(0, false)] [] [] [] [])) (live := [0, 1]) (u := vT) (bl := [some (.cells (rowV E_iiii L0) 35), some (.cells (rowV E_iiii L1) 35)]) (ob := [((decide ((v2 : Int) < ((L0.length : Nat) : Int))), false)]) (fun gv => by kernel_rfl) (oN obs_nil) rfl (by decide) (by rfl) rr ⟨(same_row (E := E_iiii) (α := R_iiii) _ L0 _), ⟨(same_row (E := E_iiii) (α := R_iiii) _ L1 _), trivial⟩⟩

theorem ref11_Same_5_en (L0 L1 : List R_iiii) (N : Nat) : (ref11_Same_5M L0 L1 N).Enter Try.prog ext_Pl #[vs 0 0 L0.length L0.length, vs 1 0 L1.length L1.length] (ref11_Same_5In L0 L1 N) := by
 unfold ref11_Same_5In
 refine Mach.en_ite (fun g0 => ?_) (fun g0 => ?_)
 ·
  exact Mach.en_fin (M := ref11_Same_5M L0 L1 N) (cd := 1000000) (cm := 0) (r := (.r0 (false) : ref11_Same_5R)) (fu := 4000) (orc := (orcw [(0, true)] [] [] [] [])) (live := [0, 1]) (u := vf) (bl := [some (.cells (rowV E_iiii L0) 35), some (.cells (rowV E_iiii L1) 35)]) (ob := [((((L0.length : Nat) : Int) != ((L1.length : Nat) : Int)), true)]) (by kernel_rfl) (oD obs_nil) rfl (by decide) (by rfl) rr ⟨(same_row (E := E_iiii) (α := R_iiii) _ L0 _), ⟨(same_row (E := E_iiii) (α := R_iiii) _ L1 _), trivial⟩⟩
 ·
  exact Mach.en_head (bK := ref11_Same_5C 1) (M := ref11_Same_5M L0 L1 N) (cd := 1000000) (cm := 0) (y := (.h1m0 (0) : ref11_Same_5X)) (fu := 4000) (orc := (orcw [(0, false)] [] [] [] [])) (live := [0, 1]) (tv := [some (vs 0 0 L0.length L0.length), some (vs 1 0 L1.length L1.length), some (vq)]) (bl := [some (.cells (rowV E_iiii L0) 35), some (.cells (rowV E_iiii L1) 35)]) (ob := [((((L0.length : Nat) : Int) != ((L1.length : Nat) : Int)), false)]) rfl rfl (show rids (ref11_Same_5C 1).2 = [] from rfl) (by kernel_rfl) (oE obs_nil) rfl (by decide) (by rfl) ⟨rr, ⟨rr, ⟨⟨Eq.trans (show (vi ((0 : Nat) : Int) : Value) = vq from (congrArg (Value.int .i64) (by first | rfl | omega))) (by rfl), by rfl⟩, trivial⟩⟩⟩ ⟨(same_row (E := E_iiii) (α := R_iiii) _ L0 _), ⟨(same_row (E := E_iiii) (α := R_iiii) _ L1 _), trivial⟩⟩

theorem ref11_Same_5_spec (L0 L1 : List R_iiii) (N : Nat) (r : ref11_Same_5R) (h : ref11_Same_5 L0 L1 N = some r) : LSpec Try.prog 8 #[vs 0 0 L0.length L0.length, vs 1 0 L1.length L1.length] [.cells (rowV E_iiii L0) 35, .cells (rowV E_iiii L1) 35] (ref11_Same_5V L0 L1 r) (ref11_Same_5Po L0 L1 r) :=
 Mach.spec fit_Pl (ref11_Same_5M L0 L1 N) Try.func8 (by kernel_rfl) (by kernel_rfl) (fun x => by cases x <;> exact le_far _ rfl) (fun r => by cases r <;> exact le_far _ rfl) (fun x => by
  cases x with
  | h1m0 _ => exact fun _ => (show ¬ (1 ∈ rids (ref11_Same_5C 1).2) from by decide +kernel)
  ) (fun x => (show (ref11_Same_5M L0 L1 N).Ok Try.prog ext_Pl x (ref11_Same_5Step L0 L1 N x) from by
  cases x with
  | h1m0 v2 => exact ref11_Same_5_ok1_0 L0 L1 v2 N
  )) (ref11_Same_5_en L0 L1 N) (n := N) h

noncomputable def ref11_Same_5T0 (L0 L1 : List R_iiii) (w2 : Bool) (k0 k1 n : Nat) : Told := .call [(k0, .cells (rowV E_iiii L0) 35), (k1, .cells (rowV E_iiii L1) 35)] (Value.bool w2) [] 0
def ref11_Same_5P0 (A : Array Value) (L0 L1 : List R_iiii) (w2 : Bool) (k0 k1 n : Nat) : Prop := CallSpec Try.prog 8 A [(k0, .cells (rowV E_iiii L0) 35), (k1, .cells (rowV E_iiii L1) 35)] (Value.bool w2) [] n 0

theorem ref11_Same_5C0 (A : Array Value) (L0 L1 : List R_iiii) (w2 : Bool) (N : Nat) (h : ref11_Same_5 L0 L1 N = some (.r0 w2)) (k0 k1 n : Nat) (hA : A = #[vs k0 0 L0.length L0.length, vs k1 0 L1.length L1.length]) (hnd : ([k0, k1] : List Nat).Nodup) (hlt : ∀ k ∈ ([k0, k1] : List Nat), k < n) : ref11_Same_5P0 A L0 L1 w2 k0 k1 n :=
 cs_args hA (LSpec.callL (show LSpec Try.prog 8 #[vs 0 0 L0.length L0.length, vs 1 0 L1.length L1.length] [.cells (rowV E_iiii L0) 35, .cells (rowV E_iiii L1) 35] (Value.bool w2) [some (.cells (rowV E_iiii L0) 35), some (.cells (rowV E_iiii L1) 35)] from ref11_Same_5_spec L0 L1 N _ h) [k0, k1] n [] rfl hnd hlt (show 2 ≤ 2 from by decide) (show ∀ j ∈ ([] : List Nat), j < 2 from by decide) (by rfl) ⟨(under_row _ _ _), ⟨(under_row _ _ _), trivial⟩⟩ (by rfl) ⟨(under_row _ _ _), ⟨(under_row _ _ _), trivial⟩⟩ ⟨.inr rfl, ⟨.inr rfl, trivial⟩⟩ rfl rfl rfl (cons_eq (pair_eq rfl (renO_row _ _ _)) (cons_eq (pair_eq rfl (renO_row _ _ _)) rfl)) rfl)

noncomputable def law11_ProgLinksV (o0 : Nat) (L1 : List R_iiii) (n2 n3 o4 : Nat) (L5 : List R_iiii) (n6 n7 o8 : Nat) (L9 : List R_iiii) (n10 n11 : Nat) (O0 O1 O2 : Obj) : law11_ProgLinksR → Value
 | .r0 w6 => Value.bool w6
noncomputable def law11_ProgLinksPo (o0 : Nat) (L1 : List R_iiii) (n2 n3 o4 : Nat) (L5 : List R_iiii) (n6 n7 o8 : Nat) (L9 : List R_iiii) (n10 n11 : Nat) (O0 O1 O2 : Obj) : law11_ProgLinksR → List (Option AObj)
 | .r0 w6 => [some (.ro O0), some (.ro O1), some (.ro O2)]

end Ev
end Go.Proofs.Ytahjcmhiifkniaa
