/- Paths of a law, by the runner. -/
import Derived.Test.YtiiemakdpibncaaFlat
namespace Go.Proofs.Ytiiemakdpibncaa
open Go.ChangeShapes Go.WideShapes Go.ChangeAt Go.RowKit
namespace Ev
set_option maxRecDepth 100000
/-- The page's example is known. -/
def spA : FuncId → Option (List Value → Option Value) := fun f => bif Nat.beq f 16 then some (fun l => match l with | [] => some (.bool true) | _ => none) else none
theorem awake_true (w : World) : Calls Try.prog 16 #[] w (Ret (.bool true) w) := ret_of 20000 w (by kernel_rfl) rfl
theorem knownA : Known spA := fun f g h => by
  unfold spA at h
  cases hb : Nat.beq f 16 with
  | false => rw [hb] at h; simp at h
  | true =>
    rw [hb] at h
    obtain rfl := Nat.eq_of_beq_eq_true hb
    simp only [cond_true, Option.some.injEq] at h
    subst h
    refine ⟨⟨_, _, Try.func16, rfl⟩, fun args v ha hv w => ?_⟩
    obtain ⟨l⟩ := args
    cases l with
    | nil =>
      change some (Value.bool true) = some v at hv
      injection hv with hv
      subst hv
      exact awake_true w
    | cons x l => change (none : Option Value) = some v at hv; cases hv
def nms : List ByteArray := [("const".toUTF8), ("nil".toUTF8), ("move".toUTF8), ("add".toUTF8), ("sub".toUTF8), ("less".toUTF8), ("eq".toUTF8), ("jump".toUTF8), ("jumpz".toUTF8), ("root".toUTF8), ("new".toUTF8), ("free".toUTF8), ("get".toUTF8), ("set".toUTF8), ("begin".toUTF8), ("else".toUTF8), ("end".toUTF8), ("retry".toUTF8), ("emit".toUTF8), ("halt".toUTF8)]
def nm (op : Int) : ByteArray := bif decide (1 ≤ op) && decide (op ≤ 20) then nms.getD (op.toNat - 1) ⟨#[]⟩ else ⟨#[]⟩
theorem nm_out {op : Int} (h : op < 1 ∨ 20 < op) : nm op = ⟨#[]⟩ := by
  unfold nm
  rcases h with h | h
  · rw [decide_eq_false (show ¬ 1 ≤ op by omega)]; rfl
  · rw [decide_eq_false (show ¬ op ≤ 20 by omega), Bool.and_false]; rfl
theorem eqB {a b : ByteArray} (h : (a == b) = true) : a = b := by
  obtain ⟨⟨x⟩⟩ := a
  obtain ⟨⟨y⟩⟩ := b
  have e : ((⟨x⟩ : Array UInt8) == ⟨y⟩) = true := h
  have e2 : x = y := by simpa using e
  rw [e2]
def bn (s : ByteArray) : Int := bif nm 1 == s then 1 else bif nm 2 == s then 2 else bif nm 3 == s then 3 else bif nm 4 == s then 4 else bif nm 5 == s then 5 else bif nm 6 == s then 6 else bif nm 7 == s then 7 else bif nm 8 == s then 8 else bif nm 9 == s then 9 else bif nm 10 == s then 10 else bif nm 11 == s then 11 else bif nm 12 == s then 12 else bif nm 13 == s then 13 else bif nm 14 == s then 14 else bif nm 15 == s then 15 else bif nm 16 == s then 16 else bif nm 17 == s then 17 else bif nm 18 == s then 18 else bif nm 19 == s then 19 else bif nm 20 == s then 20 else 0
def bb (s : ByteArray) : Bool := !(bn s == 0)
def nameG : List Value → Option Value
  | [.int .i64 op] => some (.string (nm op))
  | _ => none
def byG : List Value → Option Value
  | [.string s] => some (.tuple #[.int .i64 (bn s), .bool (bb s)])
  | _ => none
theorem nameG_inv {args : Array Value} {v : Value} (h : nameG args.toList = some v) : ∃ op : Int, args = #[.int .i64 op] ∧ v = .string (nm op) := by
  obtain ⟨l⟩ := args
  change nameG l = some v at h
  unfold nameG at h
  split at h
  · injection h with h; exact ⟨_, rfl, h.symm⟩
  · cases h
theorem byG_inv {args : Array Value} {v : Value} (h : byG args.toList = some v) : ∃ s : ByteArray, args = #[.string s] ∧ v = .tuple #[.int .i64 (bn s), .bool (bb s)] := by
  obtain ⟨l⟩ := args
  change byG l = some v at h
  unfold byG at h
  split at h
  · injection h with h; exact ⟨_, rfl, h.symm⟩
  · cases h
theorem name0 (w : World) : Calls Try.prog 12 #[.int .i64 0] w (Ret (.string (nm 0)) w) := ret_of 5000 w (by kernel_rfl) rfl
theorem name1 (w : World) : Calls Try.prog 12 #[.int .i64 1] w (Ret (.string (nm 1)) w) := ret_of 5000 w (by kernel_rfl) rfl
theorem name2 (w : World) : Calls Try.prog 12 #[.int .i64 2] w (Ret (.string (nm 2)) w) := ret_of 5000 w (by kernel_rfl) rfl
theorem name3 (w : World) : Calls Try.prog 12 #[.int .i64 3] w (Ret (.string (nm 3)) w) := ret_of 5000 w (by kernel_rfl) rfl
theorem name4 (w : World) : Calls Try.prog 12 #[.int .i64 4] w (Ret (.string (nm 4)) w) := ret_of 5000 w (by kernel_rfl) rfl
theorem name5 (w : World) : Calls Try.prog 12 #[.int .i64 5] w (Ret (.string (nm 5)) w) := ret_of 5000 w (by kernel_rfl) rfl
theorem name6 (w : World) : Calls Try.prog 12 #[.int .i64 6] w (Ret (.string (nm 6)) w) := ret_of 5000 w (by kernel_rfl) rfl
theorem name7 (w : World) : Calls Try.prog 12 #[.int .i64 7] w (Ret (.string (nm 7)) w) := ret_of 5000 w (by kernel_rfl) rfl
theorem name8 (w : World) : Calls Try.prog 12 #[.int .i64 8] w (Ret (.string (nm 8)) w) := ret_of 5000 w (by kernel_rfl) rfl
theorem name9 (w : World) : Calls Try.prog 12 #[.int .i64 9] w (Ret (.string (nm 9)) w) := ret_of 5000 w (by kernel_rfl) rfl
theorem name10 (w : World) : Calls Try.prog 12 #[.int .i64 10] w (Ret (.string (nm 10)) w) := ret_of 5000 w (by kernel_rfl) rfl
theorem name11 (w : World) : Calls Try.prog 12 #[.int .i64 11] w (Ret (.string (nm 11)) w) := ret_of 5000 w (by kernel_rfl) rfl
theorem name12 (w : World) : Calls Try.prog 12 #[.int .i64 12] w (Ret (.string (nm 12)) w) := ret_of 5000 w (by kernel_rfl) rfl
theorem name13 (w : World) : Calls Try.prog 12 #[.int .i64 13] w (Ret (.string (nm 13)) w) := ret_of 5000 w (by kernel_rfl) rfl
theorem name14 (w : World) : Calls Try.prog 12 #[.int .i64 14] w (Ret (.string (nm 14)) w) := ret_of 5000 w (by kernel_rfl) rfl
theorem name15 (w : World) : Calls Try.prog 12 #[.int .i64 15] w (Ret (.string (nm 15)) w) := ret_of 5000 w (by kernel_rfl) rfl
theorem name16 (w : World) : Calls Try.prog 12 #[.int .i64 16] w (Ret (.string (nm 16)) w) := ret_of 5000 w (by kernel_rfl) rfl
theorem name17 (w : World) : Calls Try.prog 12 #[.int .i64 17] w (Ret (.string (nm 17)) w) := ret_of 5000 w (by kernel_rfl) rfl
theorem name18 (w : World) : Calls Try.prog 12 #[.int .i64 18] w (Ret (.string (nm 18)) w) := ret_of 5000 w (by kernel_rfl) rfl
theorem name19 (w : World) : Calls Try.prog 12 #[.int .i64 19] w (Ret (.string (nm 19)) w) := ret_of 5000 w (by kernel_rfl) rfl
theorem name20 (w : World) : Calls Try.prog 12 #[.int .i64 20] w (Ret (.string (nm 20)) w) := ret_of 5000 w (by kernel_rfl) rfl
theorem nameL (op : Int) (h : op < 0) (w : World) : Calls Try.prog 12 #[.int .i64 op] w (Ret (.string ⟨#[]⟩) w) := ret_rel 5000 (args := #[.int .i64 op]) (orc := orcs [(0, true)] []) (ob := [(decide (op < 0), true)]) w (by kernel_rfl) (obs_cons (decide_eq_true h) obs_nil) (VRs.of_free rfl)
theorem nameH (op : Int) (h : 20 < op) (w : World) : Calls Try.prog 12 #[.int .i64 op] w (Ret (.string ⟨#[]⟩) w) := ret_rel 5000 (args := #[.int .i64 op]) (orc := orcs [(0, false), (1, true)] []) (ob := [(decide (op ≥ 21), true), (decide (op < 0), false)]) w (by kernel_rfl) (obs_cons (decide_eq_true (by omega)) (obs_cons (decide_eq_false (by omega)) obs_nil)) (VRs.of_free rfl)
theorem name_all (op : Int) (w : World) : Calls Try.prog 12 #[.int .i64 op] w (Ret (.string (nm op)) w) := by
  by_cases hL : op < 0
  · rw [nm_out (.inl (by omega))]; exact nameL op hL w
  by_cases hH : 20 < op
  · rw [nm_out (.inr hH)]; exact nameH op hH w
  have hc : op = 0 ∨ op = 1 ∨ op = 2 ∨ op = 3 ∨ op = 4 ∨ op = 5 ∨ op = 6 ∨ op = 7 ∨ op = 8 ∨ op = 9 ∨ op = 10 ∨ op = 11 ∨ op = 12 ∨ op = 13 ∨ op = 14 ∨ op = 15 ∨ op = 16 ∨ op = 17 ∨ op = 18 ∨ op = 19 ∨ op = 20 := by omega
  rcases hc with rfl | rfl | rfl | rfl | rfl | rfl | rfl | rfl | rfl | rfl | rfl | rfl | rfl | rfl | rfl | rfl | rfl | rfl | rfl | rfl | rfl
  · exact name0 w
  · exact name1 w
  · exact name2 w
  · exact name3 w
  · exact name4 w
  · exact name5 w
  · exact name6 w
  · exact name7 w
  · exact name8 w
  · exact name9 w
  · exact name10 w
  · exact name11 w
  · exact name12 w
  · exact name13 w
  · exact name14 w
  · exact name15 w
  · exact name16 w
  · exact name17 w
  · exact name18 w
  · exact name19 w
  · exact name20 w
def spI : FuncId → Option (List Value → Option Value) := fun f => bif Nat.beq f 12 then some nameG else spA f
theorem knownI : Known spI := fun f g h => by
  unfold spI at h
  cases hb : Nat.beq f 12 with
  | true =>
    rw [hb] at h
    obtain rfl := Nat.eq_of_beq_eq_true hb
    simp only [cond_true, Option.some.injEq] at h
    subst h
    refine ⟨⟨_, _, Try.func12, rfl⟩, fun args v ha hv w => ?_⟩
    obtain ⟨op, rfl, rfl⟩ := nameG_inv hv
    exact name_all op w
  | false =>
    rw [hb] at h
    simp only [cond_false] at h
    exact knownA f g h
end Ev
end Go.Proofs.Ytiiemakdpibncaa
