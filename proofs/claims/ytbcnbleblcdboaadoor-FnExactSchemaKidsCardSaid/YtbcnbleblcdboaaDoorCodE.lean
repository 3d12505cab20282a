/- Own texts. -/
import Derived.Test.YtbcnbleblcdboaaDoorChecked
import Derived.Test.YtbcnbleblcdboaaDoorRows
import Derived.WalkKit
import Derived.LaidEql
import Derived.RowKitTokens
import Derived.Stop.LaidErr
import Derived.OpenShut
import Derived.JoinedOf
import Derived.Handed
import Derived.ProofKit
import Derived.Test.YtbcnbleblcdboaaDoorCards
import Derived.Test.YtbcnbleblcdboaaDoorTie
import Derived.LaidMore
import Derived.LaidOnce
import Derived.SevenTiedAt
import Derived.Test.YtbcnbleblcdboaaDoorCodD
set_option linter.all false
namespace Go.Cod
open Go Go.Proofs
variable [Adr]
instance lam0 : Lam := ⟨fun g => match g with
  | 0 => some (sentCells 95 0)
  | 1 => some (sentCells 95 1)
  | 2 => some (sentCells 95 2)
  | 3 => some (sentCells 95 3)
  | _ => none, fun g => Nat.beq g 999999, fun g => Nat.beq g 999999⟩

def tauL : List (Nat × TI) := [
  (1, ⟨.other, 1, 8, .raw .nilFunc, [], []⟩),
  (2, ⟨.int .i64, 1, 8, .int .i64 0, [], []⟩),
  (3, ⟨.int .i64, 1, 8, .int .i64 0, [], []⟩),
  (4, ⟨.bool, 1, 1, .bool false, [], []⟩),
  (5, ⟨.int .u8, 1, 1, .int .u8 0, [], []⟩),
  (6, ⟨.int .u8, 1, 1, .int .u8 0, [], []⟩),
  (7, ⟨.agg, 4, 24, .agg [.int .i64 0, .int .i64 0, .bool false, .int .u8 0], [(0, 1, false), (1, 1, false), (2, 1, false), (3, 1, false)], []⟩),
  (8, ⟨.agg, 4, 24, .agg [.int .i64 0, .int .i64 0, .bool false, .int .u8 0], [(0, 1, false), (1, 1, false), (2, 1, false), (3, 1, false)], []⟩),
  (9, ⟨.str, 1, 16, .str [], [], []⟩),
  (10, ⟨.str, 1, 16, .str [], [], []⟩),
  (11, ⟨.str, 1, 16, .str [], [], []⟩),
  (12, ⟨.int .u64, 1, 8, .int .u64 0, [], []⟩),
  (13, ⟨.agg, 2, 24, .agg [.str [], .int .u64 0], [(0, 1, false), (1, 1, false)], []⟩),
  (14, ⟨.agg, 2, 24, .agg [.str [], .int .u64 0], [(0, 1, false), (1, 1, false)], []⟩),
  (15, ⟨.ptr, 1, 8, .raw (.pointer none), [], []⟩),
  (16, ⟨.ptr, 1, 8, .raw (.pointer none), [], []⟩),
  (17, ⟨.ptr, 1, 8, .raw (.pointer none), [], []⟩),
  (18, ⟨.agg, 1, 8, .agg [.raw (.pointer none)], [(0, 1, false)], []⟩),
  (19, ⟨.agg, 1, 8, .agg [.raw (.pointer none)], [(0, 1, false)], []⟩),
  (20, ⟨.iface, 1, 16, .raw .nilIface, [], []⟩),
  (21, ⟨.int .i32, 1, 4, .int .i32 0, [], []⟩),
  (22, ⟨.slice 61, 1, 24, .nils, [], []⟩),
  (23, ⟨.agg, 2, 40, .agg [.str [], .nils], [(0, 1, false), (1, 1, false)], []⟩),
  (24, ⟨.agg, 2, 40, .agg [.str [], .nils], [(0, 1, false), (1, 1, false)], []⟩),
  (25, ⟨.other, 1, 8, .raw .nilFunc, [], []⟩),
  (26, ⟨.other, 1, 8, .raw .nilFunc, [], []⟩),
  (27, ⟨.slice 44, 1, 24, .nils, [], []⟩),
  (28, ⟨.agg, 2, 40, .agg [.str [], .nils], [(0, 1, false), (1, 1, false)], []⟩),
  (29, ⟨.agg, 2, 40, .agg [.str [], .nils], [(0, 1, false), (1, 1, false)], []⟩),
  (30, ⟨.other, 1, 8, .raw .nilFunc, [], []⟩),
  (31, ⟨.other, 1, 8, .raw .nilFunc, [], []⟩),
  (32, ⟨.other, 1, 8, .raw .nilFunc, [], []⟩),
  (33, ⟨.slice 9, 1, 24, .nils, [], []⟩),
  (34, ⟨.other, 1, 8, .raw .nilFunc, [], []⟩),
  (35, ⟨.other, 1, 8, .raw .nilFunc, [], []⟩),
  (36, ⟨.other, 1, 8, .raw .nilFunc, [], []⟩),
  (37, ⟨.other, 1, 8, .raw .nilFunc, [], []⟩),
  (38, ⟨.other, 1, 8, .raw .nilFunc, [], []⟩),
  (39, ⟨.other, 1, 8, .raw .nilFunc, [], []⟩),
  (40, ⟨.other, 1, 8, .raw .nilFunc, [], []⟩),
  (41, ⟨.other, 1, 8, .raw .nilFunc, [], []⟩),
  (42, ⟨.slice 47, 1, 24, .nils, [], []⟩),
  (43, ⟨.agg, 3, 48, .agg [.str [], .bool false, .nils], [(0, 1, false), (1, 1, false), (2, 1, false)], []⟩),
  (44, ⟨.agg, 3, 48, .agg [.str [], .bool false, .nils], [(0, 1, false), (1, 1, false), (2, 1, false)], []⟩),
  (45, ⟨.other, 1, 8, .raw .nilFunc, [], []⟩),
  (46, ⟨.agg, 3, 24, .agg [.str [], .bool false, .bool false], [(0, 1, false), (1, 1, false), (2, 1, false)], []⟩),
  (47, ⟨.agg, 3, 24, .agg [.str [], .bool false, .bool false], [(0, 1, false), (1, 1, false), (2, 1, false)], []⟩),
  (48, ⟨.other, 1, 8, .raw .nilFunc, [], []⟩),
  (49, ⟨.iface, 1, 16, .raw .nilIface, [], []⟩),
  (50, ⟨.iface, 1, 16, .raw .nilIface, [], []⟩),
  (51, ⟨.other, 1, 8, .raw .nilFunc, [], []⟩),
  (52, ⟨.other, 1, 8, .raw .nilFunc, [], []⟩),
  (53, ⟨.other, 1, 8, .raw .nilFunc, [], []⟩),
  (55, ⟨.other, 1, 8, .raw .nilFunc, [], []⟩),
  (56, ⟨.other, 1, 8, .raw .nilFunc, [], []⟩),
  (57, ⟨.other, 1, 8, .raw .nilFunc, [], []⟩),
  (58, ⟨.other, 1, 8, .raw .nilFunc, [], []⟩),
  (59, ⟨.slice 92, 1, 24, .nils, [], []⟩),
  (60, ⟨.agg, 3, 48, .agg [.str [], .bool false, .nils], [(0, 1, false), (1, 1, false), (2, 1, false)], []⟩),
  (61, ⟨.agg, 3, 48, .agg [.str [], .bool false, .nils], [(0, 1, false), (1, 1, false), (2, 1, false)], []⟩),
  (62, ⟨.other, 1, 8, .raw .nilFunc, [], []⟩),
  (63, ⟨.other, 1, 8, .raw .nilFunc, [], []⟩),
  (64, ⟨.other, 1, 8, .raw .nilFunc, [], []⟩),
  (65, ⟨.other, 1, 8, .raw .nilFunc, [], []⟩),
  (66, ⟨.iface, 1, 16, .raw .nilIface, [], []⟩),
  (67, ⟨.iface, 1, 16, .raw .nilIface, [], []⟩),
  (68, ⟨.other, 1, 8, .raw .nilFunc, [], []⟩),
  (69, ⟨.other, 1, 8, .raw .nilFunc, [], []⟩),
  (70, ⟨.other, 1, 8, .raw .nilFunc, [], []⟩),
  (71, ⟨.other, 1, 8, .raw .nilFunc, [], []⟩),
  (72, ⟨.other, 1, 8, .raw .nilFunc, [], []⟩),
  (73, ⟨.other, 1, 8, .raw .nilFunc, [], []⟩),
  (74, ⟨.other, 1, 8, .raw .nilFunc, [], []⟩),
  (75, ⟨.other, 1, 8, .raw .nilFunc, [], []⟩),
  (76, ⟨.other, 1, 8, .raw .nilFunc, [], []⟩),
  (77, ⟨.other, 1, 8, .raw .nilFunc, [], []⟩),
  (78, ⟨.other, 1, 8, .raw .nilFunc, [], []⟩),
  (79, ⟨.agg, 1, 8, .agg [.raw (.pointer none)], [(0, 1, false)], []⟩),
  (80, ⟨.agg, 1, 8, .agg [.raw (.pointer none)], [(0, 1, false)], []⟩),
  (81, ⟨.ptr, 1, 8, .raw (.pointer none), [], []⟩),
  (82, ⟨.iface, 1, 16, .raw .nilIface, [], []⟩),
  (84, ⟨.other, 1, 8, .raw .nilFunc, [], []⟩),
  (85, ⟨.iface, 1, 16, .raw .nilIface, [], []⟩),
  (86, ⟨.other, 1, 8, .raw .nilFunc, [], []⟩),
  (87, ⟨.iface, 1, 16, .raw .nilIface, [], []⟩),
  (88, ⟨.slice 50, 1, 24, .nils, [], []⟩),
  (89, ⟨.other, 1, 8, .raw .nilFunc, [], []⟩),
  (90, ⟨.other, 1, 8, .raw .nilFunc, [], []⟩),
  (91, ⟨.other, 1, 8, .raw .nilFunc, [], []⟩),
  (92, ⟨.agg, 3, 24, .agg [.str [], .bool false, .bool false], [(0, 1, false), (1, 1, false), (2, 1, false)], []⟩),
  (93, ⟨.other, 1, 8, .raw .nilFunc, [], []⟩),
  (94, ⟨.other, 1, 8, .raw .nilFunc, [], []⟩),
  (95, ⟨.ptr, 1, 8, .raw (.pointer none), [], []⟩),
  (96, ⟨.other, 1, 8, .raw .nilFunc, [], []⟩),
  (97, ⟨.agg, 4, 40, .agg [.raw (.pointer none), .raw (.pointer none), .raw (.pointer none), .str []], [(0, 1, false), (1, 1, false), (2, 1, false), (3, 1, false)], []⟩),
  (98, ⟨.agg, 4, 40, .agg [.raw (.pointer none), .raw (.pointer none), .raw (.pointer none), .str []], [(0, 1, false), (1, 1, false), (2, 1, false), (3, 1, false)], []⟩),
  (102, ⟨.other, 1, 8, .raw .nilFunc, [], []⟩),
  (103, ⟨.int .u32, 1, 4, .int .u32 0, [], []⟩),
  (104, ⟨.int .u8, 1, 1, .int .u8 0, [], []⟩),
  (105, ⟨.int .u8, 1, 1, .int .u8 0, [], []⟩),
  (106, ⟨.other, 1, 8, .raw .nilFunc, [], []⟩),
  (107, ⟨.ptr, 1, 8, .raw (.pointer none), [], []⟩),
  (108, ⟨.int .i32, 1, 4, .int .i32 0, [], []⟩),
  (109, ⟨.int .i32, 1, 4, .int .i32 0, [], []⟩),
  (110, ⟨.agg, 11, 48, .agg [.int .u64 0, .int .u64 0, .int .u32 0, .int .u8 0, .int .u8 0, .int .u8 0, .int .u8 0, .raw .nilFunc, .raw (.pointer none), .int .i32 0, .int .i32 0], [(0, 1, false), (1, 1, false), (2, 1, false), (3, 1, false), (4, 1, false), (5, 1, false), (6, 1, false), (7, 1, false), (8, 1, false), (9, 1, false), (10, 1, false)], []⟩),
  (111, ⟨.agg, 11, 48, .agg [.int .u64 0, .int .u64 0, .int .u32 0, .int .u8 0, .int .u8 0, .int .u8 0, .int .u8 0, .raw .nilFunc, .raw (.pointer none), .int .i32 0, .int .i32 0], [(0, 1, false), (1, 1, false), (2, 1, false), (3, 1, false), (4, 1, false), (5, 1, false), (6, 1, false), (7, 1, false), (8, 1, false), (9, 1, false), (10, 1, false)], []⟩),
  (112, ⟨.other, 1, 8, .raw .nilFunc, [], []⟩),
  (113, ⟨.other, 1, 8, .raw .nilFunc, [], []⟩),
  (114, ⟨.other, 1, 8, .raw .nilFunc, [], []⟩),
  (115, ⟨.other, 1, 8, .raw .nilFunc, [], []⟩),
  (116, ⟨.other, 1, 8, .raw .nilFunc, [], []⟩),
  (117, ⟨.other, 1, 8, .raw .nilFunc, [], []⟩),
  (118, ⟨.agg, 2, 24, .agg [.str [], .int .u8 0], [(0, 1, false), (1, 1, false)], []⟩),
  (119, ⟨.agg, 2, 24, .agg [.str [], .int .u8 0], [(0, 1, false), (1, 1, false)], []⟩),
  (120, ⟨.agg, 1, 16, .agg [.str []], [(0, 1, false)], []⟩),
  (121, ⟨.agg, 1, 16, .agg [.str []], [(0, 1, false)], []⟩),
  (123, ⟨.ptr, 1, 8, .raw (.pointer none), [], []⟩),
  (124, ⟨.other, 1, 8, .raw .nilFunc, [], []⟩),
  (125, ⟨.int .u16, 1, 2, .int .u16 0, [], []⟩),
  (126, ⟨.agg, 5, 16, .agg [.int .i32 0, .int .u16 0, .int .u16 0, .int .u32 0, .int .u32 0], [(0, 1, false), (1, 1, false), (2, 1, false), (3, 1, false), (4, 1, false)], []⟩),
  (127, ⟨.agg, 5, 16, .agg [.int .i32 0, .int .u16 0, .int .u16 0, .int .u32 0, .int .u32 0], [(0, 1, false), (1, 1, false), (2, 1, false), (3, 1, false), (4, 1, false)], []⟩),
  (128, ⟨.slice 131, 1, 24, .nils, [], []⟩),
  (129, ⟨.int .i32, 1, 4, .int .i32 0, [], []⟩),
  (130, ⟨.agg, 4, 16, .agg [.int .i32 0, .int .i32 0, .int .i32 0, .int .i32 0], [(0, 1, false), (1, 1, false), (2, 1, false), (3, 1, false)], []⟩),
  (131, ⟨.agg, 4, 16, .agg [.int .i32 0, .int .i32 0, .int .i32 0, .int .i32 0], [(0, 1, false), (1, 1, false), (2, 1, false), (3, 1, false)], []⟩),
  (132, ⟨.other, 1, 8, .raw .nilFunc, [], []⟩)]
theorem good : TauGood Tryd.prog (tauOf tauL) := tauGood (by kernel_rfl) (by kernel_rfl) (by decide)
end Go.Cod

set_option linter.all false
namespace Go.Cod
variable [Adr]
open Go Go.Proofs Go.ChangeShapes Go.RowKit
set_option maxRecDepth 100000

/-- What '(rtype).Comparable' is in the model. -/
def compM : Array Value → Sem Value := Extern.ReflectliteType.method fun t => do Extern.Rtype.noPackHeld "Comparable" t; pure (.bool (← typeInfo t).comparable)
/- errors.Is, of an error that a listed variable holds. -/
theorem is_same (a : Addr) (w : World) :
    Calls Tryd.prog 24 #[.iface 95 (.pointer (some a)), .iface 95 (.pointer (some a))] w fun e w' => e = .returned (.bool true) ∧ w' = w := by
  obtain ⟨i, hi, hcmp⟩ := Option.map_eq_some_iff.1 (show (Tryd.prog.info? 95).map (·.comparable) = some true by kernel_rfl)
  obtain ⟨j, hj, hjs⟩ := Option.map_eq_some_iff.1 (show (Tryd.prog.info? 121).map (·.size) = some 1 by kernel_rfl)
  have h8 := @run_callFunc_extern Tryd.prog 32 _ Extern.ReflectliteType.typeOf Tryd.func32 (by kernel_rfl) (by kernel_rfl) (by kernel_rfl) (by kernel_rfl)
  have h32 := @run_callFunc_extern Tryd.prog 67 _ compM Tryd.func67 (by kernel_rfl) (by kernel_rfl) (by kernel_rfl) (by kernel_rfl)
  have tT : ∀ (v : Value) (w : World), (Extern.ReflectliteType.typeOf #[.iface 95 v]).run Tryd.prog w = .ok (.iface 80 (.agg #[.pointer (some ⟨4, 95, none⟩)])) w := fun v w => by kernel_rfl
  have cT : ∀ (w : World), (compM #[.agg #[.pointer (some ⟨4, 95, none⟩)]]).run Tryd.prog w = .ok (.bool true) w := fun w => by kernel_rfl
  have mR : ∀ (v : Value) (w : World), (Go.method 233 80 v "Comparable").run Tryd.prog w = .ok (67, v) w := fun v w => by kernel_rfl
  have heq := run_eql_iface_ptr_same (P := Tryd.prog) w a Tryd.underlying50 Tryd.underlying95 hi hcmp hj
  go_enter Tryd.func24, Tryd.ntmps24
  go_wp2
  refine wp_loop_rounds 1 ?_
  rw [rounds_succ]
  go_wp2
  go_ret
  exact ⟨rfl, rfl⟩

theorem is_nil (b : Addr) (w : World) :
    Calls Tryd.prog 24 #[.nilIface, .iface 95 (.pointer (some b))] w fun e w' => e = .returned (.bool false) ∧ w' = w := by
  have hn := run_eql_iface_nil_left (P := Tryd.prog) w 95 (.pointer (some b)) Tryd.underlying50
  go_enter Tryd.func24, Tryd.ntmps24
  go_wp2
  go_ret
  exact ⟨rfl, rfl⟩

/-- An error that a variable holds. -/
abbrev errV (g : Nat) : V := .raw (.iface 95 (.pointer (some (Adr.a g))))
abbrev nilErr : V := .raw .nilIface
theorem repL_raw2 {Pr : Nat → Nat → Prop} {γ : List G} {w : World} {a b : Value} {cs : List Value} (h : RepL Pr γ w [.raw a, .raw b] cs) : cs = [a, b] := by
  have := h.1
  match cs, this with
  | [x, y], _ =>
    have h0 := h.2 0 _ _ rfl rfl
    have h1 := h.2 1 _ _ rfl rfl
    cases h0
    cases h1
    rfl
theorem errorsIs_same (g : Nat) : Pure Tryd.prog 24 [errV g, errV g] (· = .bool true) := by
  refine pure_of_still (r := .bool true) ⟨_, Tryd.func24, by kernel_rfl, by kernel_rfl⟩ rfl fun Pr γ w cs h => ?_
  obtain rfl := repL_raw2 h
  exact ⟨.bool true, fun _ => .bool true, is_same _ w⟩
theorem errorsIs_nil (g : Nat) : Pure Tryd.prog 24 [nilErr, errV g] (· = .bool false) := by
  refine pure_of_still (r := .bool false) ⟨_, Tryd.func24, by kernel_rfl, by kernel_rfl⟩ rfl fun Pr γ w cs h => ?_
  obtain rfl := repL_raw2 h
  exact ⟨.bool false, fun _ => .bool false, is_nil _ w⟩

omit [Adr] in
theorem star : "*" ++ "errors.errorString" = "*errors.errorString" := by decide
omit [Adr] in
theorem rowErr (u : TypeId) (h : Tryd.prog.typeName? 3 u = some "*errors.errorString") : u = 95 :=
  typeName_ptr_named (nm := "errors.errorString") (by rw [star]; kernel_rfl) (by kernel_rfl) (by decide) u (by rw [star]; exact h)
omit [Adr] in
/-- A listed error, the first of a list. -/
theorem laid_err {n : String} {text : List UInt8} {r : List (String × DataW Unit)} {W : World} {g : Nat} (h : laidMet Tryd.prog ((n, .iface "*errors.errorString" (.ptr (.agg [.lit (.string text)]))) :: r) W) (hg : Tryd.prog.globalNamed n = some g)
    (ht : (Tryd.prog.globals[g]?).map (·.type) = some 50) : (∃ a : Addr, W.cell? ⟨g, 0, none⟩ = some (.iface 95 (.pointer (some a))) ∧ g < W.heap.size) ∧ laidMet Tryd.prog r W := by
  obtain ⟨a, s, hv, _⟩ := laid_sentinel h hg ht Tryd.underlying50 rowErr Tryd.underlying95 Tryd.underlying121 rfl rfl Tryd.underlying9 (by kernel_rfl) (by kernel_rfl)
  exact ⟨⟨a, laid_cell hg hv⟩, h.tail⟩
omit [Adr] in
theorem globals_ok : ∀ (g : Nat) x, Tryd.prog.globals[g]? = some x → x.type < Tryd.prog.types.size := by
  intro g x h
  have h1 : (Tryd.prog.globals.toList.all fun x => decide (x.type < Tryd.prog.types.size)) = true := by kernel_rfl
  exact of_decide_eq_true (List.all_eq_true.1 h1 x (by simpa using Array.mem_of_getElem? h))
end Go.Cod

set_option linter.all false
namespace Go.Cod
variable [Adr]
open Go Go.Proofs Go.ChangeShapes Go.WideShapes Go.ChangeAt Go.RowKit
set_option maxRecDepth 10000

/- Schemas ys arguments. -/
theorem kids : Kids Tryd.prog (· < Tryd.prog.types.size) := kids_rows (by kernel_rfl) (by kernel_rfl)
theorem full : ∀ t e, t < Tryd.prog.types.size → Tryd.prog.underlying t = some (.slice e) → 0 < Tryd.prog.cellsOf e := slices_full_of Tryd.prog (by kernel_rfl)
/- Lists of structs. -/
def rws {α : Type} (c : α → List V) (ys : List α) : List (List V) := ys.map c
theorem rws_len {α : Type} (c : α → List V) (ys : List α) : (rws c ys).length = ys.length := by simp [rws]
theorem rws_get {α : Type} (c : α → List V) (ys : List α) (i : Nat) (h : i < ys.length) : (rws c ys)[i]? = some (c ys[i]) := by simp [rws, h]
theorem rws_take {α : Type} (c : α → List V) (ys : List α) (i : Nat) : (rws c ys).take i = rws c (ys.take i) := by simp [rws]
theorem rws_wid {α : Type} (c : α → List V) {k : Nat} (hk : ∀ a, (c a).length = k) (ys : List α) : ∀ r ∈ rws c ys, r.length = k := fun r hr => by
  obtain ⟨a, _, rfl⟩ := List.mem_map.1 hr
  exact hk a
def mixR {α : Type} (c : α → List V) (z : List V) (ys : List α) (i : Nat) : List (List V) := (rws c ys).take i ++ List.replicate (ys.length - i) z
theorem mixR_get {α : Type} (c : α → List V) (z : List V) (ys : List α) (i : Nat) (h : i < ys.length) : (mixR c z ys i)[i]? = some z := by
  unfold mixR
  rw [List.getElem?_append_right (by rw [List.length_take, rws_len]; omega), List.length_take, rws_len, Nat.min_eq_left (by omega), Nat.sub_self, List.getElem?_replicate, if_pos (by omega)]
theorem mixR_set {α : Type} (c : α → List V) (z : List V) (ys : List α) (i : Nat) (h : i < ys.length) : (mixR c z ys i).set i (c ys[i]) = mixR c z ys (i + 1) := by
  unfold mixR
  rw [List.set_append_right _ _ (by rw [List.length_take, rws_len]; omega), List.length_take, rws_len, Nat.min_eq_left (by omega), Nat.sub_self]
  rw [show ys.length - i = (ys.length - (i + 1)) + 1 by omega, List.replicate_succ, List.set_cons_zero, List.take_add_one, rws_get c ys i h]
  simp
theorem mixR_all {α : Type} (c : α → List V) (z : List V) (ys : List α) (i : Nat) (h : ys.length ≤ i) : mixR c z ys i = rws c ys := by
  unfold mixR
  rw [show ys.length - i = 0 by omega, List.take_of_length_le (by rw [rws_len]; omega)]
  simp
theorem mixR_none {α : Type} (c : α → List V) (z : List V) (ys : List α) : mixR c z ys 0 = List.replicate ys.length z := by simp [mixR]
def szL {α : Type} (f : α → Int → Int) : List α → Int → Int
  | [], l => l
  | a :: ys, l => if f a l < 0 then -1 else szL f ys (f a l)
def szLL {α : Type} (f : α → Int → Int) (ys : List α) (l : Int) : Int := if l - ys.length < 0 then -1 else szL f ys (l - ys.length)
theorem szL_drop {α : Type} (f : α → Int → Int) (ys : List α) (i : Nat) (h : i < ys.length) (l : Int) : szL f (ys.drop i) l = if f ys[i] l < 0 then -1 else szL f (ys.drop (i + 1)) (f ys[i] l) := by
  rw [List.drop_eq_getElem_cons h]; rfl
theorem szL_le {α : Type} {f : α → Int → Int} (hf : ∀ a l, 0 ≤ l → f a l ≤ l ∧ -1 ≤ f a l) : ∀ (ys : List α) (l : Int), 0 ≤ l → szL f ys l ≤ l ∧ -1 ≤ szL f ys l
  | [], l, h => by simp only [szL]; omega
  | a :: ys, l, h => by
    simp only [szL]
    have h1 := hf a l h
    split
    · omega
    · have := szL_le hf ys (f a l) (by omega); omega
theorem szLL_le {α : Type} {f : α → Int → Int} (hf : ∀ a l, 0 ≤ l → f a l ≤ l ∧ -1 ≤ f a l) (ys : List α) (l : Int) (h : 0 ≤ l) : szLL f ys l ≤ l ∧ -1 ≤ szLL f ys l := by
  unfold szLL
  split
  · omega
  · have := szL_le hf ys (l - ys.length) (by omega); omega
theorem szL_small {α : Type} {f : α → Int → Int} (hf : ∀ a l, 0 ≤ l → f a l ≤ l ∧ -1 ≤ f a l) : ∀ (ys : List α) (l : Int), 0 ≤ l → 0 ≤ szL f ys l → ∀ a ∈ ys, ∃ m, 0 ≤ m ∧ m ≤ l ∧ 0 ≤ f a m
  | [], _, _, _ => fun s h => (by cases h)
  | a :: ys, l, h0, h => by
    simp only [szL] at h
    split at h
    · omega
    rename_i hn
    have h1 := hf a l h0
    intro u hu
    rcases List.mem_cons.1 hu with rfl | hu
    · exact ⟨l, h0, by omega, by omega⟩
    · obtain ⟨m, a1, a2, a3⟩ := szL_small hf ys (f a l) (by omega) h u hu
      exact ⟨m, a1, by omega, a3⟩
theorem szLL_small {α : Type} {f : α → Int → Int} (hf : ∀ a l, 0 ≤ l → f a l ≤ l ∧ -1 ≤ f a l) (ys : List α) (l : Int) (h0 : 0 ≤ l) (h : 0 ≤ szLL f ys l) : (ys.length : Int) ≤ l ∧ ∀ a ∈ ys, ∃ m, 0 ≤ m ∧ m ≤ l ∧ 0 ≤ f a m := by
  unfold szLL at h
  split at h
  · omega
  refine ⟨by omega, fun a ha => ?_⟩
  obtain ⟨m, a1, a2, a3⟩ := szL_small hf ys _ (by omega) h a ha
  exact ⟨m, a1, by omega, a3⟩
theorem rws_of {α : Type} (c : α → List V) {p : α → Prop} : ∀ (es : List (List V)), (∀ r ∈ es, ∃ a, r = c a ∧ p a) → ∃ ys : List α, es = rws c ys ∧ ∀ a ∈ ys, p a
  | [], _ => ⟨[], rfl, fun s h => (by cases h)⟩
  | r :: rs, h => by
    obtain ⟨s, rfl, hs⟩ := h r (by simp)
    obtain ⟨ss, rfl, hl⟩ := rws_of c rs fun r hr => h r (List.mem_cons_of_mem _ hr)
    refine ⟨s :: ss, rfl, fun u hu => ?_⟩
    rcases List.mem_cons.1 hu with rfl | hu
    · exact hs
    · exact hl u hu

structure It where
  kind : List UInt8
  many : Bool
  may : Bool
  deriving DecidableEq
def It.cells (a : It) : List V := [.str a.kind, .bool a.many, .bool a.may]
structure Ru where
  kind : List UInt8
  text : Bool
  kids : List It
  deriving DecidableEq
def Ru.cells (a : Ru) : List V := [.str a.kind, .bool a.text, .sl (rws It.cells a.kids)]
structure Sc where
  root : List UInt8
  rules : List Ru
  deriving DecidableEq
def Sc.cells (a : Sc) : List V := [.str a.root, .sl (rws Ru.cells a.rules)]
def It.Ok (a : It) : Prop := a.kind.length ≤ maxLen
def Ru.Ok (a : Ru) : Prop := a.kind.length ≤ maxLen ∧ a.kids.length ≤ maxLen ∧ ∀ x ∈ a.kids, x.Ok
def Sc.Ok (a : Sc) : Prop := a.root.length ≤ maxLen ∧ a.rules.length ≤ maxLen ∧ ∀ x ∈ a.rules, x.Ok
theorem It.len (a : It) : a.cells.length = 3 := rfl
theorem Ru.len (a : Ru) : a.cells.length = 3 := rfl

theorem reads_item {H : Type} {enc : TypeId × Value → H} {w : World} (n : Nat) : Reads enc Tryd.prog w n 92 fun vs => ∃ a : It, vs = a.cells ∧ a.Ok := by
  have hS := reads_struct (enc := enc) (P := Tryd.prog) (w := w) (n := n) (t := 92)
    (Ss := [fun vs => ∃ s, vs = [.str s] ∧ s.length ≤ maxLen, fun vs => ∃ b, vs = [.bool b], fun vs => ∃ b, vs = [.bool b]])
    kids (by decide +kernel) Tryd.underlying92 rfl ?_
  · intro cs x h
    obtain ⟨vs, ⟨_, _, rfl, ⟨s, rfl, hs⟩, _, _, rfl, ⟨b, rfl⟩, _, _, rfl, ⟨d, rfl⟩, rfl⟩, h2⟩ := hS cs x h
    exact ⟨_, ⟨⟨s, b, d⟩, by simp [It.cells], hs⟩, h2⟩
  · intro m hm j f S h1 h2
    match j with
    | 0 => simp at h1 h2; subst h1 h2; exact reads_str Tryd.underlying9
    | 1 => obtain rfl := Option.some.inj h1; obtain rfl := Option.some.inj h2; exact reads_bool Tryd.underlying4
    | 2 => obtain rfl := Option.some.inj h1; obtain rfl := Option.some.inj h2; exact reads_bool Tryd.underlying4
    | j + 3 => simp at h1
theorem reads_rule {H : Type} {enc : TypeId × Value → H} {w : World} (n : Nat) : Reads enc Tryd.prog w n 61 fun vs => ∃ a : Ru, vs = a.cells ∧ a.Ok := by
  have hS := reads_struct (enc := enc) (P := Tryd.prog) (w := w) (n := n) (t := 61)
    (Ss := [fun vs => ∃ s, vs = [.str s] ∧ s.length ≤ maxLen, fun vs => ∃ b, vs = [.bool b],
      fun vs => ∃ es, vs = [.sl es] ∧ es.length ≤ maxLen ∧ ∀ r ∈ es, (∃ a : It, r = a.cells ∧ a.Ok) ∧ r.length = Tryd.prog.cellsOf 92 ∧ (∀ v ∈ r, v.leaf = true) ∧ V.clean.cleanL 0 r = true])
    kids (by decide +kernel) Tryd.underlying61 rfl ?_
  · intro cs x h
    obtain ⟨vs, ⟨_, _, rfl, ⟨s, rfl, hs⟩, _, _, rfl, ⟨b, rfl⟩, _, _, rfl, ⟨es, rfl, hel, her⟩, rfl⟩, h2⟩ := hS cs x h
    obtain ⟨ys, rfl, has⟩ := rws_of It.cells es fun r hr => (her r hr).1
    exact ⟨_, ⟨⟨s, b, ys⟩, by simp [Ru.cells], hs, by rw [rws_len] at hel; exact hel, has⟩, h2⟩
  · intro m hm j f S h1 h2
    match j with
    | 0 => simp at h1 h2; subst h1 h2; exact reads_str Tryd.underlying9
    | 1 => obtain rfl := Option.some.inj h1; obtain rfl := Option.some.inj h2; exact reads_bool Tryd.underlying4
    | 2 => simp at h1 h2; subst h1 h2; exact reads_slice Tryd.underlying59 (by decide +kernel) fun m _ => reads_item m
    | j + 3 => simp at h1
theorem reads_schema {H : Type} {enc : TypeId × Value → H} {w : World} (n : Nat) : Reads enc Tryd.prog w n 24 fun vs => ∃ a : Sc, vs = a.cells ∧ a.Ok := by
  have hS := reads_struct (enc := enc) (P := Tryd.prog) (w := w) (n := n) (t := 24)
    (Ss := [fun vs => ∃ s, vs = [.str s] ∧ s.length ≤ maxLen,
      fun vs => ∃ es, vs = [.sl es] ∧ es.length ≤ maxLen ∧ ∀ r ∈ es, (∃ a : Ru, r = a.cells ∧ a.Ok) ∧ r.length = Tryd.prog.cellsOf 61 ∧ (∀ v ∈ r, v.leaf = true) ∧ V.clean.cleanL 0 r = true])
    kids (by decide +kernel) Tryd.underlying24 rfl ?_
  · intro cs x h
    obtain ⟨vs, ⟨_, _, rfl, ⟨s, rfl, hs⟩, _, _, rfl, ⟨es, rfl, hel, her⟩, rfl⟩, h2⟩ := hS cs x h
    obtain ⟨ys, rfl, has⟩ := rws_of Ru.cells es fun r hr => (her r hr).1
    exact ⟨_, ⟨⟨s, ys⟩, by simp [Sc.cells], hs, by rw [rws_len] at hel; exact hel, has⟩, h2⟩
  · intro m hm j f S h1 h2
    match j with
    | 0 => simp at h1 h2; subst h1 h2; exact reads_str Tryd.underlying9
    | 1 => simp at h1 h2; subst h1 h2; exact reads_slice Tryd.underlying22 (by decide +kernel) fun m _ => reads_rule m
    | j + 2 => simp at h1
theorem argSchema {H : Type} {enc : TypeId × Value → H} {W : World} : ReadsA enc Tryd.prog W 24 fun x => ∃ vs, x = .agg vs ∧ ∃ c : Sc, vs = c.cells ∧ c.Ok := readsA_agg Tryd.underlying24 fun n => reads_schema n
theorem argStrs {H : Type} {enc : TypeId × Value → H} {W : World} : ReadsA enc Tryd.prog W 33 fun x => ∃ ss : List (List UInt8), [x] = [.sl (rws (fun s => [.str s]) ss)] ∧ ss.length ≤ maxLen ∧ ∀ s ∈ ss, s.length ≤ maxLen := by
  refine readsA_slice (S := fun xs => ∃ ss : List (List UInt8), xs = [.sl (rws (fun s => [.str s]) ss)] ∧ ss.length ≤ maxLen ∧ ∀ s ∈ ss, s.length ≤ maxLen) Tryd.underlying33 fun n cs x h => ?_
  obtain ⟨vs, ⟨es, rfl, hel, her⟩, h2⟩ := reads_slice (n := n) (enc := enc) (w := W) Tryd.underlying33 (by decide +kernel) (fun m _ => reads_str Tryd.underlying9) cs x h
  obtain ⟨ys, rfl, has⟩ := rws_of (fun s => [V.str s]) (p := fun s => s.length ≤ maxLen) es fun r hr => (her r hr).1
  exact ⟨_, ⟨ys, rfl, by rw [rws_len] at hel; exact hel, has⟩, h2⟩
end Go.Cod

set_option linter.all false
namespace Go.Cod
variable [Adr]
open Go Go.Proofs
set_option maxRecDepth 10000

abbrev sCells : List UInt8 → List V := fun s => [.str s]
def szStr (s : List UInt8) (l : Int) : Int := if l - s.length < 0 then -1 else l - s.length
def szIt (a : It) (l : Int) : Int := szStr a.kind l
def szRu (a : Ru) (l : Int) : Int := if szStr a.kind l < 0 then -1 else szLL szIt a.kids (szStr a.kind l)
def szSc (a : Sc) (l : Int) : Int := if szStr a.root l < 0 then -1 else szLL szRu a.rules (szStr a.root l)
theorem szStr_le (s : List UInt8) (l : Int) (h : 0 ≤ l) : szStr s l ≤ l ∧ -1 ≤ szStr s l := by
  unfold szStr
  split <;> omega
theorem szStr_small (s : List UInt8) (l : Int) (h : 0 ≤ szStr s l) : (s.length : Int) ≤ l := by
  unfold szStr at h
  split at h <;> omega
theorem szIt_le (a : It) (l : Int) (h : 0 ≤ l) : szIt a l ≤ l ∧ -1 ≤ szIt a l := szStr_le a.kind l h
theorem szRu_le (a : Ru) (l : Int) (h : 0 ≤ l) : szRu a l ≤ l ∧ -1 ≤ szRu a l := by
  unfold szRu
  have h1 := szStr_le a.kind l h
  split
  · omega
  · have := szLL_le szIt_le a.kids _ (show 0 ≤ szStr a.kind l by omega); omega
theorem szSc_le (a : Sc) (l : Int) (h : 0 ≤ l) : szSc a l ≤ l ∧ -1 ≤ szSc a l := by
  unfold szSc
  have h1 := szStr_le a.root l h
  split
  · omega
  · have := szLL_le szRu_le a.rules _ (show 0 ≤ szStr a.root l by omega); omega
def It.Sm (a : It) : Prop := a.kind.length ≤ 1048576
def Ru.Sm (a : Ru) : Prop := a.kind.length ≤ 1048576 ∧ a.kids.length ≤ 1048576 ∧ ∀ x ∈ a.kids, x.Sm
def Sc.Sm (a : Sc) : Prop := a.root.length ≤ 1048576 ∧ a.rules.length ≤ 1048576 ∧ ∀ x ∈ a.rules, x.Sm
theorem szRu_small (a : Ru) (l : Int) (h0 : 0 ≤ l) (hl : l ≤ 1048576) (h : 0 ≤ szRu a l) : a.Sm := by
  unfold szRu at h
  have h1 := szStr_le a.kind l h0
  split at h
  · omega
  rename_i hn
  have h2 := szStr_small a.kind l (by omega)
  obtain ⟨h3, h4⟩ := szLL_small szIt_le a.kids _ (by omega) h
  refine ⟨by omega, by omega, fun x hx => ?_⟩
  obtain ⟨m, a1, a2, a3⟩ := h4 x hx
  have := szStr_small x.kind m a3
  unfold It.Sm
  omega
theorem szSc_small (a : Sc) (l : Int) (h0 : 0 ≤ l) (hl : l ≤ 1048576) (h : 0 ≤ szSc a l) : a.Sm := by
  unfold szSc at h
  have h1 := szStr_le a.root l h0
  split at h
  · omega
  rename_i hn
  have h2 := szStr_small a.root l (by omega)
  obtain ⟨h3, h4⟩ := szLL_small szRu_le a.rules _ (by omega) h
  refine ⟨by omega, by omega, fun x hx => ?_⟩
  obtain ⟨m, a1, a2, a3⟩ := h4 x hx
  exact szRu_small x m a1 (by omega) a3
theorem szLL_str_small (ss : List (List UInt8)) (l : Int) (h0 : 0 ≤ l) (hl : l ≤ 1048576) (h : 0 ≤ szLL szStr ss l) : ss.length ≤ 1048576 ∧ ∀ s ∈ ss, s.length ≤ 1048576 := by
  obtain ⟨h3, h4⟩ := szLL_small szStr_le ss l h0 h
  refine ⟨by omega, fun x hx => ?_⟩
  obtain ⟨m, a1, a2, a3⟩ := h4 x hx
  have := szStr_small x m a3
  omega
theorem eqB_refl (a : Int) : eqB a a = true := eqB_t rfl
theorem eqS_refl (a : List UInt8) : eqS a a = true := eqS_t rfl
/- One thing. -/
theorem szItem_pure (a : It) (ha : a.Ok) (left : Int) (h0 : 0 ≤ left) (h1 : left ≤ 1048576) : Pure Tryd.prog 42 [.agg a.cells, .int .i64 left] (· = .int .i64 (szIt a left)) := by
  have hd : szIt a left = if left - a.kind.length < 0 then -1 else left - a.kind.length := rfl
  have hk : a.kind.length ≤ maxLen := ha
  simp only [maxLen] at hk
  generalize szIt a left = res at *
  obtain ⟨kind, many, may⟩ := a
  simp only [It.cells] at hk hd ⊢
  refine pure_of_awp good Tryd.func42 rfl (by kernel_rfl) (by decide) ?_
  conv => whnf
  rw [wrap64 (by omega) (by omega)]
  by_cases a1 : left - kind.length < 0
  · rw [ltB_t a1]
    conv => whnf
    rw [hd, if_pos a1]
  rw [ltB_f (by omega)]
  conv => whnf
  rw [hd, if_neg a1]
theorem toItem_pure (a : It) : Pure Tryd.prog 43 [.agg a.cells] (· = .agg a.cells) := by
  obtain ⟨kind, many, may⟩ := a
  simp only [It.cells]
  refine pure_of_awp good Tryd.func43 rfl (by kernel_rfl) (by decide) ?_
  conv => whnf
  rfl
theorem eqItem_pure (a : It) : Pure Tryd.prog 44 [.agg a.cells, .agg a.cells] (· = .bool true) := by
  obtain ⟨kind, many, may⟩ := a
  simp only [It.cells]
  refine pure_of_awp good Tryd.func44 rfl (by kernel_rfl) (by decide) ?_
  conv => whnf
  rw [eqS_refl]
  cases many <;> cases may <;> conv => whnf

set_option maxHeartbeats 4000000 in
theorem szItemS_pure (ys : List It) (hl : ys.length ≤ maxLen) (ho : ∀ s ∈ ys, s.Ok) (left : Int) (h0 : 0 ≤ left) (h1 : left ≤ 1048576) : Pure Tryd.prog 35 [.sl (rws It.cells ys), .int .i64 left] (· = .int .i64 (szLL szIt ys left)) := by
  have hlen := rws_len It.cells ys
  have hget := rws_get It.cells ys
  have hd : szLL szIt ys left = if left - ys.length < 0 then -1 else szL szIt (ys.drop 0) (left - ys.length) := rfl
  have hml : (ys.length : Int) ≤ 9223372036854775807 := by simp only [maxLen] at hl; omega
  generalize szLL szIt ys left = res at *
  generalize rws It.cells ys = rows at *
  refine pure_of_awp good Tryd.func35 rfl (by kernel_rfl) (by decide) ?_
  conv => whnf
  rw [hlen, wrap64 (by omega) (by omega)]
  by_cases a1 : left - ys.length < 0
  · rw [ltB_t a1]
    conv => whnf
    rw [hd, if_pos a1]
  rw [ltB_f (by omega)]
  conv => whnf
  rw [if_neg a1] at hd
  refine loop_intro (fun n fr st => ∃ (i : Nat) (l : Int), n + i = ys.length ∧ 0 ≤ l ∧ l ≤ 1048576 ∧ res = szL szIt (ys.drop i) l ∧ st = [] ∧ Holds fr [(0, .sl rows), (1, .int .i64 l), (5, .int .i64 i)]) ys.length
    ⟨0, _, rfl, by omega, by omega, hd, rfl, rfl, rfl, rfl, trivial⟩ ?_
  rintro n fr st ⟨i, l, hi, l0, l1, hr, rfl, hh⟩
  obtain ⟨fr, rfl⟩ := hh.split
  clear hh
  conv => whnf
  by_cases hlt : i < ys.length
  · rw [hlen, ltB_t (by omega)]
    have hg := hget i hlt
    have hs := szL_drop szIt ys i hlt l
    have hm := ho ys[i] (List.getElem_mem _)
    generalize ys[i] = s at *
    have hle := szIt_le s l l0
    have hc := szItem_pure s hm l l0 l1
    generalize szIt s l = v at *
    obtain ⟨kind, many, may⟩ := s
    simp only [It.cells] at hg hc
    conv => whnf
    refine ⟨by omega, rows, _, 3, rfl, hg, rfl, rfl, ?_⟩
    conv => whnf
    refine .inl (hc.mono ?_)
    rintro r rfl
    conv => whnf
    by_cases a2 : v < 0
    · rw [ltB_t a2]
      conv => whnf
      rw [hr, hs, if_pos a2]
    rw [ltB_f (by omega)]
    conv => whnf
    rw [if_neg a2] at hs
    refine ⟨n - 1, by omega, i + 1, v, by omega, by omega, by omega, hr.trans hs, rfl, rfl, rfl, ?_, trivial⟩
    show V.int .i64 (IntKind.i64.wrap (i + 1)) = _
    rw [wrap64 (by omega) (by omega)]; simp
  · rw [hlen, ltB_f (by omega)]
    conv => whnf
    rw [hr, List.drop_of_length_le (by omega)]
    rfl

set_option maxHeartbeats 4000000 in
theorem toItemS_pure (ys : List It) (hl : ys.length ≤ 1048576) : Pure Tryd.prog 36 [.sl (rws It.cells ys)] (· = .sl (rws It.cells ys)) := by
  have hlen := rws_len It.cells ys
  have hget := rws_get It.cells ys
  have hz := mixR_get It.cells [.str [], .bool false, .bool false] ys
  have hset := mixR_set It.cells [.str [], .bool false, .bool false] ys
  have hall := mixR_all It.cells [.str [], .bool false, .bool false] ys ys.length (Nat.le_refl _)
  have hini := mixR_none It.cells [.str [], .bool false, .bool false] ys
  refine pure_of_awp good Tryd.func36 rfl (by kernel_rfl) (by decide) ?_
  conv => whnf
  refine ⟨by omega, by omega, ?_⟩
  conv => whnf
  refine ⟨by show (Int.toNat _) * 24 ≤ _; omega, by omega, ?_⟩
  conv => whnf
  refine loop_drop (fun n fr st => ∃ i : Nat, n + i = ys.length ∧ st = [⟨mixR It.cells [.str [], .bool false, .bool false] ys i, 3, true, true, false, .cell⟩] ∧ Holds fr [(0, .sl (rws It.cells ys)), (3, .own 0), (4, .int .i64 i)]) ys.length none
    ⟨0, rfl, by rw [hini, ← hlen]; rfl, rfl, rfl, rfl, trivial⟩ ?_
  rintro n fr st ⟨i, hi, rfl, hh⟩
  obtain ⟨fr, rfl⟩ := hh.split
  clear hh
  conv => whnf
  by_cases hlt : i < ys.length
  · rw [ltB_t (by omega)]
    conv => whnf
    have hg := hget i hlt
    have hzi := hz i hlt
    have hsi := hset i hlt
    have hc := toItem_pure ys[i]
    generalize ys[i] = s at *
    obtain ⟨kind, many, may⟩ := s
    simp only [It.cells] at hg hc hsi
    refine ⟨by omega, _, _, 3, rfl, hg, rfl, rfl, ?_⟩
    conv => whnf
    refine .inl (hc.mono ?_)
    rintro r rfl
    conv => whnf
    refine ⟨by omega, _, _, 3, rfl, hzi, rfl, rfl, ?_⟩
    conv => whnf
    refine AtRow_intro _ hzi ?_
    conv => whnf
    refine ⟨n - 1, by omega, none, i + 1, by omega, ?_, rfl, rfl, ?_, trivial⟩
    · rw [← hsi]; rfl
    · show V.int .i64 (IntKind.i64.wrap (i + 1)) = _
      rw [wrap64 (by omega) (by omega)]; simp
  · rw [ltB_f (by omega)]
    have hil : i = ys.length := by omega
    subst hil
    rw [hall]
    conv => whnf

set_option maxHeartbeats 4000000 in
theorem eqItemS_pure (ys : List It) (hl : ys.length ≤ 1048576) : Pure Tryd.prog 39 [.sl (rws It.cells ys), .sl (rws It.cells ys)] (· = .bool true) := by
  have hlr := rws_len It.cells ys
  have hget := rws_get It.cells ys
  generalize rws It.cells ys = rows at *
  refine pure_of_awp good Tryd.func39 rfl (by kernel_rfl) (by decide) ?_
  conv => whnf
  rw [eqB_refl]
  conv => whnf
  refine loop_intro (fun n fr st => ∃ i : Nat, n + i = ys.length ∧ st = [] ∧ Holds fr [(0, .sl rows), (1, .sl rows), (5, .int .i64 i)]) ys.length
    ⟨0, rfl, rfl, rfl, rfl, rfl, trivial⟩ ?_
  rintro n fr st ⟨i, hi, rfl, hh⟩
  obtain ⟨fr, rfl⟩ := hh.split
  clear hh
  conv => whnf
  by_cases hlt : i < ys.length
  · rw [hlr, ltB_t (by omega)]
    conv => whnf
    have hg := hget i hlt
    have hc := eqItem_pure ys[i]
    generalize ys[i] = s at *
    obtain ⟨kind, many, may⟩ := s
    simp only [It.cells] at hg hc
    refine ⟨by omega, rows, _, 3, rfl, hg, rfl, rfl, ?_⟩
    conv => whnf
    refine ⟨by omega, rows, _, 3, rfl, hg, rfl, rfl, ?_⟩
    conv => whnf
    refine ⟨_, .inl hc, ?_⟩
    conv => whnf
    refine ⟨n - 1, by omega, i + 1, by omega, rfl, rfl, rfl, ?_, trivial⟩
    show V.int .i64 (IntKind.i64.wrap (i + 1)) = _
    rw [wrap64 (by omega) (by omega)]; simp
  · rw [hlr, ltB_f (by omega)]
    conv => whnf

theorem szRule_pure (a : Ru) (ha : a.Ok) (left : Int) (h0 : 0 ≤ left) (h1 : left ≤ 1048576) : Pure Tryd.prog 26 [.agg a.cells, .int .i64 left] (· = .int .i64 (szRu a left)) := by
  have hd : szRu a left = if (if left - a.kind.length < 0 then -1 else left - a.kind.length) < 0 then -1 else szLL szIt a.kids (if left - a.kind.length < 0 then -1 else left - a.kind.length) := rfl
  obtain ⟨hk, hn, hx⟩ := ha
  have hc := fun h1 h2 => szItemS_pure a.kids hn hx (left - a.kind.length) h1 h2
  have hle := fun h => szLL_le szIt_le a.kids (left - a.kind.length) h
  simp only [maxLen] at hk
  generalize szRu a left = res at *
  obtain ⟨kind, text, kids⟩ := a
  simp only [Ru.cells] at hk hd hc hle ⊢
  generalize rws It.cells kids = rows at *
  refine pure_of_awp good Tryd.func26 rfl (by kernel_rfl) (by decide) ?_
  conv => whnf
  rw [wrap64 (by omega) (by omega)]
  by_cases a1 : left - kind.length < 0
  · rw [ltB_t a1]
    conv => whnf
    rw [hd, if_pos a1]; rfl
  rw [ltB_f (by omega)]
  rw [if_neg a1, if_neg a1] at hd
  have hc := hc (by omega) (by omega)
  have hle := hle (by omega)
  generalize szLL szIt kids (left - kind.length) = v at *
  conv => whnf
  refine .inl (hc.mono ?_)
  rintro r rfl
  conv => whnf
  by_cases a2 : v < 0
  · rw [ltB_t a2]
    conv => whnf
    rw [hd, show v = -1 by omega]
  rw [ltB_f (by omega)]
  conv => whnf
  rw [hd]
theorem toRule_pure (a : Ru) (ha : a.Sm) : Pure Tryd.prog 27 [.agg a.cells] (· = .agg a.cells) := by
  obtain ⟨_, hn, hx⟩ := ha
  have hc := toItemS_pure a.kids hn
  obtain ⟨kind, text, kids⟩ := a
  simp only [Ru.cells] at hc ⊢
  generalize rws It.cells kids = rows at *
  refine pure_of_awp good Tryd.func27 rfl (by kernel_rfl) (by decide) ?_
  conv => whnf
  refine .inl (hc.mono ?_)
  rintro r rfl
  conv => whnf
  rfl
theorem eqRule_pure (a : Ru) (ha : a.Sm) : Pure Tryd.prog 31 [.agg a.cells, .agg a.cells] (· = .bool true) := by
  obtain ⟨_, hn, hx⟩ := ha
  have hc := eqItemS_pure a.kids hn
  obtain ⟨kind, text, kids⟩ := a
  simp only [Ru.cells] at hc ⊢
  generalize rws It.cells kids = rows at *
  refine pure_of_awp good Tryd.func31 rfl (by kernel_rfl) (by decide) ?_
  conv => whnf
  rw [eqS_refl]
  cases text
  all_goals (conv => whnf)
  all_goals (refine .inl (hc.mono ?_))
  all_goals (rintro r rfl)
  all_goals (conv => whnf)

set_option maxHeartbeats 4000000 in
theorem szRuleS_pure (ys : List Ru) (hl : ys.length ≤ maxLen) (ho : ∀ s ∈ ys, s.Ok) (left : Int) (h0 : 0 ≤ left) (h1 : left ≤ 1048576) : Pure Tryd.prog 15 [.sl (rws Ru.cells ys), .int .i64 left] (· = .int .i64 (szLL szRu ys left)) := by
  have hlen := rws_len Ru.cells ys
  have hget := rws_get Ru.cells ys
  have hd : szLL szRu ys left = if left - ys.length < 0 then -1 else szL szRu (ys.drop 0) (left - ys.length) := rfl
  have hml : (ys.length : Int) ≤ 9223372036854775807 := by simp only [maxLen] at hl; omega
  generalize szLL szRu ys left = res at *
  generalize rws Ru.cells ys = rows at *
  refine pure_of_awp good Tryd.func15 rfl (by kernel_rfl) (by decide) ?_
  conv => whnf
  rw [hlen, wrap64 (by omega) (by omega)]
  by_cases a1 : left - ys.length < 0
  · rw [ltB_t a1]
    conv => whnf
    rw [hd, if_pos a1]
  rw [ltB_f (by omega)]
  conv => whnf
  rw [if_neg a1] at hd
  refine loop_intro (fun n fr st => ∃ (i : Nat) (l : Int), n + i = ys.length ∧ 0 ≤ l ∧ l ≤ 1048576 ∧ res = szL szRu (ys.drop i) l ∧ st = [] ∧ Holds fr [(0, .sl rows), (1, .int .i64 l), (5, .int .i64 i)]) ys.length
    ⟨0, _, rfl, by omega, by omega, hd, rfl, rfl, rfl, rfl, trivial⟩ ?_
  rintro n fr st ⟨i, l, hi, l0, l1, hr, rfl, hh⟩
  obtain ⟨fr, rfl⟩ := hh.split
  clear hh
  conv => whnf
  by_cases hlt : i < ys.length
  · rw [hlen, ltB_t (by omega)]
    have hg := hget i hlt
    have hs := szL_drop szRu ys i hlt l
    have hm := ho ys[i] (List.getElem_mem _)
    generalize ys[i] = s at *
    have hle := szRu_le s l l0
    have hc := szRule_pure s hm l l0 l1
    generalize szRu s l = v at *
    obtain ⟨kind, text, kids⟩ := s
    simp only [Ru.cells] at hg hc
    conv => whnf
    refine ⟨by omega, rows, _, 3, rfl, hg, rfl, rfl, ?_⟩
    conv => whnf
    refine .inl (hc.mono ?_)
    rintro r rfl
    conv => whnf
    by_cases a2 : v < 0
    · rw [ltB_t a2]
      conv => whnf
      rw [hr, hs, if_pos a2]
    rw [ltB_f (by omega)]
    conv => whnf
    rw [if_neg a2] at hs
    refine ⟨n - 1, by omega, i + 1, v, by omega, by omega, by omega, hr.trans hs, rfl, rfl, rfl, ?_, trivial⟩
    show V.int .i64 (IntKind.i64.wrap (i + 1)) = _
    rw [wrap64 (by omega) (by omega)]; simp
  · rw [hlen, ltB_f (by omega)]
    conv => whnf
    rw [hr, List.drop_of_length_le (by omega)]
    rfl

set_option maxHeartbeats 4000000 in
theorem toRuleS_pure (ys : List Ru) (hl : ys.length ≤ 1048576) (hs : ∀ s ∈ ys, s.Sm) : Pure Tryd.prog 19 [.sl (rws Ru.cells ys)] (· = .sl (rws Ru.cells ys)) := by
  have hlen := rws_len Ru.cells ys
  have hget := rws_get Ru.cells ys
  have hz := mixR_get Ru.cells [.str [], .bool false, .nils] ys
  have hset := mixR_set Ru.cells [.str [], .bool false, .nils] ys
  have hall := mixR_all Ru.cells [.str [], .bool false, .nils] ys ys.length (Nat.le_refl _)
  have hini := mixR_none Ru.cells [.str [], .bool false, .nils] ys
  refine pure_of_awp good Tryd.func19 rfl (by kernel_rfl) (by decide) ?_
  conv => whnf
  refine ⟨by omega, by omega, ?_⟩
  conv => whnf
  refine ⟨by show (Int.toNat _) * 48 ≤ _; omega, by omega, ?_⟩
  conv => whnf
  refine loop_drop (fun n fr st => ∃ i : Nat, n + i = ys.length ∧ st = [⟨mixR Ru.cells [.str [], .bool false, .nils] ys i, 3, true, true, false, .cell⟩] ∧ Holds fr [(0, .sl (rws Ru.cells ys)), (3, .own 0), (4, .int .i64 i)]) ys.length none
    ⟨0, rfl, by rw [hini, ← hlen]; rfl, rfl, rfl, rfl, trivial⟩ ?_
  rintro n fr st ⟨i, hi, rfl, hh⟩
  obtain ⟨fr, rfl⟩ := hh.split
  clear hh
  conv => whnf
  by_cases hlt : i < ys.length
  · rw [ltB_t (by omega)]
    conv => whnf
    have hg := hget i hlt
    have hzi := hz i hlt
    have hsi := hset i hlt
    have hc := toRule_pure ys[i] (hs _ (List.getElem_mem _))
    generalize ys[i] = s at *
    obtain ⟨kind, text, kids⟩ := s
    simp only [Ru.cells] at hg hc hsi
    refine ⟨by omega, _, _, 3, rfl, hg, rfl, rfl, ?_⟩
    conv => whnf
    refine .inl (hc.mono ?_)
    rintro r rfl
    conv => whnf
    refine ⟨by omega, _, _, 3, rfl, hzi, rfl, rfl, ?_⟩
    conv => whnf
    refine AtRow_intro _ hzi ?_
    conv => whnf
    refine ⟨n - 1, by omega, none, i + 1, by omega, ?_, rfl, rfl, ?_, trivial⟩
    · rw [← hsi]; rfl
    · show V.int .i64 (IntKind.i64.wrap (i + 1)) = _
      rw [wrap64 (by omega) (by omega)]; simp
  · rw [ltB_f (by omega)]
    have hil : i = ys.length := by omega
    subst hil
    rw [hall]
    conv => whnf

set_option maxHeartbeats 4000000 in
theorem eqRuleS_pure (ys : List Ru) (hl : ys.length ≤ 1048576) (hs : ∀ s ∈ ys, s.Sm) : Pure Tryd.prog 21 [.sl (rws Ru.cells ys), .sl (rws Ru.cells ys)] (· = .bool true) := by
  have hlr := rws_len Ru.cells ys
  have hget := rws_get Ru.cells ys
  generalize rws Ru.cells ys = rows at *
  refine pure_of_awp good Tryd.func21 rfl (by kernel_rfl) (by decide) ?_
  conv => whnf
  rw [eqB_refl]
  conv => whnf
  refine loop_intro (fun n fr st => ∃ i : Nat, n + i = ys.length ∧ st = [] ∧ Holds fr [(0, .sl rows), (1, .sl rows), (5, .int .i64 i)]) ys.length
    ⟨0, rfl, rfl, rfl, rfl, rfl, trivial⟩ ?_
  rintro n fr st ⟨i, hi, rfl, hh⟩
  obtain ⟨fr, rfl⟩ := hh.split
  clear hh
  conv => whnf
  by_cases hlt : i < ys.length
  · rw [hlr, ltB_t (by omega)]
    conv => whnf
    have hg := hget i hlt
    have hc := eqRule_pure ys[i] (hs _ (List.getElem_mem _))
    generalize ys[i] = s at *
    obtain ⟨kind, text, kids⟩ := s
    simp only [Ru.cells] at hg hc
    refine ⟨by omega, rows, _, 3, rfl, hg, rfl, rfl, ?_⟩
    conv => whnf
    refine ⟨by omega, rows, _, 3, rfl, hg, rfl, rfl, ?_⟩
    conv => whnf
    refine ⟨_, .inl hc, ?_⟩
    conv => whnf
    refine ⟨n - 1, by omega, i + 1, by omega, rfl, rfl, rfl, ?_, trivial⟩
    show V.int .i64 (IntKind.i64.wrap (i + 1)) = _
    rw [wrap64 (by omega) (by omega)]; simp
  · rw [hlr, ltB_f (by omega)]
    conv => whnf

theorem szSchema_pure (a : Sc) (ha : a.Ok) (left : Int) (h0 : 0 ≤ left) (h1 : left ≤ 1048576) : Pure Tryd.prog 5 [.agg a.cells, .int .i64 left] (· = .int .i64 (szSc a left)) := by
  have hd : szSc a left = if (if left - a.root.length < 0 then -1 else left - a.root.length) < 0 then -1 else szLL szRu a.rules (if left - a.root.length < 0 then -1 else left - a.root.length) := rfl
  obtain ⟨hk, hn, hx⟩ := ha
  have hc := fun h1 h2 => szRuleS_pure a.rules hn hx (left - a.root.length) h1 h2
  have hle := fun h => szLL_le szRu_le a.rules (left - a.root.length) h
  simp only [maxLen] at hk
  generalize szSc a left = res at *
  obtain ⟨root, rules⟩ := a
  simp only [Sc.cells] at hk hd hc hle ⊢
  generalize rws Ru.cells rules = rows at *
  refine pure_of_awp good Tryd.func5 rfl (by kernel_rfl) (by decide) ?_
  conv => whnf
  rw [wrap64 (by omega) (by omega)]
  by_cases a1 : left - root.length < 0
  · rw [ltB_t a1]
    conv => whnf
    rw [hd, if_pos a1]; rfl
  rw [ltB_f (by omega)]
  rw [if_neg a1, if_neg a1] at hd
  have hc := hc (by omega) (by omega)
  have hle := hle (by omega)
  generalize szLL szRu rules (left - root.length) = v at *
  conv => whnf
  refine .inl (hc.mono ?_)
  rintro r rfl
  conv => whnf
  by_cases a2 : v < 0
  · rw [ltB_t a2]
    conv => whnf
    rw [hd, show v = -1 by omega]
  rw [ltB_f (by omega)]
  conv => whnf
  rw [hd]
theorem toSchema_pure (a : Sc) (ha : a.Sm) : Pure Tryd.prog 7 [.agg a.cells] (· = .agg a.cells) := by
  obtain ⟨_, hn, hx⟩ := ha
  have hc := toRuleS_pure a.rules hn hx
  obtain ⟨root, rules⟩ := a
  simp only [Sc.cells] at hc ⊢
  generalize rws Ru.cells rules = rows at *
  refine pure_of_awp good Tryd.func7 rfl (by kernel_rfl) (by decide) ?_
  conv => whnf
  refine .inl (hc.mono ?_)
  rintro r rfl
  conv => whnf
  rfl
theorem eqSchema_pure (a : Sc) (ha : a.Sm) : Pure Tryd.prog 9 [.agg a.cells, .agg a.cells] (· = .bool true) := by
  obtain ⟨_, hn, hx⟩ := ha
  have hc := eqRuleS_pure a.rules hn hx
  obtain ⟨root, rules⟩ := a
  simp only [Sc.cells] at hc ⊢
  generalize rws Ru.cells rules = rows at *
  refine pure_of_awp good Tryd.func9 rfl (by kernel_rfl) (by decide) ?_
  conv => whnf
  rw [eqS_refl]
  skip
  all_goals (conv => whnf)
  all_goals (refine .inl (hc.mono ?_))
  all_goals (rintro r rfl)
  all_goals (conv => whnf)

set_option maxHeartbeats 4000000 in
theorem szStringS_pure (ys : List (List UInt8)) (hl : ys.length ≤ maxLen) (ho : ∀ s ∈ ys, s.length ≤ maxLen) (left : Int) (h0 : 0 ≤ left) (h1 : left ≤ 1048576) : Pure Tryd.prog 10 [.sl (rws sCells ys), .int .i64 left] (· = .int .i64 (szLL szStr ys left)) := by
  have hlen := rws_len sCells ys
  have hget := rws_get sCells ys
  have hd : szLL szStr ys left = if left - ys.length < 0 then -1 else szL szStr (ys.drop 0) (left - ys.length) := rfl
  have hml : (ys.length : Int) ≤ 9223372036854775807 := by simp only [maxLen] at hl; omega
  generalize szLL szStr ys left = res at *
  generalize rws sCells ys = rows at *
  refine pure_of_awp good Tryd.func10 rfl (by kernel_rfl) (by decide) ?_
  conv => whnf
  rw [hlen, wrap64 (by omega) (by omega)]
  by_cases a1 : left - ys.length < 0
  · rw [ltB_t a1]
    conv => whnf
    rw [hd, if_pos a1]
  rw [ltB_f (by omega)]
  conv => whnf
  rw [if_neg a1] at hd
  refine loop_intro (fun n fr st => ∃ (i : Nat) (l : Int), n + i = ys.length ∧ 0 ≤ l ∧ l ≤ 1048576 ∧ res = szL szStr (ys.drop i) l ∧ st = [] ∧ Holds fr [(0, .sl rows), (1, .int .i64 l), (5, .int .i64 i)]) ys.length
    ⟨0, _, rfl, by omega, by omega, hd, rfl, rfl, rfl, rfl, trivial⟩ ?_
  rintro n fr st ⟨i, l, hi, l0, l1, hr, rfl, hh⟩
  obtain ⟨fr, rfl⟩ := hh.split
  clear hh
  conv => whnf
  by_cases hlt : i < ys.length
  · rw [hlen, ltB_t (by omega)]
    have hg := hget i hlt
    have hs := szL_drop szStr ys i hlt l
    have hm := ho ys[i] (List.getElem_mem _)
    generalize ys[i] = s at *
    have hv : szStr s l = if l - s.length < 0 then -1 else l - s.length := rfl
    simp only [maxLen] at hm
    conv => whnf
    refine ⟨by omega, rows, _, 1, rfl, hg, rfl, rfl, ?_⟩
    conv => whnf
    rw [wrap64 (by omega) (by omega)]
    by_cases a2 : l - s.length < 0
    · rw [ltB_t a2]
      conv => whnf
      rw [hr, hs, hv, if_pos a2]; rfl
    rw [ltB_f (by omega)]
    conv => whnf
    rw [if_neg a2] at hv
    rw [hv, if_neg a2] at hs
    refine ⟨n - 1, by omega, i + 1, l - s.length, by omega, by omega, by omega, hr.trans hs, rfl, rfl, rfl, ?_, trivial⟩
    show V.int .i64 (IntKind.i64.wrap (i + 1)) = _
    rw [wrap64 (by omega) (by omega)]; simp
  · rw [hlen, ltB_f (by omega)]
    conv => whnf
    rw [hr, List.drop_of_length_le (by omega)]
    rfl

set_option maxHeartbeats 4000000 in
theorem toStringS_pure (ys : List (List UInt8)) (hl : ys.length ≤ 1048576) : Pure Tryd.prog 12 [.sl (rws sCells ys)] (· = .sl (rws sCells ys)) := by
  have hlen := rws_len sCells ys
  have hget := rws_get sCells ys
  have hz := mixR_get sCells [.str []] ys
  have hset := mixR_set sCells [.str []] ys
  have hall := mixR_all sCells [.str []] ys ys.length (Nat.le_refl _)
  have hini := mixR_none sCells [.str []] ys
  refine pure_of_awp good Tryd.func12 rfl (by kernel_rfl) (by decide) ?_
  conv => whnf
  refine ⟨by omega, by omega, ?_⟩
  conv => whnf
  refine ⟨by show (Int.toNat _) * 16 ≤ _; omega, by omega, ?_⟩
  conv => whnf
  refine loop_drop (fun n fr st => ∃ i : Nat, n + i = ys.length ∧ st = [⟨mixR sCells [.str []] ys i, 1, true, true, false, .cell⟩] ∧ Holds fr [(0, .sl (rws sCells ys)), (3, .own 0), (4, .int .i64 i)]) ys.length none
    ⟨0, rfl, by rw [hini, ← hlen]; rfl, rfl, rfl, rfl, trivial⟩ ?_
  rintro n fr st ⟨i, hi, rfl, hh⟩
  obtain ⟨fr, rfl⟩ := hh.split
  clear hh
  conv => whnf
  by_cases hlt : i < ys.length
  · rw [ltB_t (by omega)]
    conv => whnf
    have hg := hget i hlt
    have hzi := hz i hlt
    have hsi := hset i hlt
    generalize ys[i] = s at *
    refine ⟨by omega, _, _, 1, rfl, hg, rfl, rfl, ?_⟩
    conv => whnf
    refine ⟨by omega, _, _, 1, rfl, hzi, rfl, rfl, ?_⟩
    conv => whnf
    refine AtRow_intro _ hzi ?_
    conv => whnf
    refine ⟨n - 1, by omega, none, i + 1, by omega, ?_, rfl, rfl, ?_, trivial⟩
    · rw [← hsi]; rfl
    · show V.int .i64 (IntKind.i64.wrap (i + 1)) = _
      rw [wrap64 (by omega) (by omega)]; simp
  · rw [ltB_f (by omega)]
    have hil : i = ys.length := by omega
    subst hil
    rw [hall]
    conv => whnf

set_option maxHeartbeats 4000000 in
theorem eqStringS_pure (ys : List (List UInt8)) (hl : ys.length ≤ 1048576) : Pure Tryd.prog 14 [.sl (rws sCells ys), .sl (rws sCells ys)] (· = .bool true) := by
  have hlr := rws_len sCells ys
  have hget := rws_get sCells ys
  generalize rws sCells ys = rows at *
  refine pure_of_awp good Tryd.func14 rfl (by kernel_rfl) (by decide) ?_
  conv => whnf
  rw [eqB_refl]
  conv => whnf
  refine loop_intro (fun n fr st => ∃ i : Nat, n + i = ys.length ∧ st = [] ∧ Holds fr [(0, .sl rows), (1, .sl rows), (5, .int .i64 i)]) ys.length
    ⟨0, rfl, rfl, rfl, rfl, rfl, trivial⟩ ?_
  rintro n fr st ⟨i, hi, rfl, hh⟩
  obtain ⟨fr, rfl⟩ := hh.split
  clear hh
  conv => whnf
  by_cases hlt : i < ys.length
  · rw [hlr, ltB_t (by omega)]
    conv => whnf
    have hg := hget i hlt
    generalize ys[i] = s at *
    refine ⟨by omega, rows, _, 1, rfl, hg, rfl, rfl, ?_⟩
    conv => whnf
    refine ⟨by omega, rows, _, 1, rfl, hg, rfl, rfl, ?_⟩
    conv => whnf
    rw [eqS_refl]
    conv => whnf
    refine ⟨n - 1, by omega, i + 1, by omega, rfl, rfl, rfl, ?_, trivial⟩
    show V.int .i64 (IntKind.i64.wrap (i + 1)) = _
    rw [wrap64 (by omega) (by omega)]; simp
  · rw [hlr, ltB_f (by omega)]
    conv => whnf

end Go.Cod

set_option linter.all false
namespace Go.Cod
variable [Adr]
open Go Go.Proofs
set_option maxRecDepth 10000
theorem l1In_pure (a b c : Int) : Pure Tryd.prog 16 [.int .i64 a, .int .i64 b, .int .i64 c] (· = .bool (decide (b ≤ a ∧ a ≤ c))) := by
  refine pure_of_awp good Tryd.func16 rfl (by kernel_rfl) (by decide) ?_
  conv => whnf
  by_cases h1 : b ≤ a
  · rw [leB_t h1]
    conv => whnf
    simp [h1, leB_def]
  · rw [leB_f (by omega)]
    conv => whnf
    simp [h1]

def lowerB (c : UInt8) : Bool := decide (97 ≤ c.toNat ∧ c.toNat ≤ 122)
def lower (s : List UInt8) : Bool := s.all lowerB
def nameL (s : List UInt8) : Bool := lower s && decide (1 ≤ (s.length : Int) ∧ (s.length : Int) ≤ 8)
theorem take_all {p : UInt8 → Bool} {s : List UInt8} {i : Nat} (h : i < s.length) : (s.take (i + 1)).all p = ((s.take i).all p && p s[i]) := by
  rw [List.take_succ_eq_append_getElem h, List.all_append]; simp
theorem l2Name_pure (s : List UInt8) (hs : s.length ≤ 9223372036854775806) : Pure Tryd.prog 18 [.str s] (· = .bool (nameL s)) := by
  refine pure_of_awp good Tryd.func18 rfl (by kernel_rfl) (by decide) ?_
  conv => whnf
  refine loop_intro (fun n fr st => st = [] ∧ ∃ i : Nat, n + i = s.length ∧ lower (s.take i) = true ∧ Holds fr [(0, .str s), (3, .int .i64 i)]) s.length ⟨rfl, 0, rfl, rfl, rfl, rfl, trivial⟩ ?_
  rintro n fr st ⟨rfl, i, hi, hlow, hh⟩
  obtain ⟨fr, rfl⟩ := hh.split
  clear hh
  conv => whnf
  by_cases hlt : i < s.length
  · rw [ltB_t (by omega)]
    have hstep := take_all (p := lowerB) hlt
    conv => whnf
    refine ⟨by omega, s[i], by simp [hlt], ?_⟩
    conv => whnf
    by_cases h1 : (97 : Int) ≤ (s[i].toNat : Int)
    · rw [ltB_f (by omega)]
      conv => whnf
      refine ⟨by omega, s[i], by simp [hlt], ?_⟩
      conv => whnf
      by_cases h2 : (s[i].toNat : Int) ≤ 122
      · rw [ltB_f (by omega)]
        conv => whnf
        refine ⟨n - 1, by omega, rfl, i + 1, by omega, ?_, ?_⟩
        · unfold lower at *; rw [hstep, hlow]; simp [lowerB]; omega
        · refine ⟨rfl, ?_, trivial⟩
          show V.int .i64 (IntKind.i64.wrap (i + 1)) = _
          rw [wrap64 (by omega) (by omega)]; simp
      · rw [ltB_t (by omega)]
        conv => whnf
        have hf : lower s = false := by
          unfold lower
          rw [List.all_eq_false]
          exact ⟨s[i], List.getElem_mem _, by simp only [lowerB, decide_eq_true_eq]; omega⟩
        simp only [nameL, hf, Bool.false_and]
    · rw [ltB_t (by omega)]
      conv => whnf
      have hf : lower s = false := by
        unfold lower
        rw [List.all_eq_false]
        exact ⟨s[i], List.getElem_mem _, by simp only [lowerB, decide_eq_true_eq]; omega⟩
      simp only [nameL, hf, Bool.false_and]
  · rw [ltB_f (by omega)]
    conv => whnf
    refine .inl ((l1In_pure _ _ _).mono ?_)
    rintro r rfl
    conv => whnf
    have : s.take i = s := List.take_of_length_le (by omega)
    rw [this] at hlow
    simp [nameL, hlow]
end Go.Cod

set_option linter.all false
namespace Go.Cod
variable [Adr]
open Go Go.Proofs
set_option maxRecDepth 10000

theorem textHasOnly_pure (s : List UInt8) (hs : s.length ≤ 9223372036854775806) (g : Nat) (p : UInt8 → Bool) (hp : ∀ b : UInt8, Pure Tryd.prog g [cellB b] (· = .bool (p b))) :
    Pure Tryd.prog 37 [.str s, .fn g []] (· = .bool (s.all p)) := by
  refine pure_of_awp good Tryd.func37 rfl (by kernel_rfl) (by decide) ?_
  conv => whnf
  refine loop_intro (fun n fr st => st = [] ∧ ∃ i : Nat, n + i = s.length ∧ (s.take i).all p = true ∧ Holds fr [(0, .str s), (1, .fn g []), (7, .int .i64 s.length), (8, .int .i64 i)]) s.length ⟨rfl, 0, rfl, rfl, rfl, rfl, rfl, rfl, trivial⟩ ?_
  rintro n fr st ⟨rfl, i, hi, hx, hh⟩
  obtain ⟨fr, rfl⟩ := hh.split
  clear hh
  conv => whnf
  by_cases hlt : i < s.length
  · rw [ltB_t (by omega)]
    conv => whnf
    refine ⟨by omega, s[i], by simp [hlt], ?_⟩
    conv => whnf
    have hst := take_all (p := p) hlt
    have hno : p s[i] = false → s.all p = false := by
      intro h; rw [List.all_eq_false]; exact ⟨s[i], List.getElem_mem _, by simp [h]⟩
    refine .inl ((hp s[i]).mono ?_)
    rintro r rfl
    cases a : p s[i]
    · conv => whnf
      rw [hno a]
    conv => whnf
    refine ⟨n - 1, by omega, rfl, i + 1, by omega, by rw [hst, hx, a]; rfl, rfl, rfl, rfl, ?_, trivial⟩
    show V.int .i64 (IntKind.i64.wrap (i + 1)) = _
    rw [wrap64 (by omega) (by omega)]; simp
  · rw [ltB_f (by omega)]
    conv => whnf
    rw [List.take_of_length_le (by omega)] at hx
    rw [hx]

theorem isLetter_pure (b : UInt8) : Pure Tryd.prog 38 [cellB b] (· = .bool (lowerB b)) := by
  refine pure_of_awp good Tryd.func38 rfl (by kernel_rfl) (by decide) ?_
  conv => whnf
  by_cases h1 : (97 : Int) ≤ (b.toNat : Int)
  · rw [leB_t (by omega)]
    conv => whnf
    congr 1
    rw [leB_def, lowerB]
    exact decide_eq_decide.2 (by omega)
  · rw [leB_f (by omega)]
    conv => whnf
    have : lowerB b = false := by unfold lowerB; simp; omega
    rw [this]
theorem nameOk_pure (s : List UInt8) (hs : s.length ≤ 9223372036854775806) : Pure Tryd.prog 28 [.str s] (· = .bool (nameL s)) := by
  refine pure_of_awp good Tryd.func28 rfl (by kernel_rfl) (by decide) ?_
  conv => whnf
  by_cases h1 : (1 : Int) ≤ (s.length : Int)
  case neg =>
    rw [leB_f (by omega)]
    conv => whnf
    simp [nameL]; omega
  rw [leB_t (by omega)]
  conv => whnf
  by_cases h2 : (s.length : Int) ≤ 8
  case neg =>
    rw [leB_f (by omega)]
    conv => whnf
    simp [nameL]; omega
  rw [leB_t (by omega)]
  conv => whnf
  refine .inl ((textHasOnly_pure s hs _ lowerB isLetter_pure).mono ?_)
  rintro r rfl
  conv => whnf
  simp [nameL, lower, h1, h2]
end Go.Cod

set_option linter.all false
namespace Go.Cod
variable [Adr]
open Go Go.Proofs
set_option maxRecDepth 10000

/- What a schema must be. -/
def hasR (rs : List Ru) (k : List UInt8) : Bool := rs.any fun r => decide (r.kind = k)
def idxR (k : List UInt8) : List Ru → Int → Int
  | [], _ => -1
  | r :: rs, n => if r.kind = k then n else idxR k rs (n + 1)
def textW : List UInt8 := [116, 101, 120, 116]
def itemB (rs : List Ru) (x : It) : Bool := hasR rs x.kind && !(x.many && x.may)
def ruleB (rs : List Ru) (r : Ru) : Bool := nameL r.kind && decide (r.kind ≠ textW) && decide (r.kids.length ≤ 4) && r.kids.all (itemB rs)
def okS (s : Sc) : Bool := decide (s.rules.length ≤ 6) && hasR s.rules s.root && s.rules.all (ruleB s.rules) && decide ((s.rules.map (·.kind)).Nodup)
theorem idxR_drop (k : List UInt8) (rs : List Ru) (i : Nat) (h : i < rs.length) (n : Int) : idxR k (rs.drop i) n = if rs[i].kind = k then n else idxR k (rs.drop (i + 1)) (n + 1) := by
  rw [List.drop_eq_getElem_cons h]; rfl
theorem idxR_has (k : List UInt8) : ∀ (rs : List Ru) (n : Int), 0 ≤ n → (idxR k rs n < 0 ↔ hasR rs k = false) ∧ (hasR rs k = true → n ≤ idxR k rs n)
  | [], n, h => by simp [idxR, hasR]
  | r :: rs, n, h => by
    have ih := idxR_has k rs (n + 1) (by omega)
    have he : hasR (r :: rs) k = (decide (r.kind = k) || hasR rs k) := rfl
    simp only [idxR]
    rw [he]
    by_cases hk : r.kind = k
    · simp [hk]; omega
    · rw [if_neg hk]
      simp only [hk, decide_false, Bool.false_or]
      exact ⟨ih.1, fun h => by have := ih.2 h; omega⟩
theorem idxR_neg (k : List UInt8) (rs : List Ru) : idxR k rs 0 < 0 ↔ hasR rs k = false := (idxR_has k rs 0 (by omega)).1
theorem hasR_get {rs : List Ru} {i : Nat} (h : i < rs.length) : hasR rs rs[i].kind = true := by
  unfold hasR
  rw [List.any_eq_true]
  exact ⟨rs[i], List.getElem_mem _, by simp⟩
theorem hasR_iff (rs : List Ru) (k : List UInt8) : hasR rs k = true ↔ k ∈ rs.map (·.kind) := by
  unfold hasR
  rw [List.any_eq_true]
  simp only [List.mem_map, decide_eq_true_eq]
/-- The first rule of a kind. -/
theorem idxR_at (k : List UInt8) : ∀ (rs : List Ru) (n : Int), 0 ≤ n → hasR rs k = true → ∃ (i : Nat) (h : i < rs.length), idxR k rs n = n + i ∧ rs[i].kind = k ∧ hasR (rs.take i) k = false
  | [], n, _, h => by simp [hasR] at h
  | r :: rs, n, hn, h => by
    have he : hasR (r :: rs) k = (decide (r.kind = k) || hasR rs k) := rfl
    rw [he] at h
    by_cases hk : r.kind = k
    · exact ⟨0, by simp, by simp [idxR, hk], by simpa using hk, rfl⟩
    · simp only [hk, decide_false, Bool.false_or] at h
      obtain ⟨i, hi, h1, h2, h3⟩ := idxR_at k rs (n + 1) (by omega) h
      refine ⟨i + 1, by simpa using hi, ?_, by simpa using h2, ?_⟩
      · simp only [idxR, if_neg hk, h1]; omega
      · have : hasR ((r :: rs).take (i + 1)) k = (decide (r.kind = k) || hasR (rs.take i) k) := rfl
        rw [this, h3]; simp [hk]
theorem idxR_first (rs : List Ru) (i : Nat) (h : i < rs.length) : idxR rs[i].kind rs 0 = i ↔ hasR (rs.take i) rs[i].kind = false := by
  obtain ⟨j, hj, h1, h2, h3⟩ := idxR_at rs[i].kind rs 0 (by omega) (hasR_get h)
  rw [h1]
  constructor
  · intro e
    obtain rfl : j = i := by omega
    exact h3
  · intro e
    rcases Nat.lt_trichotomy j i with hlt | rfl | hlt
    · exfalso
      have : hasR (rs.take i) rs[i].kind = true := by
        unfold hasR
        rw [List.any_eq_true]
        exact ⟨rs[j], List.mem_take_iff_getElem.2 ⟨j, by omega, rfl⟩, by simpa using h2⟩
      rw [e] at this; cases this
    · omega
    · exfalso
      have : hasR (rs.take j) rs[i].kind = true := by
        unfold hasR
        rw [List.any_eq_true]
        exact ⟨rs[i], List.mem_take_iff_getElem.2 ⟨i, by omega, rfl⟩, by simp⟩
      rw [h3] at this; cases this
theorem kinds_take {rs : List Ru} {i : Nat} (h : i < rs.length) : ((rs.take (i + 1)).map (·.kind)).Nodup ↔ ((rs.take i).map (·.kind)).Nodup ∧ hasR (rs.take i) rs[i].kind = false := by
  rw [List.take_succ_eq_append_getElem h, List.map_append, List.nodup_append]
  simp only [List.map_cons, List.map_nil, List.nodup_cons, List.not_mem_nil, not_false_eq_true, List.nodup_nil, and_self, List.mem_singleton, forall_eq, true_and]
  rw [← Bool.not_eq_true, hasR_iff]
  exact ⟨fun ⟨a, b⟩ => ⟨a, fun h => b _ h rfl⟩, fun ⟨a, b⟩ => ⟨a, fun x hx e => b (e ▸ hx)⟩⟩
theorem kinds_no {rs : List Ru} {i : Nat} (h : i < rs.length) (hh : hasR (rs.take i) rs[i].kind = true) : ¬ (rs.map (·.kind)).Nodup := fun hd => by
  have h3 : ((rs.take (i + 1)).map (·.kind)).Nodup := hd.sublist ((List.take_sublist _ _).map _)
  rw [(kinds_take h).1 h3 |>.2] at hh; cases hh
theorem all_take {α : Type} {p : α → Bool} {s : List α} {i : Nat} (h : i < s.length) : (s.take (i + 1)).all p = ((s.take i).all p && p s[i]) := by
  rw [List.take_succ_eq_append_getElem h, List.all_append]; simp
theorem all_no {α : Type} {p : α → Bool} {s : List α} {i : Nat} (h : i < s.length) (hp : p s[i] = false) : s.all p = false := by
  rw [List.all_eq_false]; exact ⟨s[i], List.getElem_mem _, by simp [hp]⟩

/- spec's. -/
set_option maxHeartbeats 4000000 in
theorem l3Rule_pure (s : Sc) (k : List UInt8) (hn : s.rules.length ≤ 1048576) : Pure Tryd.prog 17 [.agg s.cells, .str k] (· = .int .i64 (idxR k s.rules 0)) := by
  have hd : idxR k s.rules 0 = idxR k (s.rules.drop 0) ((0 : Nat) : Int) := rfl
  generalize idxR k s.rules 0 = res at *
  obtain ⟨root, rules⟩ := s
  simp only [Sc.cells] at hn hd ⊢
  have hlr := rws_len Ru.cells rules
  have hgr := rws_get Ru.cells rules
  generalize rws Ru.cells rules = rows at *
  refine pure_of_awp good Tryd.func17 rfl (by kernel_rfl) (by decide) ?_
  conv => whnf
  refine loop_intro (fun n fr st => st = [⟨[[.str root, .sl rows]], 2, true, true, true, .cell⟩] ∧ ∃ i : Nat, n + i = rules.length ∧ res = idxR k (rules.drop i) i ∧ Holds fr [(1, .str k), (2, .ptr 0 0 0), (5, .int .i64 i)]) rules.length ⟨rfl, 0, rfl, hd, rfl, rfl, rfl, trivial⟩ ?_
  rintro n fr st ⟨rfl, i, hi, hr, hh⟩
  obtain ⟨fr, rfl⟩ := hh.split
  clear hh
  conv => whnf
  by_cases hlt : i < rules.length
  · rw [hlr, ltB_t (by omega)]
    conv => whnf
    have hg := hgr i hlt
    have hs := idxR_drop k rules i hlt i
    generalize rules[i] = x at *
    obtain ⟨kind, text, kids⟩ := x
    simp only [Ru.cells] at hg hs
    refine ⟨by omega, rows, _, 3, rfl, hg, rfl, rfl, ?_⟩
    conv => whnf
    by_cases hk : kind = k
    · rw [eqS_t hk]
      conv => whnf
      rw [hr, hs, if_pos hk]
    · rw [eqS_f hk]
      conv => whnf
      refine ⟨n - 1, by omega, rfl, i + 1, by omega, ?_, rfl, rfl, ?_, trivial⟩
      · rw [hr, hs, if_neg hk]; rfl
      · show V.int .i64 (IntKind.i64.wrap (i + 1)) = _
        rw [wrap64 (by omega) (by omega)]; simp
  · rw [hlr, ltB_f (by omega)]
    conv => whnf
    rw [hr, List.drop_of_length_le (by omega)]
    rfl
end Go.Cod

set_option linter.all false
namespace Go.Cod
variable [Adr]
open Go Go.Proofs
set_option maxRecDepth 10000

theorem itemB_def (rs : List Ru) (x : It) : itemB rs x = (hasR rs x.kind && !(x.many && x.may)) := rfl
theorem okS_def (s : Sc) : okS s = (decide (s.rules.length ≤ 6) && hasR s.rules s.root && s.rules.all (ruleB s.rules) && decide ((s.rules.map (·.kind)).Nodup)) := rfl
set_option maxHeartbeats 8000000 in
theorem specSchemaOk_pure (s : Sc) (hs : s.Sm) : Pure Tryd.prog 6 [.agg s.cells] (· = .bool (okS s)) := by
  have f1 := fun k => l3Rule_pure s k hs.2.1
  have hO := okS_def s
  generalize okS s = res at *
  obtain ⟨root, rules⟩ := s
  obtain ⟨_, hn, hx⟩ := hs
  simp only [Sc.cells] at f1 hn hx hO ⊢
  have hlr := rws_len Ru.cells rules
  have hgr := rws_get Ru.cells rules
  have hneg := fun k => idxR_neg k rules
  have hfst := idxR_first rules
  have hkt := fun i (h : i < rules.length) => kinds_take h
  have hkn := fun i (h : i < rules.length) => kinds_no h
  generalize rws Ru.cells rules = rows at *
  refine pure_of_awp good Tryd.func6 rfl (by kernel_rfl) (by decide) ?_
  conv => whnf
  refine .inl ((l1In_pure _ _ _).mono ?_)
  rintro r rfl
  rw [hlr]
  by_cases hA : 1 ≤ (rules.length : Int) ∧ (rules.length : Int) ≤ 6
  case neg =>
    rw [decide_eq_false hA]
    conv => whnf
    rw [hO]
    by_cases h6 : rules.length ≤ 6
    · have : rules = [] := List.length_eq_zero_iff.1 (by omega)
      subst this
      rfl
    · rw [decide_eq_false h6]; rfl
  rw [decide_eq_true hA]
  conv => whnf
  refine .inl ((f1 root).mono ?_)
  rintro r rfl
  by_cases hB : idxR root rules 0 < 0
  · have hb := (hneg root).1 hB
    generalize idxR root rules 0 = v at *
    conv => whnf
    rw [ltB_t hB]
    conv => whnf
    rw [hO, hb]; simp
  have hb : hasR rules root = true := by
    cases h : hasR rules root with
    | true => rfl
    | false => exact absurd ((hneg root).2 h) hB
  generalize idxR root rules 0 = v at *
  conv => whnf
  rw [ltB_f (by omega)]
  rw [hb, decide_eq_true (show rules.length ≤ 6 by omega), Bool.true_and, Bool.true_and] at hO
  conv => whnf
  refine loop_drop (fun n fr st => ∃ i : Nat, n + i = rules.length ∧ (rules.take i).all (ruleB rules) = true ∧ ((rules.take i).map (·.kind)).Nodup ∧ st = [⟨[[.str root, .sl rows]], 2, true, true, true, .cell⟩] ∧ Holds fr [(1, .ptr 0 0 0), (3, .int .i64 i)]) rules.length none ⟨0, rfl, rfl, by simp, rfl, rfl, rfl, trivial⟩ ?_
  rintro n fr st ⟨i, hi, hal, hnd, rfl, hh⟩
  obtain ⟨fr, rfl⟩ := hh.split
  clear hh
  conv => whnf
  by_cases hlt : i < rules.length
  · rw [hlr, ltB_t (by omega)]
    conv => whnf
    have hg := hgr i hlt
    have hxi := hx rules[i] (List.getElem_mem _)
    have hat := all_take (p := ruleB rules) hlt
    have hano := all_no (p := ruleB rules) hlt
    have hf := hfst i hlt
    have hk1 := hkt i hlt
    have hk2 := hkn i hlt
    have hrd : ruleB rules rules[i] = (nameL rules[i].kind && decide (rules[i].kind ≠ textW) && decide (rules[i].kids.length ≤ 4) && rules[i].kids.all (itemB rules)) := rfl
    generalize rules[i] = x at *
    obtain ⟨kind, text, kids⟩ := x
    obtain ⟨g1, g2, g3⟩ := hxi
    simp only [Ru.cells] at hg hat hano hf hk1 hk2 hrd g1 g2 g3
    have hlk := rws_len It.cells kids
    have hgk := rws_get It.cells kids
    generalize rws It.cells kids = krows at *
    refine ⟨by omega, rows, _, 3, rfl, hg, rfl, rfl, ?_⟩
    conv => whnf
    refine .inl ((l2Name_pure kind (by omega)).mono ?_)
    rintro r rfl
    cases hN : nameL kind with
    | false =>
      conv => whnf
      rw [hO, hano (by rw [hrd, hN]; rfl)]; rfl
    | true =>
      conv => whnf
      by_cases hT : kind = [116, 101, 120, 116]
      · rw [eqS_t hT]
        conv => whnf
        rw [hO, hano (by rw [hrd, hN, decide_eq_false (by simp [textW, hT])]; rfl)]; rfl
      rw [eqS_f hT]
      rw [hN, decide_eq_true (show kind ≠ textW from hT), Bool.true_and, Bool.true_and] at hrd
      conv => whnf
      refine .inl ((f1 kind).mono ?_)
      rintro r rfl
      by_cases hF : idxR kind rules 0 = i
      case neg =>
        have hh : hasR (rules.take i) kind = true := by
          cases h : hasR (rules.take i) kind with
          | true => rfl
          | false => exact absurd (hf.2 h) hF
        generalize idxR kind rules 0 = v at *
        conv => whnf
        rw [eqB_f hF]
        conv => whnf
        rw [hO, decide_eq_false (hk2 hh)]; simp
      have hh := hf.1 hF
      generalize idxR kind rules 0 = v at *
      subst hF
      conv => whnf
      rw [eqB_refl]
      conv => whnf
      rw [hlk]
      by_cases hK : (kids.length : Int) ≤ 4
      case neg =>
        rw [ltB_t (by omega)]
        conv => whnf
        rw [hO, hano (by rw [hrd, decide_eq_false (by omega)]; rfl)]; rfl
      rw [ltB_f (by omega)]
      rw [decide_eq_true (show kids.length ≤ 4 by omega), Bool.true_and] at hrd
      conv => whnf
      refine loop_intro (fun n fr st => ∃ j : Nat, n + j = kids.length ∧ (kids.take j).all (itemB rules) = true ∧ st = [⟨[[.str root, .sl rows]], 2, true, true, true, .cell⟩, ⟨[[.str kind, .bool text, .sl krows]], 3, true, true, true, .cell⟩] ∧ Holds fr [(1, .ptr 0 0 0), (3, .int .i64 i), (4, .ptr 1 0 0), (5, .int .i64 j)]) kids.length ⟨0, rfl, rfl, rfl, rfl, rfl, rfl, rfl, trivial⟩ ?_
      rintro n2 fr st ⟨j, hj, hja, rfl, hh2⟩
      obtain ⟨fr, rfl⟩ := hh2.split
      clear hh2
      conv => whnf
      by_cases hjt : j < kids.length
      · rw [hlk, ltB_t (by omega)]
        conv => whnf
        have hgj := hgk j hjt
        have hjs := all_take (p := itemB rules) hjt
        have hjno := all_no (p := itemB rules) hjt
        have hjd := itemB_def rules kids[j]
        generalize kids[j] = y at *
        obtain ⟨yk, ym, yy⟩ := y
        simp only [It.cells] at hgj hjd
        repeat (first
          | (refine ⟨by omega, krows, _, 3, rfl, hgj, rfl, rfl, ?_⟩
             conv => whnf)
          | (refine ⟨_, .inl (f1 yk), ?_⟩
             conv => whnf))
        by_cases hY : idxR yk rules 0 < 0
        · have hy0 := (hneg yk).1 hY
          generalize idxR yk rules 0 = v at *
          rw [ltB_t hY]
          conv => whnf
          rw [hO, hano (by rw [hrd, hjno (by rw [hjd, hy0]; rfl)])]; rfl
        have hy1 : hasR rules yk = true := by
          cases h : hasR rules yk with
          | true => rfl
          | false => exact absurd ((hneg yk).2 h) hY
        generalize idxR yk rules 0 = v at *
        rw [ltB_f (by omega)]
        rw [hy1, Bool.true_and] at hjd
        conv => whnf
        refine ⟨by omega, krows, _, 3, rfl, hgj, rfl, rfl, ?_⟩
        cases ym with
        | false =>
          conv => whnf
          refine ⟨n2 - 1, by omega, j + 1, by omega, by rw [hjs, hja, hjd]; rfl, rfl, rfl, rfl, rfl, ?_, trivial⟩
          show V.int .i64 (IntKind.i64.wrap (j + 1)) = _
          rw [wrap64 (by omega) (by omega)]; simp
        | true =>
          conv => whnf
          refine ⟨by omega, krows, _, 3, rfl, hgj, rfl, rfl, ?_⟩
          cases yy with
          | true =>
            conv => whnf
            rw [hO, hano (by rw [hrd, hjno (by rw [hjd]; rfl)])]; rfl
          | false =>
            conv => whnf
            refine ⟨n2 - 1, by omega, j + 1, by omega, by rw [hjs, hja, hjd]; rfl, rfl, rfl, rfl, rfl, ?_, trivial⟩
            show V.int .i64 (IntKind.i64.wrap (j + 1)) = _
            rw [wrap64 (by omega) (by omega)]; simp
      · rw [hlk, ltB_f (by omega)]
        conv => whnf
        rw [List.take_of_length_le (by omega)] at hja
        rw [hja] at hrd
        refine ⟨n - 1, by omega, some [0], i + 1, by omega, ?_, hk1.2 ⟨hnd, hh⟩, rfl, rfl, ?_, trivial⟩
        · rw [hat, hal, hrd]; rfl
        · show V.int .i64 (IntKind.i64.wrap (i + 1)) = _
          rw [wrap64 (by omega) (by omega)]; simp
  · rw [hlr, ltB_f (by omega)]
    conv => whnf
    rw [List.take_of_length_le (by omega)] at hal hnd
    rw [hO, hal, decide_eq_true hnd]; rfl
end Go.Cod

set_option linter.all false
namespace Go.Cod
variable [Adr]
open Go Go.Proofs
set_option maxRecDepth 10000

/- impl's. -/
def noRule : List V := [.str [], .bool false, .sl []]
/-- The rule of a kind: the first one; none: an error. -/
def ruleOf (rs : List Ru) (k : List UInt8) : List V := match rs.find? fun r => decide (r.kind = k) with
  | some r => r.cells
  | none => noRule
def ruleErr (rs : List Ru) (k : List UInt8) : V := if hasR rs k = true then nilErr else errV 0
theorem find_drop (rs : List Ru) (k : List UInt8) (i : Nat) (h : i < rs.length) : ruleOf (rs.drop i) k = if rs[i].kind = k then rs[i].cells else ruleOf (rs.drop (i + 1)) k := by
  rw [List.drop_eq_getElem_cons h]
  unfold ruleOf
  by_cases hk : rs[i].kind = k
  · simp [List.find?, hk]
  · simp [List.find?, hk]
theorem hasR_drop (rs : List Ru) (k : List UInt8) (i : Nat) (h : i < rs.length) : hasR (rs.drop i) k = (decide (rs[i].kind = k) || hasR (rs.drop (i + 1)) k) := by
  rw [List.drop_eq_getElem_cons h]; rfl
set_option maxHeartbeats 4000000 in
theorem schemaRule_pure (rs : List Ru) (k : List UInt8) (hn : rs.length ≤ 1048576) : Pure Tryd.prog 23 [.sl (rws Ru.cells rs), .str k] (· = .tup [.agg (ruleOf rs k), ruleErr rs k]) := by
  have hlr := rws_len Ru.cells rs
  have hgr := rws_get Ru.cells rs
  have hd : ruleOf rs k = ruleOf (rs.drop 0) k := rfl
  have hd2 : hasR rs k = hasR (rs.drop 0) k := rfl
  have he : ruleErr rs k = if hasR rs k = true then nilErr else errV 0 := rfl
  generalize ruleErr rs k = er at *
  generalize ruleOf rs k = res at *
  generalize hasR rs k = hb at *
  generalize rws Ru.cells rs = rows at *
  refine pure_of_awp good Tryd.func23 rfl (by kernel_rfl) (by decide) ?_
  conv => whnf
  refine loop_drop (fun n fr st => ∃ i : Nat, n + i = rs.length ∧ res = ruleOf (rs.drop i) k ∧ hb = hasR (rs.drop i) k ∧ st = [⟨[[.str [], .bool false, .nils]], 3, true, true, true, .cell⟩] ∧ Holds fr [(1, .str k), (4, .ptr 0 0 0), (5, nilErr), (8, .sl rows), (9, .int .i64 rs.length), (10, .int .i64 i)]) rs.length none ⟨0, rfl, hd, hd2, rfl, rfl, rfl, rfl, rfl, by rw [← hlr]; rfl, rfl, trivial⟩ ?_
  rintro n fr st ⟨i, hi, hr, hr2, rfl, hh⟩
  obtain ⟨fr, rfl⟩ := hh.split
  clear hh
  conv => whnf
  by_cases hlt : i < rs.length
  · rw [ltB_t (by omega)]
    conv => whnf
    have hg := hgr i hlt
    have hs := find_drop rs k i hlt
    have hs2 := hasR_drop rs k i hlt
    generalize rs[i] = x at *
    obtain ⟨kind, text, kids⟩ := x
    simp only [Ru.cells] at hg hs hs2
    refine ⟨by omega, rows, _, 3, rfl, hg, rfl, rfl, ?_⟩
    conv => whnf
    by_cases hk : kind = k
    · rw [eqS_t hk]
      conv => whnf
      rw [hr, hs, if_pos hk]
      rw [hr2, hs2, decide_eq_true hk] at he
      rw [he]; rfl
    · rw [eqS_f hk]
      conv => whnf
      refine ⟨n - 1, by omega, some [0], i + 1, by omega, ?_, ?_, rfl, rfl, rfl, rfl, rfl, rfl, ?_, trivial⟩
      · rw [hr, hs, if_neg hk]
      · rw [hr2, hs2, decide_eq_false hk]; rfl
      · show V.int .i64 (IntKind.i64.wrap (i + 1)) = _
        rw [wrap64 (by omega) (by omega)]; simp
  · rw [ltB_f (by omega)]
    rw [List.drop_of_length_le (by omega)] at hr hr2
    rw [hr2] at he
    have hr : res = noRule := hr
    have he : er = errV 0 := he
    conv => whnf
    refine And.intro (by (conv => whnf); first | done | rfl) ?_
    conv => whnf
    rw [hr, he]; rfl
end Go.Cod

set_option linter.all false
namespace Go.Cod
variable [Adr]
open Go Go.Proofs
set_option maxRecDepth 10000

theorem ruleOf_cells (rs : List Ru) (k : List UInt8) : ∃ r : Ru, ruleOf rs k = r.cells := by
  unfold ruleOf
  split
  · exact ⟨_, rfl⟩
  · exact ⟨⟨[], false, []⟩, rfl⟩
theorem schemaHas_pure (rs : List Ru) (k : List UInt8) (hn : rs.length ≤ 1048576) : Pure Tryd.prog 29 [.sl (rws Ru.cells rs), .str k] (· = .bool (hasR rs k)) := by
  have f1 := schemaRule_pure rs k hn
  have he : ruleErr rs k = if hasR rs k = true then nilErr else errV 0 := rfl
  obtain ⟨r0, hr0⟩ := ruleOf_cells rs k
  rw [hr0] at f1
  generalize ruleErr rs k = er at *
  generalize hasR rs k = hb at *
  generalize rws Ru.cells rs = rows at *
  obtain ⟨a, b, c⟩ := r0
  simp only [Ru.cells] at f1
  refine pure_of_awp good Tryd.func29 rfl (by kernel_rfl) (by decide) ?_
  conv => whnf
  refine .inl (f1.mono ?_)
  rintro r rfl
  cases hb with
  | true =>
    rw [he]
    conv => whnf
    refine .inl ((errorsIs_nil 0).mono ?_)
    rintro r rfl
    conv => whnf
    rfl
  | false =>
    rw [he]
    conv => whnf
    refine .inl ((errorsIs_same 0).mono ?_)
    rintro r rfl
    conv => whnf
    rfl
/-- An error or none. -/
def isErr (x : V) : Prop := ∃ a : Addr, x = .raw (.iface 95 (.pointer (some a)))
def faultIs (b : Bool) (x : V) : Prop := match b with
  | true => x = nilErr
  | false => isErr x
set_option maxHeartbeats 8000000 in
theorem itemsFault_pure (s : Sc) (hs : s.Sm) (xs : List It) (hx : xs.length ≤ 1048576) : Pure Tryd.prog 30 [.agg s.cells, .sl (rws It.cells xs)] (faultIs (decide (xs.length ≤ 4) && xs.all (itemB s.rules))) := by
  have f1 := fun k => schemaHas_pure s.rules k hs.2.1
  have hd : ∀ x : It, itemB s.rules x = (hasR s.rules x.kind && !(x.many && x.may)) := fun x => rfl
  obtain ⟨root, rules⟩ := s
  simp only [Sc.cells] at f1 hd ⊢
  generalize rws Ru.cells rules = rrows at *
  generalize itemB rules = p at *
  have hF : faultIs (decide (xs.length ≤ 4) && xs.all p) = fun x => faultIs (decide (xs.length ≤ 4) && xs.all p) x := rfl
  generalize hres : (decide (xs.length ≤ 4) && xs.all p) = res at *
  have hlr := rws_len It.cells xs
  have hgr := rws_get It.cells xs
  generalize rws It.cells xs = rows at *
  refine pure_of_awp good Tryd.func30 rfl (by kernel_rfl) (by decide) ?_
  conv => whnf
  rw [hlr]
  by_cases a1 : (4 : Int) < (xs.length : Int)
  · rw [ltB_t a1]
    rw [decide_eq_false (by omega), Bool.false_and] at hres
    subst hres
    conv => whnf
    exact ⟨_, rfl⟩
  rw [ltB_f (by omega)]
  rw [decide_eq_true (by omega), Bool.true_and] at hres
  conv => whnf
  refine loop_drop (fun n fr st => ∃ i : Nat, n + i = xs.length ∧ (xs.take i).all p = true ∧ st = [⟨[[.str root, .sl rrows]], 2, true, true, true, .cell⟩] ∧ Holds fr [(2, .ptr 0 0 0), (11, .sl rows), (12, .int .i64 xs.length), (13, .int .i64 i)]) xs.length none ⟨0, rfl, rfl, rfl, rfl, rfl, by rw [← hlr]; rfl, rfl, trivial⟩ ?_
  rintro n fr st ⟨i, hi, hal, rfl, hh⟩
  obtain ⟨fr, rfl⟩ := hh.split
  clear hh
  conv => whnf
  by_cases hlt : i < xs.length
  · rw [ltB_t (by omega)]
    conv => whnf
    have hg := hgr i hlt
    have hat := all_take (p := p) hlt
    have hano := all_no (p := p) hlt
    have hx := hd xs[i]
    generalize xs[i] = y at *
    obtain ⟨yk, ym, yy⟩ := y
    simp only [It.cells] at hg hx
    refine ⟨by omega, rows, _, 3, rfl, hg, rfl, rfl, ?_⟩
    have h2 : ∀ b c, (b && c) = true ∨ (b && c) = false := fun b c => by cases b <;> cases c <;> simp
    have key : (∀ fr0 : Nat → V, True) := fun _ => trivial
    cases ym <;> cases yy
    case true.true =>
      conv => whnf
      rw [← hres, hano (by rw [hx]; cases hasR rules yk <;> rfl)]
      exact ⟨_, rfl⟩
    all_goals
      conv => whnf
      refine .inl ((f1 yk).mono ?_)
      rintro r rfl
      generalize hasR rules yk = hb at *
      cases hb with
      | false =>
        conv => whnf
        rw [← hres, hano (by rw [hx]; rfl)]
        exact ⟨_, rfl⟩
      | true =>
        conv => whnf
        refine ⟨n - 1, by omega, some [0], i + 1, by omega, by rw [hat, hal, hx]; rfl, rfl, rfl, rfl, rfl, ?_, trivial⟩
        show V.int .i64 (IntKind.i64.wrap (i + 1)) = _
        rw [wrap64 (by omega) (by omega)]; simp
  · rw [ltB_f (by omega)]
    rw [List.take_of_length_le (by omega)] at hal
    rw [hal] at hres
    subst hres
    conv => whnf
set_option maxHeartbeats 8000000 in
theorem schemaFault_pure (s : Sc) (hs : s.Sm) : Pure Tryd.prog 20 [.agg s.cells] (faultIs (okS s)) := by
  have f1 := fun k => schemaHas_pure s.rules k hs.2.1
  have f1t := fun i k => schemaHas_pure (s.rules.take i) k (by rw [List.length_take]; have := hs.2.1; omega)
  have f2 := itemsFault_pure s hs
  have hO := okS_def s
  generalize okS s = res at *
  obtain ⟨root, rules⟩ := s
  obtain ⟨_, hn, hx⟩ := hs
  simp only [Sc.cells] at f1 f1t f2 hn hx hO ⊢
  have hlr := rws_len Ru.cells rules
  have hgr := rws_get Ru.cells rules
  have htk := rws_take Ru.cells rules
  have hwid := rws_wid Ru.cells Ru.len rules
  have hkt := fun i (h : i < rules.length) => kinds_take h
  have hkn := fun i (h : i < rules.length) => kinds_no h
  simp only [← htk] at f1t
  generalize rws Ru.cells rules = rows at *
  refine pure_of_awp good Tryd.func20 rfl (by kernel_rfl) (by decide) ?_
  conv => whnf
  rw [hlr]
  by_cases a1 : (6 : Int) < (rules.length : Int)
  · rw [ltB_t a1]
    rw [decide_eq_false (by omega)] at hO
    conv => whnf
    rw [hO]
    exact ⟨_, rfl⟩
  rw [ltB_f (by omega)]
  rw [decide_eq_true (by omega), Bool.true_and] at hO
  conv => whnf
  refine loop_drop (fun n fr st => ∃ i : Nat, n + i = rules.length ∧ (rules.take i).all (ruleB rules) = true ∧ ((rules.take i).map (·.kind)).Nodup ∧ st = [⟨[[.str root, .sl rows]], 2, true, true, true, .cell⟩] ∧ Holds fr [(1, .ptr 0 0 0), (12, .sl rows), (13, .int .i64 rules.length), (14, .int .i64 i)]) rules.length none ⟨0, rfl, rfl, by simp, rfl, rfl, rfl, by rw [← hlr]; rfl, rfl, trivial⟩ ?_
  rintro n fr st ⟨i, hi, hal, hnd, rfl, hh⟩
  obtain ⟨fr, rfl⟩ := hh.split
  clear hh
  conv => whnf
  by_cases hlt : i < rules.length
  · rw [ltB_t (by omega)]
    conv => whnf
    have hg := hgr i hlt
    have hxi := hx rules[i] (List.getElem_mem _)
    have hat := all_take (p := ruleB rules) hlt
    have hano := all_no (p := ruleB rules) hlt
    have hk1 := hkt i hlt
    have hk2 := hkn i hlt
    have hrd : ruleB rules rules[i] = (nameL rules[i].kind && decide (rules[i].kind ≠ textW) && decide (rules[i].kids.length ≤ 4) && rules[i].kids.all (itemB rules)) := rfl
    generalize rules[i] = x at *
    obtain ⟨kind, text, kids⟩ := x
    obtain ⟨g1, g2, g3⟩ := hxi
    simp only [Ru.cells] at hg hat hano hk1 hk2 hrd g1 g2 g3
    have f2 := f2 kids (by omega)
    have f4 := f1t i kind
    generalize rws It.cells kids = krows at *
    refine ⟨by omega, rows, _, 3, rfl, hg, rfl, rfl, ?_⟩
    conv => whnf
    refine ⟨_, .inl (nameOk_pure kind (by omega)), ?_⟩
    cases hN : nameL kind with
    | false =>
      conv => whnf
      rw [hO, hano (by rw [hrd, hN]; rfl), Bool.and_false, Bool.false_and]
      exact ⟨_, rfl⟩
    | true =>
      conv => whnf
      by_cases hT : kind = [116, 101, 120, 116]
      · rw [eqS_t hT]
        conv => whnf
        rw [hO, hano (by rw [hrd, hN, decide_eq_false (by simp [textW, hT])]; rfl), Bool.and_false, Bool.false_and]
        exact ⟨_, rfl⟩
      rw [eqS_f hT]
      rw [hN, decide_eq_true (show kind ≠ textW from hT), Bool.true_and, Bool.true_and] at hrd
      conv => whnf
      refine ⟨hwid, ?_⟩
      conv => whnf
      refine ⟨by omega, by omega, ?_⟩
      conv => whnf
      refine ⟨rfl, ?_⟩
      conv => whnf
      refine ⟨_, .inl f4, ?_⟩
      generalize hasR (rules.take i) kind = hb at *
      cases hb with
      | true =>
        conv => whnf
        rw [hO, decide_eq_false (hk2 rfl), Bool.and_false]
        exact ⟨_, rfl⟩
      | false =>
        conv => whnf
        refine .inl (f2.mono ?_)
        intro r hr
        generalize hbb : (decide (kids.length ≤ 4) && kids.all (itemB rules)) = bb at *
        cases bb with
        | true =>
          obtain rfl : r = nilErr := hr
          conv => whnf
          refine ⟨n - 1, by omega, some [0], i + 1, by omega, by rw [hat, hal, hrd]; rfl, hk1.2 ⟨hnd, rfl⟩, rfl, rfl, rfl, rfl, ?_, trivial⟩
          show V.int .i64 (IntKind.i64.wrap (i + 1)) = _
          rw [wrap64 (by omega) (by omega)]; simp
        | false =>
          obtain ⟨a, rfl⟩ : isErr r := hr
          conv => whnf
          rw [hO, hano (by rw [hrd]), Bool.and_false, Bool.false_and]
          exact ⟨_, rfl⟩
  · rw [ltB_f (by omega)]
    rw [List.take_of_length_le (by omega)] at hal hnd
    rw [hal, decide_eq_true hnd, Bool.and_true, Bool.and_true] at hO
    have f1 := f1 root
    generalize hasR rules root = hb at *
    subst hO
    conv => whnf
    refine .inl (f1.mono ?_)
    rintro r rfl
    cases res with
    | false =>
      conv => whnf
      exact ⟨_, rfl⟩
    | true =>
      conv => whnf
theorem implSchemaOk_pure (s : Sc) (hs : s.Sm) : Pure Tryd.prog 8 [.agg s.cells] (· = .bool (okS s)) := by
  have f1 := schemaFault_pure s hs
  generalize okS s = res at *
  obtain ⟨root, rules⟩ := s
  simp only [Sc.cells] at f1 ⊢
  generalize rws Ru.cells rules = rows at *
  refine pure_of_awp good Tryd.func8 rfl (by kernel_rfl) (by decide) ?_
  conv => whnf
  refine .inl (f1.mono ?_)
  intro r hr
  cases res with
  | true =>
    obtain rfl : r = nilErr := hr
    conv => whnf
  | false =>
    obtain ⟨a, rfl⟩ : isErr r := hr
    conv => whnf
end Go.Cod

set_option linter.all false
namespace Go.Cod
variable [Adr]
open Go Go.Proofs Go.ChangeShapes Go.WideShapes Go.ChangeAt Go.RowKit
set_option maxRecDepth 10000

omit [Adr] in
theorem ownK : ownKnob Tryd.prog.godebug = none := by kernel_rfl
omit [Adr]
end Go.Cod

set_option linter.all false
namespace Go.Cod
variable [Adr]
open Go Go.Proofs
set_option maxRecDepth 10000

/- Kinds against items. -/
abbrev Ks := List (List UInt8)
def takesB (k : List UInt8) (ks : Ks) : Bool := match ks with
  | [] => false
  | y :: _ => decide (y = k)
def manyP (k : List UInt8) (p : Ks → Bool) : Ks → Bool
  | [] => p []
  | y :: ys => p (y :: ys) || (decide (y = k) && manyP k p ys)
def itemP (x : It) (p : Ks → Bool) (ks : Ks) : Bool := match x.many with
  | true => manyP x.kind p ks
  | false => match x.may with
    | true => p ks || (takesB x.kind ks && p ks.tail)
    | false => takesB x.kind ks && p ks.tail
def matchP : List It → Ks → Bool
  | [] => fun ks => decide (ks.length = 0)
  | x :: xs => itemP x (matchP xs)
theorem rws_tail {α : Type} (c : α → List V) (ys : List α) : ((rws c ys).take (rws c ys).length).drop 1 = rws c ys.tail := by
  rw [List.take_of_length_le (Nat.le_refl _)]
  cases ys <;> rfl
theorem match_cons (x : It) (xs : List It) (ks : Ks) : matchP (x :: xs) ks = (((x.many || x.may) && matchP xs ks) || (takesB x.kind ks && (if x.many = true then matchP (x :: xs) ks.tail else matchP xs ks.tail))) := by
  obtain ⟨kind, many, may⟩ := x
  show itemP _ _ _ = _
  cases many with
  | true =>
    show manyP kind (matchP xs) ks = _
    cases ks with
    | nil => simp [manyP, takesB]
    | cons y ys => simp [manyP, takesB, matchP, itemP]
  | false => cases may <;> simp [itemP]
set_option maxHeartbeats 8000000 in
theorem l3Match_pure : ∀ (n : Nat) (xs : List It) (ks : Ks), xs.length + ks.length < n → Pure Tryd.prog 22 [.sl (rws It.cells xs), .sl (rws sCells ks)] (· = .bool (matchP xs ks))
  | 0, _, _, h => by omega
  | n + 1, [], ks, h => by
    have hlk := rws_len sCells ks
    have hM : matchP [] ks = decide (ks.length = 0) := rfl
    generalize matchP [] ks = res at *
    generalize rws sCells ks = krows at *
    refine pure_of_awp good Tryd.func22 rfl (by kernel_rfl) (by decide) ?_
    conv => whnf
    rw [eqB_t (show (((rws It.cells []).length : Nat) : Int) = 0 from rfl)]
    conv => whnf
    rw [hlk, hM, eqB_def]
    congr 1
    exact decide_eq_decide.2 (by omega)
  | n + 1, x :: xs, ks, h => by
    have i1 := l3Match_pure n xs ks (by simp at h; omega)
    have i2 := fun (_ : 0 < ks.length) => l3Match_pure n (x :: xs) ks.tail (by simp at h ⊢; omega)
    have i3 := l3Match_pure n xs ks.tail (by simp at h ⊢; omega)
    have hM := match_cons x xs ks
    have hlx : (rws It.cells (x :: xs)).length = xs.length + 1 := by rw [rws_len]; rfl
    have hg : (rws It.cells (x :: xs))[0]? = some x.cells := rfl
    have ht : ((rws It.cells (x :: xs)).take (rws It.cells (x :: xs)).length).drop 1 = rws It.cells xs := rws_tail It.cells (x :: xs)
    have hw := rws_wid It.cells It.len (x :: xs)
    have hwk := rws_wid sCells (k := 1) (fun _ => rfl) ks
    rw [← ht] at i1 i3
    have htk := rws_tail sCells ks
    rw [← htk] at i2 i3
    have hlk := rws_len sCells ks
    have hgk := rws_get sCells ks
    generalize matchP (x :: xs) ks.tail = q at *
    generalize matchP (x :: xs) ks = res at *
    generalize matchP xs ks.tail = pt at *
    generalize matchP xs ks = p at *
    generalize rws It.cells (x :: xs) = rows at *
    generalize rws sCells ks = krows at *
    obtain ⟨kind, many, may⟩ := x
    simp only [It.cells] at hg hM
    refine pure_of_awp good Tryd.func22 rfl (by kernel_rfl) (by decide) ?_
    conv => whnf
    rw [hlx, eqB_f (by omega)]
    conv => whnf
    refine ⟨by omega, rows, _, 3, rfl, hg, rfl, rfl, ?_⟩
    cases many with
    | false =>
      cases may with
      | false =>
        conv => whnf
        cases ks with
        | nil =>
          rw [hlk, eqB_t (show (([] : Ks).length : Int) = 0 from rfl)]
          conv => whnf
          rw [hM]; rfl
        | cons y ys =>
          have hgy := hgk 0 (by simp)
          simp only [List.getElem_cons_zero] at hgy
          rw [hlk, eqB_f (by simp; omega)]
          conv => whnf
          refine ⟨by omega, krows, _, 1, rfl, hgy, rfl, rfl, ?_⟩
          conv => whnf
          have hl0 : 0 < (y :: ys).length := by simp
          by_cases hy : y = kind
          · rw [eqS_t hy]
            have hM : res = pt := by rw [hM]; simp [takesB, hy]
            conv => whnf
            refine ⟨hw, ?_⟩
            conv => whnf
            refine ⟨by omega, by omega, rfl, ?_⟩
            conv => whnf
            refine ⟨hwk, ?_⟩
            conv => whnf
            refine ⟨by omega, by omega, rfl, ?_⟩
            conv => whnf
            refine ⟨_, .inl i3, ?_⟩
            conv => whnf
            rw [hM]
          · rw [eqS_f hy]
            conv => whnf
            rw [hM]; simp [takesB, hy]
      | true =>
        conv => whnf
        refine ⟨hw, ?_⟩
        conv => whnf
        refine ⟨by omega, by omega, ?_⟩
        conv => whnf
        refine .inl (i1.mono ?_)
        rintro r rfl
        cases p with
        | true =>
          conv => whnf
          rw [hM]; rfl
        | false =>
          conv => whnf
          cases ks with
          | nil =>
            rw [hlk, eqB_t (show (([] : Ks).length : Int) = 0 from rfl)]
            conv => whnf
            rw [hM]; rfl
          | cons y ys =>
            have hgy := hgk 0 (by simp)
            simp only [List.getElem_cons_zero] at hgy
            rw [hlk, eqB_f (by simp; omega)]
            conv => whnf
            refine ⟨by omega, krows, _, 1, rfl, hgy, rfl, rfl, ?_⟩
            conv => whnf
            have hl0 : 0 < (y :: ys).length := by simp
            by_cases hy : y = kind
            · rw [eqS_t hy]
              have hM : res = pt := by rw [hM]; simp [takesB, hy]
              conv => whnf
              refine ⟨hw, ?_⟩
              conv => whnf
              refine ⟨by omega, by omega, rfl, ?_⟩
              conv => whnf
              refine ⟨hwk, ?_⟩
              conv => whnf
              refine ⟨by omega, by omega, rfl, ?_⟩
              conv => whnf
              refine ⟨_, .inl i3, ?_⟩
              conv => whnf
              rw [hM]
            · rw [eqS_f hy]
              conv => whnf
              rw [hM]; simp [takesB, hy]
    | true =>
      cases may with
      | false =>
        conv => whnf
        refine ⟨hw, ?_⟩
        conv => whnf
        refine ⟨by omega, by omega, ?_⟩
        conv => whnf
        refine .inl (i1.mono ?_)
        rintro r rfl
        cases p with
        | true =>
          conv => whnf
          rw [hM]; rfl
        | false =>
          conv => whnf
          cases ks with
          | nil =>
            rw [hlk, eqB_t (show (([] : Ks).length : Int) = 0 from rfl)]
            conv => whnf
            rw [hM]; rfl
          | cons y ys =>
            have hgy := hgk 0 (by simp)
            simp only [List.getElem_cons_zero] at hgy
            rw [hlk, eqB_f (by simp; omega)]
            conv => whnf
            refine ⟨by omega, krows, _, 1, rfl, hgy, rfl, rfl, ?_⟩
            conv => whnf
            have hl0 : 0 < (y :: ys).length := by simp
            by_cases hy : y = kind
            · rw [eqS_t hy]
              have hM : res = q := by rw [hM]; simp [takesB, hy]
              conv => whnf
              refine ⟨hwk, ?_⟩
              conv => whnf
              refine ⟨by omega, by omega, ?_⟩
              conv => whnf
              refine .inl ((i2 hl0).mono ?_)
              rintro r rfl
              conv => whnf
              rw [hM]
            · rw [eqS_f hy]
              conv => whnf
              rw [hM]; simp [takesB, hy]
      | true =>
        conv => whnf
        refine ⟨hw, ?_⟩
        conv => whnf
        refine ⟨by omega, by omega, ?_⟩
        conv => whnf
        refine .inl (i1.mono ?_)
        rintro r rfl
        cases p with
        | true =>
          conv => whnf
          rw [hM]; rfl
        | false =>
          conv => whnf
          cases ks with
          | nil =>
            rw [hlk, eqB_t (show (([] : Ks).length : Int) = 0 from rfl)]
            conv => whnf
            rw [hM]; rfl
          | cons y ys =>
            have hgy := hgk 0 (by simp)
            simp only [List.getElem_cons_zero] at hgy
            rw [hlk, eqB_f (by simp; omega)]
            conv => whnf
            refine ⟨by omega, krows, _, 1, rfl, hgy, rfl, rfl, ?_⟩
            conv => whnf
            have hl0 : 0 < (y :: ys).length := by simp
            by_cases hy : y = kind
            · rw [eqS_t hy]
              have hM : res = q := by rw [hM]; simp [takesB, hy]
              conv => whnf
              refine ⟨hwk, ?_⟩
              conv => whnf
              refine ⟨by omega, by omega, ?_⟩
              conv => whnf
              refine .inl ((i2 hl0).mono ?_)
              rintro r rfl
              conv => whnf
              rw [hM]
            · rw [eqS_f hy]
              conv => whnf
              rw [hM]; simp [takesB, hy]
end Go.Cod

set_option linter.all false
namespace Go.Cod
variable [Adr]
open Go Go.Proofs
set_option maxRecDepth 10000

/- impl's states. -/
/-- A function of kinds that answers p. -/
def capOk (cap : List V) : Prop := cap = [] ∨ ∃ a b, cap = [.rptr a, .rptr b] ∧ V.clean.cleanL 0 a = true ∧ V.clean.cleanL 0 b = true
def Good (v : V) (p : Ks → Bool) : Prop := ∃ (f : FuncId) (cap : List V), v = .fn f cap ∧ capOk cap ∧ ∀ ks : Ks, Pure Tryd.prog f (.sl (rws sCells ks) :: cap) (· = .bool (p ks))
theorem capOk.clean {cap : List V} (h : capOk cap) : V.clean.cleanL 0 cap = true := by
  rcases h with rfl | ⟨a, b, rfl, ha, hb⟩
  · rfl
  · simp only [V.clean.cleanL, V.clean, ha, hb, Bool.and_self]
theorem capOk.share {cap : List V} (h : capOk cap) (st : St) : share.go st cap = cap := by
  rcases h with rfl | ⟨a, b, rfl, ha, hb⟩ <;> rfl
theorem clean_cap {cap : List V} (h : capOk cap) (rows : List (List V)) : V.clean.cleanL 0 ([.sl rows] ++ cap) = true := by
  show (true && V.clean.cleanL 0 cap) = true
  rw [h.clean]; rfl
theorem share_cap {cap : List V} (h : capOk cap) (st : St) (rows : List (List V)) : share.go st ([.sl rows] ++ cap) = .sl rows :: cap := by
  show V.sl rows :: share.go st cap = _
  rw [h.share]
theorem machine1_pure (ks : Ks) : Pure Tryd.prog 40 [.sl (rws sCells ks)] (· = .bool (matchP [] ks)) := by
  have hlk := rws_len sCells ks
  have hM : matchP [] ks = decide (ks.length = 0) := rfl
  generalize matchP [] ks = res at *
  generalize rws sCells ks = krows at *
  refine pure_of_awp good Tryd.func40 rfl (by kernel_rfl) (by decide) ?_
  conv => whnf
  rw [hlk, hM, eqB_def]
  congr 1
  exact decide_eq_decide.2 (by omega)
theorem takes_pure (x : It) (ks : Ks) : Pure Tryd.prog 45 [.sl (rws sCells ks), .rptr x.cells] (· = .bool (takesB x.kind ks)) := by
  have hlk := rws_len sCells ks
  have hgk := rws_get sCells ks
  obtain ⟨kind, many, may⟩ := x
  simp only [It.cells]
  cases ks with
  | nil =>
    generalize rws sCells [] = krows at *
    refine pure_of_awp good Tryd.func45 rfl (by kernel_rfl) (by decide) ?_
    conv => whnf
    rw [hlk, ltB_f (by simp)]
    conv => whnf
    rfl
  | cons y ys =>
    have hgy := hgk 0 (by simp)
    simp only [List.getElem_cons_zero] at hgy
    generalize rws sCells (y :: ys) = krows at *
    refine pure_of_awp good Tryd.func45 rfl (by kernel_rfl) (by decide) ?_
    conv => whnf
    rw [hlk, ltB_t (by have : 0 < (y :: ys).length := (by simp); omega)]
    conv => whnf
    refine ⟨by omega, krows, _, 1, rfl, hgy, rfl, rfl, ?_⟩
    conv => whnf
    rw [eqS_def]
    rfl
theorem takes_pos {k : List UInt8} {ks : Ks} (h : takesB k ks = true) : 1 ≤ ks.length := by
  cases ks with
  | nil => cases h
  | cons y ys => simp
theorem manyP_step (k : List UInt8) (p : Ks → Bool) (ks : Ks) : manyP k p ks = (p ks || (takesB k ks && manyP k p ks.tail)) := by
  cases ks with
  | nil => simp [manyP, takesB]
  | cons y ys => rfl
set_option maxHeartbeats 4000000 in
theorem many_pure (x : It) (v : V) (p : Ks → Bool) (hv : Good v p) (ks : Ks) : Pure Tryd.prog 46 [.sl (rws sCells ks), .rptr [.fn 45 [.rptr x.cells]], .rptr [v]] (· = .bool (manyP x.kind p ks)) := by
  obtain ⟨f, cap, rfl, hcl, hp⟩ := hv
  have ht := takes_pure x
  have hs := manyP_step x.kind p
  have hpos := fun ks => takes_pos (k := x.kind) (ks := ks)
  obtain ⟨kind, many, may⟩ := x
  simp only [It.cells] at ht hs hpos ⊢
  refine pure_of_awp good Tryd.func46 rfl (by kernel_rfl) (by decide) ?_
  conv => whnf
  refine loop_intro (fun n fr st => st = [] ∧ ∃ js : Ks, js.length = n ∧ manyP kind p ks = manyP kind p js ∧ Holds fr [(0, .sl (rws sCells js)), (1, .rptr [.fn 45 [.rptr [.str kind, .bool many, .bool may]]]), (2, .rptr [.fn f cap])]) ks.length ⟨rfl, ks, rfl, rfl, rfl, rfl, rfl, trivial⟩ ?_
  rintro n fr st ⟨rfl, js, hj, hm, hh⟩
  obtain ⟨fr, rfl⟩ := hh.split
  clear hh
  have ht := ht js
  have hp0 := hp js
  have hs := hs js
  have hpos := hpos js
  have htl := rws_tail sCells js
  have hwk := rws_wid sCells (k := 1) (fun _ => rfl) js
  have hlj := rws_len sCells js
  generalize hjr : rws sCells js = jrows at *
  have hc := clean_cap hcl jrows
  have hp1 : Pure Tryd.prog f (share.go [] ([.sl jrows] ++ cap)) (· = .bool (p js)) := by rw [share_cap hcl]; exact hp0
  conv => whnf
  refine .inl (ht.mono ?_)
  rintro r rfl
  cases hT : takesB kind js with
  | false =>
    rw [hT, Bool.false_and, Bool.or_false] at hs
    conv => whnf
    refine match_true hc ?_
    refine .inl (hp1.mono ?_)
    rintro r rfl
    conv => whnf
    rw [hm, hs]
  | true =>
    rw [hT, Bool.true_and] at hs
    conv => whnf
    refine match_true hc ?_
    refine .inl (hp1.mono ?_)
    rintro r rfl
    cases hP : p js with
    | true =>
      rw [hP] at hs hp1
      conv => whnf
      refine match_true hc ?_
      refine .inl (hp1.mono ?_)
      rintro r rfl
      conv => whnf
      rw [hm, hs]; rfl
    | false =>
      rw [hP, Bool.false_or] at hs
      conv => whnf
      refine ⟨hwk, ?_⟩
      conv => whnf
      have := hpos hT
      refine ⟨by omega, by omega, ?_⟩
      conv => whnf
      refine ⟨n - 1, by omega, rfl, js.tail, by simp; omega, by rw [hm, hs], ?_, rfl, rfl, trivial⟩
      show V.sl _ = V.sl _
      rw [← htl]; rfl
set_option maxHeartbeats 4000000 in
theorem may_pure (x : It) (v : V) (p : Ks → Bool) (hv : Good v p) (ks : Ks) : Pure Tryd.prog 47 [.sl (rws sCells ks), .rptr [v], .rptr [.fn 45 [.rptr x.cells]]] (· = .bool (p ks || (takesB x.kind ks && p ks.tail))) := by
  obtain ⟨f, cap, rfl, hcl, hp⟩ := hv
  have ht := takes_pure x ks
  have hpos := takes_pos (k := x.kind) (ks := ks)
  have hp0 := hp ks
  have hp2 := hp ks.tail
  have htl := rws_tail sCells ks
  have hwk := rws_wid sCells (k := 1) (fun _ => rfl) ks
  have hlj := rws_len sCells ks
  rw [← htl] at hp2
  obtain ⟨kind, many, may⟩ := x
  simp only [It.cells] at ht hpos ⊢
  generalize rws sCells ks = jrows at *
  have hc := clean_cap hcl jrows
  have hc2 := clean_cap hcl ((jrows.take jrows.length).drop 1)
  have hp1 : Pure Tryd.prog f (share.go [] ([.sl jrows] ++ cap)) (· = .bool (p ks)) := by rw [share_cap hcl]; exact hp0
  have hp3 : Pure Tryd.prog f (share.go [] ([.sl ((jrows.take jrows.length).drop 1)] ++ cap)) (· = .bool (p ks.tail)) := by rw [share_cap hcl]; exact hp2
  generalize p ks = b1 at *
  generalize p ks.tail = b2 at *
  refine pure_of_awp good Tryd.func47 rfl (by kernel_rfl) (by decide) ?_
  conv => whnf
  refine Chk_mk hc ⟨_, .inl hp1, ?_⟩
  cases b1 with
  | true =>
    conv => whnf
    rfl
  | false =>
    conv => whnf
    refine ⟨_, .inl ht, ?_⟩
    cases hT : takesB kind ks with
    | false =>
      conv => whnf
      rfl
    | true =>
      have := hpos hT
      conv => whnf
      refine ⟨hwk, ?_⟩
      conv => whnf
      refine ⟨by omega, by omega, rfl, ?_⟩
      conv => whnf
      refine Chk_mk hc2 ⟨_, .inl hp3, ?_⟩
      conv => whnf
      rfl
set_option maxHeartbeats 4000000 in
theorem one_pure (x : It) (v : V) (p : Ks → Bool) (hv : Good v p) (ks : Ks) : Pure Tryd.prog 48 [.sl (rws sCells ks), .rptr [.fn 45 [.rptr x.cells]], .rptr [v]] (· = .bool (takesB x.kind ks && p ks.tail)) := by
  obtain ⟨f, cap, rfl, hcl, hp⟩ := hv
  have ht := takes_pure x ks
  have hpos := takes_pos (k := x.kind) (ks := ks)
  have hp2 := hp ks.tail
  have htl := rws_tail sCells ks
  have hwk := rws_wid sCells (k := 1) (fun _ => rfl) ks
  have hlj := rws_len sCells ks
  rw [← htl] at hp2
  obtain ⟨kind, many, may⟩ := x
  simp only [It.cells] at ht hpos ⊢
  generalize rws sCells ks = jrows at *
  have hc2 := clean_cap hcl ((jrows.take jrows.length).drop 1)
  have hp3 : Pure Tryd.prog f (share.go [] ([.sl ((jrows.take jrows.length).drop 1)] ++ cap)) (· = .bool (p ks.tail)) := by rw [share_cap hcl]; exact hp2
  generalize p ks.tail = b2 at *
  refine pure_of_awp good Tryd.func48 rfl (by kernel_rfl) (by decide) ?_
  conv => whnf
  refine ⟨_, .inl ht, ?_⟩
  cases hT : takesB kind ks with
  | false =>
    conv => whnf
    rfl
  | true =>
    have := hpos hT
    conv => whnf
    refine ⟨hwk, ?_⟩
    conv => whnf
    refine ⟨by omega, by omega, rfl, ?_⟩
    conv => whnf
    refine Chk_mk hc2 ⟨_, .inl hp3, ?_⟩
    conv => whnf
    rfl
/- The states themselves. -/
theorem rptr_leaf {xs : List V} (h : xs.all V.leaf = true) : ∀ x ∈ xs, x.leaf = true := fun x hx => List.all_eq_true.1 h x hx
set_option maxHeartbeats 4000000 in
theorem itemState_pure (x : It) (v : V) (p : Ks → Bool) (hv : Good v p) : Pure Tryd.prog 41 [.agg x.cells, v] (fun r => Good r (itemP x p)) := by
  have h2 := many_pure x v p hv
  have h3 := may_pure x v p hv
  have h4 := one_pure x v p hv
  have hI : itemP x p = fun ks => itemP x p ks := rfl
  obtain ⟨f, cap, rfl, hcl, hp⟩ := hv
  have hren : ∀ sel, renV.go sel cap = cap := fun sel => renL_clean sel cap hcl.clean
  have hshr : ∀ σ kn st, shr.go σ kn st cap = cap := fun σ kn st => by rcases hcl with rfl | ⟨a, b, rfl, _, _⟩ <;> rfl
  have hcc : V.clean.cleanL 0 [.fn f cap] = true := by
    show (V.clean.cleanL 0 cap && true) = true
    rw [hcl.clean]; rfl
  obtain ⟨kind, many, may⟩ := x
  simp only [It.cells] at h2 h3 h4 ⊢
  refine Full.freezeB (R := fun o st' => ∃ r, o = .ret r ∧ st' = [⟨[[.str kind, .bool many, .bool may]], 3, true, true, true, .cell⟩, ⟨[[.fn f cap]], 1, true, true, true, .cell⟩, ⟨[[.fn 45 [.ptr 0 0 0]]], 1, true, true, true, .cell⟩] ∧
      r = (match many with | true => .fn 46 [.ptr 2 0 0, .ptr 1 0 0] | false => match may with | true => .fn 47 [.ptr 1 0 0, .ptr 2 0 0] | false => .fn 48 [.ptr 2 0 0, .ptr 1 0 0])) ?_ ?_
  · refine full_of_awp good Tryd.func41 rfl (by kernel_rfl) (by decide) ?_
    cases many <;> cases may
    all_goals
      conv => whnf
      refine ⟨[0, 1, 2], false, ?_⟩
      conv => whnf
      refine ⟨_, rfl, ?_, rfl⟩
      show [(⟨_, _, _, _, _, _⟩ : O), ⟨[[.fn f (renV.go _ cap)]], _, _, _, _, _⟩, ⟨_, _, _, _, _, _⟩] = _
      rw [hren]
      rfl
  · rintro o st' ⟨r, rfl, rfl, rfl⟩
    refine ⟨_, match many with | true => .fn 46 [.rptr [.fn 45 [.rptr [.str kind, .bool many, .bool may]]], .rptr [.fn f cap]] | false => match may with | true => .fn 47 [.rptr [.fn f cap], .rptr [.fn 45 [.rptr [.str kind, .bool many, .bool may]]]] | false => .fn 48 [.rptr [.fn 45 [.rptr [.str kind, .bool many, .bool may]]], .rptr [.fn f cap]], rfl, ?_, ?_, ?_⟩
    · intro k o hk
      match k, hk with
      | 0, hk => simp at hk; subst hk; exact ⟨rfl, rfl⟩
      | 1, hk => simp at hk; subst hk; exact ⟨rfl, rfl⟩
      | 2, hk => simp at hk; subst hk; exact ⟨rfl, rfl⟩
      | k + 3, hk => simp at hk
    · generalize hst : ([⟨[[.str kind, .bool many, .bool may]], 3, true, true, true, .cell⟩, ⟨[[.fn f cap]], 1, true, true, true, .cell⟩, ⟨[[.fn 45 [.ptr 0 0 0]]], 1, true, true, true, .cell⟩] : St) = st
      have b0 : FV st (.ptr 0 0 0) (.rptr [.str kind, .bool many, .bool may]) := by
        refine FV.box (o := ⟨[[.str kind, .bool many, .bool may]], 3, true, true, true, .cell⟩) (row := [.str kind, .bool many, .bool may]) (by rw [← hst]; rfl) rfl (rptr_leaf rfl) (.cons (.same _ rfl) (.cons (.same _ rfl) (.cons (.same _ rfl) .nil)))
      have b1 : FV st (.ptr 1 0 0) (.rptr [.fn f cap]) := by
        refine FV.box (o := ⟨[[.fn f cap]], 1, true, true, true, .cell⟩) (row := [.fn f cap]) (by rw [← hst]; rfl) rfl (rptr_leaf rfl) (.cons (.same _ (by show V.clean.cleanL 0 cap = true; exact hcl.clean)) .nil)
      have b2 : FV st (.ptr 2 0 0) (.rptr [.fn 45 [.rptr [.str kind, .bool many, .bool may]]]) := by
        refine FV.box (o := ⟨[[.fn 45 [.ptr 0 0 0]]], 1, true, true, true, .cell⟩) (row := [.fn 45 [.ptr 0 0 0]]) (by rw [← hst]; rfl) rfl (rptr_leaf rfl) (.cons (.fn' (.cons b0 .nil)) .nil)
      cases many <;> cases may
      · exact .fn' (.cons b2 (.cons b1 .nil))
      · exact .fn' (.cons b1 (.cons b2 .nil))
      · exact .fn' (.cons b2 (.cons b1 .nil))
      · exact .fn' (.cons b2 (.cons b1 .nil))
    · cases many <;> cases may
      · exact ⟨_, _, rfl, .inr ⟨_, _, rfl, rfl, hcc⟩, h4⟩
      · exact ⟨_, _, rfl, .inr ⟨_, _, rfl, hcc, rfl⟩, h3⟩
      · exact ⟨_, _, rfl, .inr ⟨_, _, rfl, rfl, hcc⟩, h2⟩
      · exact ⟨_, _, rfl, .inr ⟨_, _, rfl, rfl, hcc⟩, h2⟩
end Go.Cod

set_option linter.all false
namespace Go.Cod
variable [Adr]
open Go Go.Proofs
set_option maxRecDepth 10000

theorem good_nil : Good (.fn 40 []) (matchP []) := ⟨_, [], rfl, .inl rfl, fun ks => machine1_pure ks⟩
set_option maxHeartbeats 4000000 in
theorem schemaMachine_pure (xs : List It) (hn : xs.length ≤ 1048576) : Pure Tryd.prog 34 [.sl (rws It.cells xs)] (fun r => Good r (matchP xs)) := by
  have hlx := rws_len It.cells xs
  have hgx := rws_get It.cells xs
  have hI := itemState_pure
  generalize rws It.cells xs = rows at *
  refine pure_of_awp good Tryd.func34 rfl (by kernel_rfl) (by decide) ?_
  conv => whnf
  refine loop_intro (fun n fr st => st = [] ∧ n ≤ xs.length ∧ ∃ v, Good v (matchP (xs.drop n)) ∧ Holds fr [(0, .sl rows), (3, v), (4, .int .i64 ((n : Int) - 1))]) xs.length ⟨rfl, Nat.le_refl _, .fn 40 [], by rw [List.drop_of_length_le (Nat.le_refl _)]; exact good_nil, rfl, rfl, ?_, trivial⟩ ?_
  · show V.int .i64 (IntKind.i64.wrap _) = _
    rw [hlx, wrap64 (by omega) (by omega)]
  rintro n fr st ⟨rfl, hle, v, hv, hh⟩
  have hv1 := hv
  obtain ⟨f, cap, rfl, hcl, hp⟩ := hv1
  obtain ⟨fr, rfl⟩ := hh.split
  clear hh
  conv => whnf
  cases n with
  | zero =>
    rw [leB_f (by omega)]
    conv => whnf
    refine match_true (by show V.clean.cleanL 0 (share.go [] cap) = true; rw [hcl.share]; exact hcl.clean) ?_
    show Good (.fn f (share.go [] cap)) _
    rw [hcl.share]
    exact hv
  | succ n =>
    rw [leB_t (by omega)]
    have hnx : n < xs.length := by omega
    have hg := hgx n hnx
    have hm : matchP (xs.drop n) = itemP xs[n] (matchP (xs.drop (n + 1))) := by rw [List.drop_eq_getElem_cons hnx]; rfl
    have hI := hI xs[n] _ _ hv
    rw [← hm] at hI
    generalize xs[n] = x at *
    obtain ⟨kind, many, may⟩ := x
    simp only [It.cells] at hg hI
    have hw : (((n + 1 : Nat) : Int) - 1) = n := by omega
    rw [hw]
    have hcc : V.clean.cleanL 0 [.agg [.str kind, .bool many, .bool may], .fn f cap] = true := by
      show (true && (V.clean.cleanL 0 cap && true)) = true
      rw [hcl.clean]; rfl
    have hsc : share.go [] [V.agg [.str kind, .bool many, .bool may], .fn f cap] = [V.agg [.str kind, .bool many, .bool may], .fn f cap] := by
      show [_, V.fn f (share.go [] cap)] = _
      rw [hcl.share]; rfl
    rw [← hsc] at hI
    conv => whnf
    refine ⟨by omega, rows, _, 3, rfl, hg, rfl, rfl, ?_⟩
    conv => whnf
    refine match_true hcc ?_
    refine .inl (hI.mono ?_)
    rintro r ⟨f2, cap2, rfl, hc2, hp2⟩
    conv => whnf
    refine ⟨n, by omega, rfl, by omega, .fn f2 cap2, ⟨f2, cap2, rfl, hc2, hp2⟩, rfl, rfl, ?_, trivial⟩
    show V.int .i64 (IntKind.i64.wrap _) = _
    rw [wrap64 (by omega) (by omega)]
set_option maxHeartbeats 4000000 in
theorem ruleTakes_pure (r : Ru) (hr : r.Sm) (ks : Ks) : Pure Tryd.prog 25 [.agg r.cells, .sl (rws sCells ks)] (· = .bool (decide (ks.length ≤ 20) && matchP r.kids ks)) := by
  have hM := schemaMachine_pure r.kids hr.2.1
  have hlk := rws_len sCells ks
  obtain ⟨kind, text, kids⟩ := r
  simp only [Ru.cells] at hM ⊢
  generalize rws It.cells kids = rows at *
  generalize hjr : rws sCells ks = jrows at *
  generalize matchP kids = p at *
  refine pure_of_awp good Tryd.func25 rfl (by kernel_rfl) (by decide) ?_
  conv => whnf
  rw [hlk]
  by_cases h : (ks.length : Int) ≤ 20
  · rw [leB_t h]
    conv => whnf
    refine .inl (hM.mono ?_)
    rintro r ⟨f, cap, rfl, hcl, hp⟩
    have hp := hp ks
    rw [hjr] at hp
    have hp1 : Pure Tryd.prog f (share.go [⟨[[.str kind, .bool text, .sl rows]], 3, true, true, true, .cell⟩] ([.sl jrows] ++ cap)) (· = .bool (p ks)) := by rw [share_cap hcl]; exact hp
    conv => whnf
    refine match_true (clean_cap hcl jrows) ?_
    refine .inl (hp1.mono ?_)
    rintro r rfl
    conv => whnf
    rw [decide_eq_true (by omega)]; rfl
  · rw [leB_f (by omega)]
    conv => whnf
    rw [decide_eq_false (by omega)]; rfl

/- The rule of a kind. -/
def kidsS (s : Sc) (k : List UInt8) (ks : Ks) : Bool := okS s && (match s.rules.find? fun r => decide (r.kind = k) with
  | some r => decide (ks.length ≤ 20) && matchP r.kids ks
  | none => false)
theorem find_at (k : List UInt8) : ∀ (rs : List Ru) (n : Int), 0 ≤ n → hasR rs k = true → ∃ (i : Nat) (h : i < rs.length), idxR k rs n = n + i ∧ rs.find? (fun r => decide (r.kind = k)) = some rs[i]
  | [], n, _, h => by simp [hasR] at h
  | r :: rs, n, hn, h => by
    have he : hasR (r :: rs) k = (decide (r.kind = k) || hasR rs k) := rfl
    rw [he] at h
    by_cases hk : r.kind = k
    · exact ⟨0, by simp, by simp [idxR, hk], by simp [hk]⟩
    · simp only [hk, decide_false, Bool.false_or] at h
      obtain ⟨i, hi, h1, h2⟩ := find_at k rs (n + 1) (by omega) h
      refine ⟨i + 1, by simpa using hi, ?_, ?_⟩
      · simp only [idxR, if_neg hk, h1]; omega
      · simp [hk, h2]
theorem find_none {rs : List Ru} {k : List UInt8} (h : hasR rs k = false) : rs.find? (fun r => decide (r.kind = k)) = none := by
  rw [List.find?_eq_none]
  intro r hr hd
  have : hasR rs k = true := by
    unfold hasR
    rw [List.any_eq_true]
    exact ⟨r, hr, hd⟩
  rw [h] at this; cases this
set_option maxHeartbeats 4000000 in
theorem specSchemaKids_pure (s : Sc) (hs : s.Sm) (k : List UInt8) (ks : Ks) : Pure Tryd.prog 11 [.agg s.cells, .str k, .sl (rws sCells ks)] (· = .bool (kidsS s k ks)) := by
  have f1 := l3Rule_pure s k hs.2.1
  have f2 := specSchemaOk_pure s hs
  have f3 := fun xs => l3Match_pure (xs.length + ks.length + 1) xs ks (by omega)
  have hK : kidsS s k ks = (okS s && (match s.rules.find? fun r => decide (r.kind = k) with
    | some r => decide (ks.length ≤ 20) && matchP r.kids ks
    | none => false)) := rfl
  generalize kidsS s k ks = res at *
  generalize okS s = ok at *
  obtain ⟨root, rules⟩ := s
  simp only [Sc.cells] at f1 f2 hK ⊢
  have hlk := rws_len sCells ks
  have hgr := rws_get Ru.cells rules
  generalize rws sCells ks = krows at *
  generalize hrr : rws Ru.cells rules = rows at *
  refine pure_of_awp good Tryd.func11 rfl (by kernel_rfl) (by decide) ?_
  conv => whnf
  refine .inl (f1.mono ?_)
  rintro r rfl
  have hneg := idxR_neg k rules
  have hat := find_at k rules 0 (by omega)
  generalize idxR k rules 0 = v at *
  conv => whnf
  refine .inl (f2.mono ?_)
  rintro r rfl
  cases ok with
  | false =>
    conv => whnf
    rw [hK]; rfl
  | true =>
    conv => whnf
    cases hh : hasR rules k with
    | false =>
      have := hneg.2 hh
      rw [leB_f (by omega)]
      rw [find_none hh] at hK
      conv => whnf
      rw [hK]; rfl
    | true =>
      obtain ⟨i, hi, h1, h2⟩ := hat hh
      rw [h2] at hK
      obtain rfl : v = (i : Int) := by omega
      rw [leB_t (by omega)]
      have hg := hgr i hi
      have f3 := f3 rules[i].kids
      generalize rules[i] = x at *
      obtain ⟨kind, text, kids⟩ := x
      simp only [Ru.cells] at hg hK f3
      generalize rws It.cells kids = irows at *
      conv => whnf
      rw [hlk]
      by_cases h : (ks.length : Int) ≤ 20
      · rw [leB_t h]
        conv => whnf
        refine ⟨by omega, rows, _, 3, rfl, hg, rfl, rfl, ?_⟩
        conv => whnf
        refine .inl (f3.mono ?_)
        rintro r rfl
        conv => whnf
        rw [hK, decide_eq_true (by omega)]; rfl
      · rw [leB_f (by omega)]
        conv => whnf
        rw [hK, decide_eq_false (by omega)]; rfl
set_option maxHeartbeats 4000000 in
theorem implSchemaKids_pure (s : Sc) (hs : s.Sm) (k : List UInt8) (ks : Ks) : Pure Tryd.prog 13 [.agg s.cells, .str k, .sl (rws sCells ks)] (· = .bool (kidsS s k ks)) := by
  have f1 := schemaRule_pure s.rules k hs.2.1
  have f2 := implSchemaOk_pure s hs
  have f3 := fun r hr => ruleTakes_pure r hr ks
  have hx := hs.2.2
  have hK : kidsS s k ks = (okS s && (match s.rules.find? fun r => decide (r.kind = k) with
    | some r => decide (ks.length ≤ 20) && matchP r.kids ks
    | none => false)) := rfl
  generalize kidsS s k ks = res at *
  generalize okS s = ok at *
  obtain ⟨root, rules⟩ := s
  simp only [Sc.cells] at f1 f2 hK hx ⊢
  generalize rws sCells ks = krows at *
  generalize hrr : rws Ru.cells rules = rows at *
  refine pure_of_awp good Tryd.func13 rfl (by kernel_rfl) (by decide) ?_
  conv => whnf
  refine .inl (f2.mono ?_)
  rintro r rfl
  cases ok with
  | false =>
    conv => whnf
    rw [hK]; rfl
  | true =>
    conv => whnf
    have he : ruleErr rules k = if hasR rules k = true then nilErr else errV 0 := rfl
    cases hh : hasR rules k with
    | false =>
      rw [find_none hh] at hK
      rw [hh] at he
      obtain ⟨r0, hr0⟩ := ruleOf_cells rules k
      rw [hr0, he] at f1
      obtain ⟨a, b, c⟩ := r0
      simp only [Ru.cells] at f1
      refine .inl (f1.mono ?_)
      rintro r rfl
      conv => whnf
      refine .inl ((errorsIs_same 0).mono ?_)
      rintro r rfl
      conv => whnf
      rw [hK]; rfl
    | true =>
      obtain ⟨i, hi, h1, h2⟩ := find_at k rules 0 (by omega) hh
      have hr0 : ruleOf rules k = rules[i].cells := by unfold ruleOf; rw [h2]
      have f3 := f3 rules[i] (hx _ (List.getElem_mem _))
      rw [h2] at hK
      rw [hh] at he
      rw [hr0, he] at f1
      generalize rules[i] = x at *
      obtain ⟨kind, text, kids⟩ := x
      simp only [Ru.cells] at f1 f3 hK
      generalize rws It.cells kids = irows at *
      refine .inl (f1.mono ?_)
      rintro r rfl
      conv => whnf
      refine .inl ((errorsIs_nil 0).mono ?_)
      rintro r rfl
      conv => whnf
      refine .inl (f3.mono ?_)
      rintro r rfl
      conv => whnf
      rw [hK]; rfl
end Go.Cod

set_option linter.all false
namespace Go.Cod
variable [Adr]
open Go Go.Proofs Go.ChangeShapes Go.WideShapes Go.ChangeAt Go.RowKit
set_option maxRecDepth 10000

set_option maxHeartbeats 4000000 in
theorem lawFnExactSchemaKids (s : Sc) (hs : s.Ok) (k : List UInt8) (_ : k.length ≤ maxLen) (ks : Ks) (hk : ks.length ≤ maxLen ∧ ∀ s ∈ ks, s.length ≤ maxLen) : Pure Tryd.prog 4 [.agg s.cells, .str k, .sl (rws sCells ks)] (· = .bool true) := by
  have hsz := szSchema_pure s hs 1048576 (by omega) (by omega)
  have hle := szSc_le s 1048576 (by omega)
  have hsm := szSc_small s 1048576 (by omega) (by omega)
  have hs2 := szStringS_pure ks hk.1 hk.2 (szSc s 1048576)
  have hsm2 := szLL_str_small ks (szSc s 1048576)
  have f1 := toSchema_pure s
  have g1 := toStringS_pure ks
  have f2 := fun h => specSchemaKids_pure s h k ks
  have f3 := fun h => implSchemaKids_pure s h k ks
  have f4 := eqSchema_pure s
  have g4 := eqStringS_pure ks
  generalize szLL szStr ks (szSc s 1048576) = left2 at *
  generalize szSc s 1048576 = left at *
  generalize kidsS s k ks = w at *
  obtain ⟨root, rules⟩ := s
  simp only [Sc.cells] at hsz f1 f2 f3 f4 ⊢
  generalize rws Ru.cells rules = rows at *
  generalize rws sCells ks = krows at *
  refine pure_of_awp good Tryd.func4 rfl (by kernel_rfl) (by decide) ?_
  conv => whnf
  by_cases a0 : 1048576 < (k.length : Int)
  · rw [ltB_t a0]
    conv => whnf
  rw [ltB_f (by omega)]
  conv => whnf
  refine .inl (hsz.mono ?_)
  rintro r rfl
  conv => whnf
  by_cases a1 : left < 0
  · rw [ltB_t a1]
    conv => whnf
  rw [ltB_f (by omega)]
  have hs2 := hs2 (by omega) (by omega)
  conv => whnf
  refine .inl (hs2.mono ?_)
  rintro r rfl
  conv => whnf
  by_cases a2 : left2 < 0
  · rw [ltB_t a2]
    conv => whnf
  rw [ltB_f (by omega)]
  have hS := hsm (by omega)
  have hS2 := hsm2 (by omega) (by omega) (by omega)
  have f1 := f1 hS
  have f2 := f2 hS
  have f3 := f3 hS
  have f4 := f4 hS
  have g1 := g1 hS2.1
  have g4 := g4 hS2.1
  conv => whnf
  refine .inl (f1.mono ?_)
  rintro r rfl
  conv => whnf
  refine .inl (g1.mono ?_)
  rintro r rfl
  conv => whnf
  refine .inl (f2.mono ?_)
  rintro r rfl
  conv => whnf
  refine .inl (f1.mono ?_)
  rintro r rfl
  conv => whnf
  refine .inl (g1.mono ?_)
  rintro r rfl
  conv => whnf
  refine .inl (f3.mono ?_)
  rintro r rfl
  cases w
  all_goals
    conv => whnf
    refine ⟨_, .inl f1, ?_⟩
    conv => whnf
    refine ⟨_, .inl f4, ?_⟩
    conv => whnf
    refine .inl (g1.mono ?_)
    rintro r rfl
    conv => whnf
    refine .inl (g4.mono ?_)
    rintro r rfl
    conv => whnf
omit [Adr]
theorem conFnExactSchemaKids (H : Type) (enc : TypeId × Value → H) (W : World) (base : Nat) (args : Array Value) (ds gs : List (DataW H)) (before : List MemPlace)
    (hval : ∀ (j : Nat) t v, Tryd.f4.params[j]? = some t → args[j]? = some v → Value.okWide Tryd.prog W .any base t v)
    (hW : DataW.Whole enc Tryd.prog Tryd.f4.params.toList YtbcnbleblcdboaaDoor.Rows.fnExactSchemaKidsSpec.vars false W args.toList ds gs before) (hL : laidMetH Tryd.prog YtbcnbleblcdboaaDoor.Rows.fnExactSchemaKidsRow.laid W) {fresh handsOn again : Bool} :
    Calls Tryd.prog 4 args W fun e W' => ∃ v, e = .returned v ∧ YtbcnbleblcdboaaDoor.Rows.fnExactSchemaKidsSpec.post enc Tryd.prog Tryd.f4 false fresh handsOn again W args v W' := by
  have hm : laidMet Tryd.prog YtbcnbleblcdboaaDoor.Rows.fnExactSchemaKidsRow.laid W := by
    rw [← MakeChecks.laidMetH_plain _ _ _ (by kernel_rfl)]; exact hL
  obtain ⟨⟨a0, c0, l0⟩, hm⟩ := laid_err hm (g := 0) (by kernel_rfl) (by kernel_rfl)
  obtain ⟨⟨a1, c1, l1⟩, hm⟩ := laid_err hm (g := 1) (by kernel_rfl) (by kernel_rfl)
  obtain ⟨⟨a2, c2, l2⟩, hm⟩ := laid_err hm (g := 2) (by kernel_rfl) (by kernel_rfl)
  obtain ⟨⟨a3, c3, l3⟩, hm⟩ := laid_err hm (g := 3) (by kernel_rfl) (by kernel_rfl)
  letI A : Adr := ⟨fun g => match g with | 0 => a0 | 1 => a1 | 2 => a2 | 3 => a3 | _ => default⟩
  have hlaid : Laid (oldP W) W := by
    intro g cs h
    match g, h with
    | 0, h => cases h; exact rep_var c0 l0 rfl
    | 1, h => cases h; exact rep_var c1 l1 rfl
    | 2, h => cases h; exact rep_var c2 l2 rfl
    | 3, h => cases h; exact rep_var c3 l3 rfl
    | g + 4, h => cases h
  refine law_callsV kids full globals_ok (tb := 4) rfl Tryd.underlying4 (by decide +kernel) hW (fun ds gs h h' => by match ds, gs, h, h' with | [_, _, _], [_, _, _, _], _, _ => exact ⟨rfl, rfl, rfl⟩) hval
    (Ss := [fun x => ∃ vs, x = .agg vs ∧ ∃ c : Sc, vs = c.cells ∧ c.Ok, fun x => ∃ s, [x] = [.str s] ∧ s.length ≤ maxLen, fun x => ∃ ss : List (List UInt8), [x] = [.sl (rws (fun s => [.str s]) ss)] ∧ ss.length ≤ maxLen ∧ ∀ s ∈ ss, s.length ≤ maxLen]) hlaid ?_ ?_
  · rw [Tryd.params4]
    exact ⟨argSchema, readsA_str Tryd.underlying9, argStrs, trivial⟩
  · intro xs h
    obtain ⟨_, _, _, rfl, ⟨_, rfl, t0, rfl, h0⟩, ⟨t1, e1, h1⟩, ⟨t2, e2, h2⟩⟩ := hold3 h
    cases e1
    cases e2
    exact lawFnExactSchemaKids t0 h0 t1 h1 t2 h2

theorem doorFnExactSchemaKids (os : Os) (args : Array Value) : laidMetH Tryd.prog YtbcnbleblcdboaaDoor.Rows.fnExactSchemaKidsRow.laid ((World.doorLaid Tryd.prog 400 os).forCall (fun _ _ => 0) ⟨#[], args, []⟩).memory :=
  laidMetH_of_parts3 (fuel := 8) (laidMet_of_run' 8 (by kernel_rfl) (by kernel_rfl)) (by kernel_rfl) (by kernel_rfl)

set_option maxRecDepth 100000 in
theorem rowFnExactSchemaKids : YtbcnbleblcdboaaDoor.Rows.FnExactSchemaKidsSaid :=
  OpenClaim.holds_of_wide 4 Tryd.f4 rfl rfl rfl rfl rfl rfl rfl ⟨rfl, rfl, rfl, rfl, rfl⟩ rfl rfl rfl rfl rfl (by kernel_rfl) Tryd.func4 (by kernel_rfl)
    (of_decide_eq_true (by kernel_rfl)) (by unfold Func.isWrapper; first | (rw [if_pos (by decide +kernel)]; kernel_rfl) | (rw [if_neg (by decide +kernel)]; exact ⟨rfl, rfl⟩))
    (fun os started H enc _ => returnsInHanded_of_change_and (C := Tryd.checked) (X := fun w _ => laidMetH Tryd.prog YtbcnbleblcdboaaDoor.Rows.fnExactSchemaKidsRow.laid w) (fun _ _ _ hh h => h.of_heap hh) ownK started (by kernel_rfl) Tryd.func4
      (ChangeSpec.witness_shaped (enc := enc) (C := Tryd.checked) (os := os) (X := fun w _ => laidMetH Tryd.prog YtbcnbleblcdboaaDoor.Rows.fnExactSchemaKidsRow.laid w) false (World.doorLaid Tryd.prog 400 os) #[.agg #[.string "".toByteArray, .slice none 0 0], .string "".toByteArray, .slice none 0 0] 8 rfl (World.shaped_of_RefB (by kernel_rfl) (by kernel_rfl)) (by kernel_rfl) (by kernel_rfl) (by kernel_rfl) (doorFnExactSchemaKids os _))
      (fun W base args ds gs before hval hW _ _ hL _ => conFnExactSchemaKids H enc W base args ds gs before hval hW hL))

set_option maxRecDepth 100000 in
theorem overFnExactSchemaKids : YtbcnbleblcdboaaDoor.Rows.FnExactSchemaKidsCardSaid :=
  Claim7.holds_tied_plain_at .later [] [.sentinel, .sentinel, .sentinel, .sentinel] true (true, "d2accd19744a004247f5c3c1c9b39eb102d422a16e12d1d8347fa074d369ec57") true
    rowFnExactSchemaKids (fun _ h => by cases h) (by kernel_rfl) (fun _ h => by cases h) YtbcnbleblcdboaaDoor.fnExactSchemaKids_row_tie rfl ⟨rfl, rfl⟩ (by kernel_rfl) rfl
    (fun f fn hf hfn => by
      obtain rfl : f = 4 := Option.some.inj ((show Tryd.prog.funcNamed "loop.example/codicil/laws.FnExactSchemaKids" = some 4 by kernel_rfl).symm.trans hf) |>.symm
      obtain rfl : fn = Tryd.f4 := (Option.some.inj (Tryd.func4.symm.trans hfn)).symm
      exact ⟨by kernel_rfl, fun j t ht => by
        rw [Tryd.params4] at ht
        have hm : t ∈ ([24, 9, 33] : List Nat) := by simpa using Array.mem_of_getElem? ht
        have hall : (([24, 9, 33] : List Nat).all fun u => !Tryd.prog.wantsStandIn u) = true := by kernel_rfl
        exact (show Tryd.prog.wantsStandIn t = false by simpa using List.all_eq_true.1 hall t hm)⟩)
    (by kernel_rfl)
end Go.Cod

