/- Own texts. -/
import Derived.Test.YtjpgaceonhaolaaChecked
import Derived.Test.YtjpgaceonhaolaaRows
import Derived.WalkKit
import Derived.ProofKit
import Derived.OpenShut
import Derived.JoinedOf
import Derived.Handed
import Derived.Test.YtjpgaceonhaolaaCodD
namespace Go.Cod
open Go Go.Proofs
instance lam0 : Lam := ⟨fun _ => none, fun g => Nat.beq g 999999, fun g => Nat.beq g 999999⟩
theorem laid0 {Pr : Nat → Nat → Prop} {w : World} : Laid Pr w := fun g cs h => by cases h

def tauL : List (Nat × TI) := [
  (1, ⟨.other, 1, 8, .raw .nilFunc, [], []⟩),
  (2, ⟨.int .i64, 1, 8, .int .i64 0, [], []⟩),
  (3, ⟨.int .i64, 1, 8, .int .i64 0, [], []⟩),
  (4, ⟨.bool, 1, 1, .bool false, [], []⟩),
  (5, ⟨.int .u8, 1, 1, .int .u8 0, [], []⟩),
  (6, ⟨.int .u8, 1, 1, .int .u8 0, [], []⟩),
  (7, ⟨.agg, 4, 24, .agg [.int .i64 0, .int .i64 0, .bool false, .int .u8 0], [(0, 1, false), (1, 1, false), (2, 1, false), (3, 1, false)], []⟩),
  (8, ⟨.agg, 4, 24, .agg [.int .i64 0, .int .i64 0, .bool false, .int .u8 0], [(0, 1, false), (1, 1, false), (2, 1, false), (3, 1, false)], []⟩),
  (9, ⟨.str, 1, 16, .str [], [], []⟩),
  (10, ⟨.str, 1, 16, .str [], [], []⟩),
  (11, ⟨.str, 1, 16, .str [], [], []⟩),
  (12, ⟨.int .u64, 1, 8, .int .u64 0, [], []⟩),
  (13, ⟨.agg, 2, 24, .agg [.str [], .int .u64 0], [(0, 1, false), (1, 1, false)], []⟩),
  (14, ⟨.agg, 2, 24, .agg [.str [], .int .u64 0], [(0, 1, false), (1, 1, false)], []⟩),
  (15, ⟨.ptr, 1, 8, .raw (.pointer none), [], []⟩),
  (16, ⟨.ptr, 1, 8, .raw (.pointer none), [], []⟩),
  (17, ⟨.ptr, 1, 8, .raw (.pointer none), [], []⟩),
  (18, ⟨.agg, 1, 8, .agg [.raw (.pointer none)], [(0, 1, false)], []⟩),
  (19, ⟨.agg, 1, 8, .agg [.raw (.pointer none)], [(0, 1, false)], []⟩),
  (20, ⟨.iface, 1, 16, .raw .nilIface, [], []⟩),
  (21, ⟨.int .i32, 1, 4, .int .i32 0, [], []⟩),
  (22, ⟨.slice 9, 1, 24, .nils, [], []⟩),
  (23, ⟨.agg, 3, 56, .agg [.nils, .str [], .str []], [(0, 1, false), (1, 1, false), (2, 1, false)], []⟩),
  (24, ⟨.agg, 3, 56, .agg [.nils, .str [], .str []], [(0, 1, false), (1, 1, false), (2, 1, false)], []⟩),
  (25, ⟨.other, 1, 8, .raw .nilFunc, [], []⟩),
  (26, ⟨.other, 1, 8, .raw .nilFunc, [], []⟩),
  (27, ⟨.agg, 3, 56, .agg [.nils, .str [], .str []], [(0, 1, false), (1, 1, false), (2, 1, false)], []⟩),
  (28, ⟨.other, 1, 8, .raw .nilFunc, [], []⟩),
  (29, ⟨.other, 1, 8, .raw .nilFunc, [], []⟩),
  (30, ⟨.other, 1, 8, .raw .nilFunc, [], []⟩),
  (31, ⟨.other, 1, 8, .raw .nilFunc, [], []⟩),
  (32, ⟨.other, 1, 8, .raw .nilFunc, [], []⟩),
  (33, ⟨.other, 1, 8, .raw .nilFunc, [], []⟩),
  (34, ⟨.other, 1, 8, .raw .nilFunc, [], []⟩),
  (35, ⟨.other, 1, 8, .raw .nilFunc, [], []⟩),
  (36, ⟨.other, 1, 8, .raw .nilFunc, [], []⟩),
  (37, ⟨.other, 1, 8, .raw .nilFunc, [], []⟩),
  (38, ⟨.other, 1, 8, .raw .nilFunc, [], []⟩),
  (39, ⟨.other, 1, 8, .raw .nilFunc, [], []⟩),
  (40, ⟨.other, 1, 8, .raw .nilFunc, [], []⟩),
  (41, ⟨.other, 1, 8, .raw .nilFunc, [], []⟩),
  (42, ⟨.agg, 4, 40, .agg [.raw (.pointer none), .raw (.pointer none), .raw (.pointer none), .str []], [(0, 1, false), (1, 1, false), (2, 1, false), (3, 1, false)], []⟩),
  (43, ⟨.agg, 4, 40, .agg [.raw (.pointer none), .raw (.pointer none), .raw (.pointer none), .str []], [(0, 1, false), (1, 1, false), (2, 1, false), (3, 1, false)], []⟩),
  (47, ⟨.other, 1, 8, .raw .nilFunc, [], []⟩),
  (48, ⟨.int .u32, 1, 4, .int .u32 0, [], []⟩),
  (49, ⟨.int .u8, 1, 1, .int .u8 0, [], []⟩),
  (50, ⟨.int .u8, 1, 1, .int .u8 0, [], []⟩),
  (51, ⟨.other, 1, 8, .raw .nilFunc, [], []⟩),
  (52, ⟨.ptr, 1, 8, .raw (.pointer none), [], []⟩),
  (53, ⟨.int .i32, 1, 4, .int .i32 0, [], []⟩),
  (54, ⟨.int .i32, 1, 4, .int .i32 0, [], []⟩),
  (55, ⟨.agg, 11, 48, .agg [.int .u64 0, .int .u64 0, .int .u32 0, .int .u8 0, .int .u8 0, .int .u8 0, .int .u8 0, .raw .nilFunc, .raw (.pointer none), .int .i32 0, .int .i32 0], [(0, 1, false), (1, 1, false), (2, 1, false), (3, 1, false), (4, 1, false), (5, 1, false), (6, 1, false), (7, 1, false), (8, 1, false), (9, 1, false), (10, 1, false)], []⟩),
  (56, ⟨.agg, 11, 48, .agg [.int .u64 0, .int .u64 0, .int .u32 0, .int .u8 0, .int .u8 0, .int .u8 0, .int .u8 0, .raw .nilFunc, .raw (.pointer none), .int .i32 0, .int .i32 0], [(0, 1, false), (1, 1, false), (2, 1, false), (3, 1, false), (4, 1, false), (5, 1, false), (6, 1, false), (7, 1, false), (8, 1, false), (9, 1, false), (10, 1, false)], []⟩)]
theorem good : TauGood Try.prog (tauOf tauL) := tauGood (by kernel_rfl) (by kernel_rfl) (by decide)
end Go.Cod

namespace Go.Cod
open Go Go.Proofs Go.ChangeShapes Go.WideShapes Go.ChangeAt Go.RowKit
set_option maxRecDepth 10000

/- Commits as arguments. -/
theorem kids : Kids Try.prog (· < Try.prog.types.size) := kids_rows (by kernel_rfl) (by kernel_rfl)
theorem full : ∀ t e, t < Try.prog.types.size → Try.prog.underlying t = some (.slice e) → 0 < Try.prog.cellsOf e := slices_full_of Try.prog (by kernel_rfl)
def srows (ss : List (List UInt8)) : List (List V) := ss.map fun s => [.str s]
theorem srows_len (ss : List (List UInt8)) : (srows ss).length = ss.length := by simp [srows]
theorem srows_get (ss : List (List UInt8)) (i : Nat) (h : i < ss.length) : (srows ss)[i]? = some [.str ss[i]] := by simp [srows, h]
theorem srows_take (ss : List (List UInt8)) (i : Nat) : (srows ss).take i = srows (ss.take i) := by simp [srows]
structure Cm where
  over : List (List UInt8)
  tree : List UInt8
  note : List UInt8
def Cm.cells (c : Cm) : List V := [.sl (srows c.over), .str c.tree, .str c.note]
structure Cm.Ok (c : Cm) : Prop where
  n : c.over.length ≤ maxLen
  o : ∀ s ∈ c.over, s.length ≤ maxLen
  t : c.tree.length ≤ maxLen
  x : c.note.length ≤ maxLen
theorem str_list : ∀ (es : List (List V)), (∀ r ∈ es, ∃ s : List UInt8, r = [.str s] ∧ s.length ≤ maxLen) → ∃ ss : List (List UInt8), es = srows ss ∧ ∀ s ∈ ss, s.length ≤ maxLen
  | [], _ => ⟨[], rfl, fun s h => (by cases h)⟩
  | r :: rs, h => by
    obtain ⟨s, rfl, hs⟩ := h r (by simp)
    obtain ⟨ss, rfl, hl⟩ := str_list rs fun r hr => h r (List.mem_cons_of_mem _ hr)
    refine ⟨s :: ss, rfl, fun u hu => ?_⟩
    rcases List.mem_cons.1 hu with rfl | hu
    · exact hs
    · exact hl u hu
theorem reads_commit {H : Type} {enc : TypeId × Value → H} {w : World} (n : Nat) : Reads enc Try.prog w n 24 fun vs => ∃ c : Cm, vs = c.cells ∧ c.Ok := by
  have hS := reads_struct (enc := enc) (P := Try.prog) (w := w) (n := n) (t := 24)
    (Ss := [fun vs => ∃ es, vs = [.sl es] ∧ es.length ≤ maxLen ∧ ∀ r ∈ es, (∃ s, r = [.str s] ∧ s.length ≤ maxLen) ∧ r.length = Try.prog.cellsOf 9 ∧ (∀ v ∈ r, v.leaf = true) ∧ V.clean.cleanL 0 r = true,
      fun vs => ∃ s, vs = [.str s] ∧ s.length ≤ maxLen, fun vs => ∃ s, vs = [.str s] ∧ s.length ≤ maxLen])
    kids (by decide +kernel) Try.underlying24 rfl ?_
  · intro cs x h
    obtain ⟨vs, ⟨_, _, rfl, ⟨es, rfl, hel, her⟩, _, _, rfl, ⟨t, rfl, ht⟩, _, _, rfl, ⟨s, rfl, hs⟩, rfl⟩, h2⟩ := hS cs x h
    obtain ⟨ss, rfl, hss⟩ := str_list es fun r hr => (her r hr).1
    exact ⟨_, ⟨⟨ss, t, s⟩, by simp [Cm.cells], ⟨by rw [srows_len] at hel; exact hel, hss, ht, hs⟩⟩, h2⟩
  · intro m hm j f S h1 h2
    match j with
    | 0 => simp at h1 h2; subst h1 h2; exact reads_slice Try.underlying22 (by decide +kernel) fun m _ => reads_str Try.underlying9
    | 1 => simp at h1 h2; subst h1 h2; exact reads_str Try.underlying9
    | 2 => simp at h1 h2; subst h1 h2; exact reads_str Try.underlying9
    | j + 3 => simp at h1
theorem argCommit {H : Type} {enc : TypeId × Value → H} {W : World} : ReadsA enc Try.prog W 24 fun x => ∃ vs, x = .agg vs ∧ ∃ c : Cm, vs = c.cells ∧ c.Ok := readsA_agg Try.underlying24 fun n => reads_commit n
/- Sizes. -/
def szSg : List (List UInt8) → Int → Int
  | [], l => l
  | s :: ss, l => if l - s.length < 0 then -1 else szSg ss (l - s.length)
def szSs (ss : List (List UInt8)) (left : Int) : Int := if left - ss.length < 0 then -1 else szSg ss (left - ss.length)
def szCm (c : Cm) (left : Int) : Int := if szSs c.over left < 0 then -1 else if szSs c.over left - c.tree.length < 0 then -1 else if szSs c.over left - c.tree.length - c.note.length < 0 then -1 else szSs c.over left - c.tree.length - c.note.length
theorem szSg_drop (ss : List (List UInt8)) (i : Nat) (h : i < ss.length) (l : Int) : szSg (ss.drop i) l = if l - ss[i].length < 0 then -1 else szSg (ss.drop (i + 1)) (l - ss[i].length) := by
  rw [List.drop_eq_getElem_cons h]; rfl
theorem szSg_le : ∀ (ss : List (List UInt8)) (l : Int), 0 ≤ l → szSg ss l ≤ l ∧ -1 ≤ szSg ss l
  | [], l, h => by simp only [szSg]; omega
  | s :: ss, l, h => by
    simp only [szSg]
    split
    · omega
    · have := szSg_le ss (l - s.length) (by omega); omega
theorem szSg_small : ∀ (ss : List (List UInt8)) (l : Int), 0 ≤ l → 0 ≤ szSg ss l → ∀ s ∈ ss, (s.length : Int) ≤ l
  | [], _, _, _ => fun s h => (by cases h)
  | s :: ss, l, h0, h => by
    simp only [szSg] at h
    split at h
    · omega
    rename_i hn
    intro u hu
    rcases List.mem_cons.1 hu with rfl | hu
    · omega
    · have := szSg_small ss (l - s.length) (by omega) h u hu; omega
theorem szSs_le (ss : List (List UInt8)) (left : Int) (h : 0 ≤ left) : szSs ss left ≤ left ∧ -1 ≤ szSs ss left := by
  unfold szSs
  split
  · omega
  · have := szSg_le ss (left - ss.length) (by omega); omega
/-- What is not too great. -/
structure Cm.Sm (c : Cm) : Prop where
  n : c.over.length ≤ 1048576
  o : ∀ s ∈ c.over, s.length ≤ 1048576
  t : c.tree.length ≤ 1048576
  x : c.note.length ≤ 1048576
theorem szCm_small (c : Cm) (h : 0 ≤ szCm c 1048576) : c.Sm := by
  have hle := szSs_le c.over 1048576 (by omega)
  unfold szCm at h
  split at h
  · omega
  split at h
  · omega
  split at h
  · omega
  rename_i h1 h2 h3
  have h4 : 0 ≤ szSs c.over 1048576 := by omega
  unfold szSs at h4
  split at h4
  · omega
  rename_i h6
  have h5 := szSg_small c.over (1048576 - c.over.length) (by omega) h4
  exact ⟨by omega, fun s hs => by have := h5 s hs; omega, by omega, by omega⟩
set_option maxHeartbeats 4000000 in
theorem szStringS_pure (ss : List (List UInt8)) (hl : ss.length ≤ maxLen) (ho : ∀ s ∈ ss, s.length ≤ maxLen) (left : Int) (h0 : 0 ≤ left) (h1 : left ≤ 1048576) : Pure Try.prog 9 [.sl (srows ss), .int .i64 left] (· = .int .i64 (szSs ss left)) := by
  have hlen := srows_len ss
  have hget := srows_get ss
  have hd : szSs ss left = if left - ss.length < 0 then -1 else szSg (ss.drop 0) (left - ss.length) := rfl
  have hml : (ss.length : Int) ≤ 9223372036854775807 := by simp only [maxLen] at hl; omega
  generalize szSs ss left = res at *
  generalize srows ss = rows at *
  refine pure_of_awp good Try.func9 rfl (by kernel_rfl) (by decide) ?_
  conv => whnf
  rw [hlen, wrap64 (by omega) (by omega)]
  by_cases a1 : left - ss.length < 0
  · rw [ltB_t a1]
    conv => whnf
    rw [hd, if_pos a1]
  rw [ltB_f (by omega)]
  conv => whnf
  rw [if_neg a1] at hd
  refine loop_intro (fun n fr st => ∃ (i : Nat) (l : Int), n + i = ss.length ∧ 0 ≤ l ∧ l ≤ 1048576 ∧ res = szSg (ss.drop i) l ∧ st = [] ∧ Holds fr [(0, .sl rows), (1, .int .i64 l), (5, .int .i64 i)]) ss.length
    ⟨0, _, rfl, by omega, by omega, hd, rfl, rfl, rfl, rfl, trivial⟩ ?_
  rintro n fr st ⟨i, l, hi, l0, l1, hr, rfl, hh⟩
  obtain ⟨fr, rfl⟩ := hh.split
  clear hh
  conv => whnf
  by_cases hlt : i < ss.length
  · rw [hlen, ltB_t (by omega)]
    have hg := hget i hlt
    have hs := szSg_drop ss i hlt l
    have hm := ho ss[i] (List.getElem_mem _)
    simp only [maxLen] at hm
    generalize ss[i] = s at *
    conv => whnf
    refine ⟨by omega, rows, _, 1, rfl, hg, rfl, rfl, ?_⟩
    conv => whnf
    rw [wrap64 (by omega) (by omega)]
    by_cases a2 : l - s.length < 0
    · rw [ltB_t a2]
      conv => whnf
      rw [hr, hs, if_pos a2]
    rw [ltB_f (by omega)]
    conv => whnf
    rw [if_neg a2] at hs
    refine ⟨n - 1, by omega, i + 1, l - s.length, by omega, by omega, by omega, hr.trans hs, rfl, rfl, rfl, ?_, trivial⟩
    show V.int .i64 (IntKind.i64.wrap (i + 1)) = _
    rw [wrap64 (by omega) (by omega)]; simp
  · rw [hlen, ltB_f (by omega)]
    conv => whnf
    rw [hr, List.drop_of_length_le (by omega)]
    rfl
theorem szCommit_pure (c : Cm) (hc : c.Ok) : Pure Try.prog 4 [.agg c.cells, .int .i64 1048576] (· = .int .i64 (szCm c 1048576)) := by
  have f1 := szStringS_pure c.over hc.n hc.o 1048576 (by omega) (by omega)
  have hle := szSs_le c.over 1048576 (by omega)
  have ht := hc.t
  have hx := hc.x
  simp only [maxLen] at ht hx
  have hd : szCm c 1048576 = if szSs c.over 1048576 < 0 then -1 else if szSs c.over 1048576 - c.tree.length < 0 then -1 else if szSs c.over 1048576 - c.tree.length - c.note.length < 0 then -1 else szSs c.over 1048576 - c.tree.length - c.note.length := rfl
  generalize szCm c 1048576 = r at *
  generalize szSs c.over 1048576 = l at *
  obtain ⟨over, tree, note⟩ := c
  simp only [Cm.cells] at f1 ht hx hd ⊢
  generalize srows over = rows at *
  refine pure_of_awp good Try.func4 rfl (by kernel_rfl) (by decide) ?_
  conv => whnf
  refine .inl (f1.mono ?_)
  rintro r' rfl
  conv => whnf
  by_cases a1 : l < 0
  · rw [ltB_t a1]
    conv => whnf
    rw [hd, if_pos a1]
  rw [ltB_f (by omega)]
  rw [if_neg a1] at hd
  conv => whnf
  rw [wrap64 (by omega) (by omega)]
  by_cases a2 : l - tree.length < 0
  · rw [ltB_t a2]
    conv => whnf
    rw [hd, if_pos a2]
  rw [ltB_f (by omega)]
  rw [if_neg a2] at hd
  conv => whnf
  rw [wrap64 (by omega) (by omega)]
  by_cases a3 : l - tree.length - note.length < 0
  · rw [ltB_t a3]
    conv => whnf
    rw [hd, if_pos a3]
  rw [ltB_f (by omega)]
  rw [if_neg a3] at hd
  conv => whnf
  rw [hd]
def strs (n : Nat) : List (List UInt8) := List.replicate n []
set_option maxHeartbeats 4000000 in
theorem toStringS_pure (ss : List (List UInt8)) (hl : ss.length ≤ 1048576) : Pure Try.prog 11 [.sl (srows ss)] (· = .sl (srows ss)) := by
  have hlen := srows_len ss
  have hget := srows_get ss
  have hz : ∀ i, i < ss.length → (srows (ss.take i ++ strs (ss.length - i)))[i]? = some [.str []] := fun i h => by
    have hl : (ss.take i).length = i := by rw [List.length_take]; omega
    unfold srows strs
    rw [List.getElem?_map, List.getElem?_append_right (by omega), hl, Nat.sub_self, List.getElem?_replicate, if_pos (by omega)]
    rfl
  have hset : ∀ i (h : i < ss.length), (srows (ss.take i ++ strs (ss.length - i))).set i [.str ss[i]] = srows (ss.take (i + 1) ++ strs (ss.length - (i + 1))) := fun i h => by
    unfold srows strs
    have hl : ((ss.take i).map fun s => [V.str s]).length = i := by rw [List.length_map, List.length_take]; omega
    rw [List.map_append, List.set_append_right _ _ (by omega), hl, Nat.sub_self, show ss.length - i = (ss.length - (i + 1)) + 1 by omega, List.replicate_succ, List.map_cons, List.set_cons_zero, List.take_succ_eq_append_getElem h, List.map_append, List.map_append, List.append_assoc]
    rfl
  have hall : srows (ss.take ss.length ++ strs (ss.length - ss.length)) = srows ss := by simp [strs]
  have hini : srows (ss.take 0 ++ strs (ss.length - 0)) = List.replicate ss.length [.str []] := by simp [srows, strs]
  refine pure_of_awp good Try.func11 rfl (by kernel_rfl) (by decide) ?_
  conv => whnf
  refine ⟨by omega, by omega, ?_⟩
  conv => whnf
  refine ⟨by show (Int.toNat _) * 16 ≤ _; omega, by omega, ?_⟩
  conv => whnf
  refine loop_drop (fun n fr st => ∃ i : Nat, n + i = ss.length ∧ st = [⟨srows (ss.take i ++ strs (ss.length - i)), 1, true, true, false, .cell⟩] ∧ Holds fr [(0, .sl (srows ss)), (3, .own 0), (4, .int .i64 i)]) ss.length none
    ⟨0, rfl, by rw [hini, ← hlen]; rfl, rfl, rfl, rfl, trivial⟩ ?_
  rintro n fr st ⟨i, hi, rfl, hh⟩
  obtain ⟨fr, rfl⟩ := hh.split
  clear hh
  conv => whnf
  by_cases hlt : i < ss.length
  · rw [ltB_t (by omega)]
    conv => whnf
    have hg := hget i hlt
    have hzi := hz i hlt
    have hsi := hset i hlt
    refine ⟨by omega, _, _, 1, rfl, hg, rfl, rfl, ?_⟩
    conv => whnf
    refine ⟨by omega, _, _, 1, rfl, hzi, rfl, rfl, ?_⟩
    conv => whnf
    refine AtRow_intro _ hzi ?_
    conv => whnf
    refine ⟨n - 1, by omega, none, i + 1, by omega, ?_, rfl, rfl, ?_, trivial⟩
    · rw [← hsi]; rfl
    · show V.int .i64 (IntKind.i64.wrap (i + 1)) = _
      rw [wrap64 (by omega) (by omega)]; simp
  · rw [ltB_f (by omega)]
    have hil : i = ss.length := by omega
    subst hil
    rw [hall]
    conv => whnf
theorem toCommit_pure (c : Cm) (hc : c.Sm) : Pure Try.prog 6 [.agg c.cells] (· = .agg c.cells) := by
  have f1 := toStringS_pure c.over hc.n
  obtain ⟨over, tree, note⟩ := c
  simp only [Cm.cells] at f1 ⊢
  refine pure_of_awp good Try.func6 rfl (by kernel_rfl) (by decide) ?_
  conv => whnf
  refine .inl (f1.mono ?_)
  rintro r rfl
  conv => whnf
  rfl
theorem eqB_refl (a : Int) : eqB a a = true := eqB_t rfl
theorem eqS_refl (a : List UInt8) : eqS a a = true := eqS_t rfl
theorem eqStringS_pure (ss : List (List UInt8)) (hl : ss.length ≤ 1048576) : Pure Try.prog 13 [.sl (srows ss), .sl (srows ss)] (· = .bool true) := by
  have hlr := srows_len ss
  refine pure_of_awp good Try.func13 rfl (by kernel_rfl) (by decide) ?_
  conv => whnf
  rw [eqB_refl]
  conv => whnf
  refine loop_intro (fun n fr st => ∃ i : Nat, n + i = ss.length ∧ st = [] ∧ Holds fr [(0, .sl (srows ss)), (1, .sl (srows ss)), (5, .int .i64 i)]) ss.length
    ⟨0, rfl, rfl, rfl, rfl, rfl, trivial⟩ ?_
  rintro n fr st ⟨i, hi, rfl, hh⟩
  obtain ⟨fr, rfl⟩ := hh.split
  clear hh
  conv => whnf
  by_cases hlt : i < ss.length
  · rw [ltB_t (by omega)]
    conv => whnf
    have hg := srows_get ss i hlt
    refine ⟨by omega, srows ss, _, 1, rfl, hg, rfl, rfl, ?_⟩
    conv => whnf
    refine ⟨by omega, srows ss, _, 1, rfl, hg, rfl, rfl, ?_⟩
    conv => whnf
    rw [eqS_refl]
    conv => whnf
    refine ⟨n - 1, by omega, i + 1, by omega, rfl, rfl, rfl, ?_, trivial⟩
    show V.int .i64 (IntKind.i64.wrap (i + 1)) = _
    rw [wrap64 (by omega) (by omega)]; simp
  · rw [ltB_f (by omega)]
    conv => whnf
theorem eqCommit_pure (c : Cm) (hc : c.Sm) : Pure Try.prog 8 [.agg c.cells, .agg c.cells] (· = .bool true) := by
  have f1 := eqStringS_pure c.over hc.n
  obtain ⟨over, tree, note⟩ := c
  simp only [Cm.cells] at f1 ⊢
  generalize srows over = rows at *
  refine pure_of_awp good Try.func8 rfl (by kernel_rfl) (by decide) ?_
  conv => whnf
  refine .inl (f1.mono ?_)
  rintro r rfl
  conv => whnf
  rw [eqS_refl]
  conv => whnf
  rw [eqS_refl]
  conv => whnf
end Go.Cod

namespace Go.Cod
open Go Go.Proofs
set_option maxRecDepth 10000

/- What a commit must be; how it is written. -/
def hexB (b : UInt8) : Bool := decide ((48 ≤ b.toNat ∧ b.toNat ≤ 57) ∨ (97 ≤ b.toNat ∧ b.toNat ≤ 102))
def noteB (b : UInt8) : Bool := decide (32 ≤ b.toNat ∧ b.toNat ≤ 126)
def keyL (s : List UInt8) : Bool := s.all hexB && decide (s.length = 64)
def overB (ss : List (List UInt8)) : Bool := decide (ss.length ≤ 2) && ss.all keyL && decide ss.Nodup
def okC (c : Cm) : Bool := overB c.over && keyL c.tree && decide (c.note.length ≤ 12) && c.note.all noteB
def ovT (ss : List (List UInt8)) (acc : List UInt8) : List UInt8 := match ss with
  | [] => acc
  | s :: ss => ovT ss (acc ++ ([111, 118, 101, 114, 32] ++ s ++ [10]))
def headC : List UInt8 := [99, 111, 109, 109, 105, 116, 10]
def textC (c : Cm) : List UInt8 := ovT c.over headC ++ [116, 114, 101, 101, 32] ++ c.tree ++ [10, 110, 111, 116, 101, 32] ++ c.note ++ [10]
def writeC (c : Cm) : List UInt8 := if okC c = true then textC c else []
theorem take_all {α : Type} {p : α → Bool} {s : List α} {i : Nat} (h : i < s.length) : (s.take (i + 1)).all p = ((s.take i).all p && p s[i]) := by
  rw [List.take_succ_eq_append_getElem h, List.all_append]; simp
theorem ovT_drop (ss : List (List UInt8)) (i : Nat) (h : i < ss.length) (acc : List UInt8) : ovT (ss.drop i) acc = ovT (ss.drop (i + 1)) (acc ++ ([111, 118, 101, 114, 32] ++ ss[i] ++ [10])) := by
  rw [List.drop_eq_getElem_cons h]; rfl
theorem all_no {α : Type} {p : α → Bool} {s : List α} {i : Nat} (h : i < s.length) (hp : p s[i] = false) : s.all p = false := by
  rw [List.all_eq_false]; exact ⟨s[i], List.getElem_mem _, by simp [hp]⟩
/- impl's. -/
theorem textHasOnly_pure (s : List UInt8) (hs : s.length ≤ 9223372036854775806) (g : Nat) (p : UInt8 → Bool) (hp : ∀ b : UInt8, Pure Try.prog g [cellB b] (· = .bool (p b))) :
    Pure Try.prog 17 [.str s, .fn g []] (· = .bool (s.all p)) := by
  refine pure_of_awp good Try.func17 rfl (by kernel_rfl) (by decide) ?_
  conv => whnf
  refine loop_intro (fun n fr st => st = [] ∧ ∃ i : Nat, n + i = s.length ∧ (s.take i).all p = true ∧ Holds fr [(0, .str s), (1, .fn g []), (7, .int .i64 s.length), (8, .int .i64 i)]) s.length ⟨rfl, 0, rfl, rfl, rfl, rfl, rfl, rfl, trivial⟩ ?_
  rintro n fr st ⟨rfl, i, hi, hx, hh⟩
  obtain ⟨fr, rfl⟩ := hh.split
  clear hh
  conv => whnf
  by_cases hlt : i < s.length
  · rw [ltB_t (by omega)]
    conv => whnf
    refine ⟨by omega, s[i], by simp [hlt], ?_⟩
    conv => whnf
    have hst := take_all (p := p) hlt
    have hno : p s[i] = false → s.all p = false := all_no hlt
    refine .inl ((hp s[i]).mono ?_)
    rintro r rfl
    cases a : p s[i]
    · conv => whnf
      rw [hno a]
    conv => whnf
    refine ⟨n - 1, by omega, rfl, i + 1, by omega, by rw [hst, hx, a]; rfl, rfl, rfl, rfl, ?_, trivial⟩
    show V.int .i64 (IntKind.i64.wrap (i + 1)) = _
    rw [wrap64 (by omega) (by omega)]; simp
  · rw [ltB_f (by omega)]
    conv => whnf
    rw [List.take_of_length_le (by omega)] at hx
    rw [hx]
theorem isFigure_pure (b : UInt8) : Pure Try.prog 22 [cellB b] (· = .bool (decide (48 ≤ b.toNat ∧ b.toNat ≤ 57))) := by
  refine pure_of_awp good Try.func22 rfl (by kernel_rfl) (by decide) ?_
  conv => whnf
  by_cases h1 : (48 : Int) ≤ (b.toNat : Int)
  · rw [leB_t (by omega)]
    conv => whnf
    congr 1
    rw [leB_def]
    exact decide_eq_decide.2 (by omega)
  · rw [leB_f (by omega)]
    conv => whnf
    congr 1
    symm
    exact decide_eq_false (by omega)
theorem isSumFigure_pure (b : UInt8) : Pure Try.prog 20 [cellB b] (· = .bool (hexB b)) := by
  have f1 := isFigure_pure b
  refine pure_of_awp good Try.func20 rfl (by kernel_rfl) (by decide) ?_
  conv => whnf
  refine .inl (f1.mono ?_)
  rintro r rfl
  by_cases h0 : 48 ≤ b.toNat ∧ b.toNat ≤ 57
  · rw [decide_eq_true h0]
    conv => whnf
    congr 1
    symm
    exact decide_eq_true (.inl h0)
  rw [decide_eq_false h0]
  conv => whnf
  by_cases h1 : (97 : Int) ≤ (b.toNat : Int)
  · rw [leB_t (by omega)]
    conv => whnf
    congr 1
    rw [leB_def, hexB]
    exact decide_eq_decide.2 (by omega)
  · rw [leB_f (by omega)]
    conv => whnf
    congr 1
    symm
    exact decide_eq_false (by omega)
theorem isNoteText_pure (b : UInt8) : Pure Try.prog 18 [cellB b] (· = .bool (noteB b)) := by
  refine pure_of_awp good Try.func18 rfl (by kernel_rfl) (by decide) ?_
  conv => whnf
  by_cases h1 : (32 : Int) ≤ (b.toNat : Int)
  · rw [leB_t (by omega)]
    conv => whnf
    congr 1
    rw [leB_def, noteB]
    exact decide_eq_decide.2 (by omega)
  · rw [leB_f (by omega)]
    conv => whnf
    congr 1
    symm
    exact decide_eq_false (by omega)
theorem sumOk_pure (s : List UInt8) (hs : s.length ≤ 1048576) : Pure Try.prog 16 [.str s] (· = .bool (keyL s)) := by
  have f1 := textHasOnly_pure s (by omega) _ hexB isSumFigure_pure
  have hk : keyL s = (s.all hexB && decide (s.length = 64)) := rfl
  generalize keyL s = k at *
  refine pure_of_awp good Try.func16 rfl (by kernel_rfl) (by decide) ?_
  conv => whnf
  by_cases h : (s.length : Int) = 64
  · rw [eqB_t h]
    conv => whnf
    refine .inl (f1.mono ?_)
    rintro r rfl
    conv => whnf
    rw [hk, decide_eq_true (by omega)]; simp
  · rw [eqB_f h]
    conv => whnf
    rw [hk, decide_eq_false (by omega)]; simp
/- Contains. -/
theorem index_pure (ss : List (List UInt8)) (x : List UInt8) (hl : ss.length ≤ 1048576) : Pure Try.prog 21 [.sl (srows ss), .str x] (fun r => ∃ k : Int, r = .int .i64 k ∧ (0 ≤ k ↔ x ∈ ss)) := by
  have hlr := srows_len ss
  have hgr := srows_get ss
  generalize srows ss = rows at *
  refine pure_of_awp good Try.func21 rfl (by kernel_rfl) (by decide) ?_
  conv => whnf
  refine loop_intro (fun n fr st => st = [] ∧ ∃ i : Nat, n + i = ss.length ∧ x ∉ ss.take i ∧ Holds fr [(0, .sl rows), (1, .str x), (7, .int .i64 ss.length), (8, .int .i64 i)]) ss.length ⟨rfl, 0, rfl, by simp, rfl, rfl, by rw [← hlr]; rfl, rfl, trivial⟩ ?_
  rintro n fr st ⟨rfl, i, hi, hx, hh⟩
  obtain ⟨fr, rfl⟩ := hh.split
  clear hh
  conv => whnf
  by_cases hlt : i < ss.length
  · rw [ltB_t (by omega)]
    conv => whnf
    have hg := hgr i hlt
    have hmem : ss[i] ∈ ss := List.getElem_mem _
    have htk : ss.take (i + 1) = ss.take i ++ [ss[i]] := List.take_succ_eq_append_getElem hlt
    generalize ss[i] = y at *
    refine ⟨by omega, rows, _, 1, rfl, hg, rfl, rfl, ?_⟩
    conv => whnf
    by_cases hxy : x = y
    · rw [eqS_t hxy]
      conv => whnf
      exact ⟨i, rfl, ⟨fun _ => hxy ▸ hmem, fun _ => by omega⟩⟩
    · rw [eqS_f hxy]
      conv => whnf
      refine ⟨n - 1, by omega, rfl, i + 1, by omega, ?_, rfl, rfl, rfl, ?_, trivial⟩
      · rw [htk]
        intro h
        rcases List.mem_append.1 h with h | h
        · exact hx h
        · exact hxy (List.mem_singleton.1 h)
      · show V.int .i64 (IntKind.i64.wrap (i + 1)) = _
        rw [wrap64 (by omega) (by omega)]; simp
  · rw [ltB_f (by omega)]
    conv => whnf
    rw [List.take_of_length_le (by omega)] at hx
    exact ⟨-1, rfl, ⟨fun h => absurd h (by omega), fun h => absurd h hx⟩⟩
theorem contains_pure (ss : List (List UInt8)) (x : List UInt8) (hl : ss.length ≤ 1048576) : Pure Try.prog 19 [.sl (srows ss), .str x] (· = .bool (decide (x ∈ ss))) := by
  have f1 := index_pure ss x hl
  generalize srows ss = rows at *
  refine pure_of_awp good Try.func19 rfl (by kernel_rfl) (by decide) ?_
  conv => whnf
  refine .inl (f1.mono ?_)
  rintro r ⟨k, rfl, hk⟩
  conv => whnf
  congr 1
  rw [leB_def]
  exact decide_eq_decide.2 hk
theorem nodup_take {ss : List (List UInt8)} {i : Nat} (h : i < ss.length) : (ss.take (i + 1)).Nodup ↔ (ss.take i).Nodup ∧ ss[i] ∉ ss.take i := by
  rw [List.take_succ_eq_append_getElem h, List.nodup_append]
  simp only [List.nodup_cons, List.not_mem_nil, not_false_eq_true, List.nodup_nil, and_self, List.mem_singleton, forall_eq, true_and]
  exact ⟨fun ⟨a, b⟩ => ⟨a, fun h => b _ h rfl⟩, fun ⟨a, b⟩ => ⟨a, fun x hx e => b (e ▸ hx)⟩⟩
set_option maxHeartbeats 4000000 in
theorem commitOverOk_pure (ss : List (List UInt8)) (hs : ∀ s ∈ ss, s.length ≤ 1048576) (hl : ss.length ≤ 1048576) : Pure Try.prog 15 [.sl (srows ss)] (· = .bool (overB ss)) := by
  have hlr := srows_len ss
  have hgr := srows_get ss
  have hw : ∀ r ∈ srows ss, r.length = 1 := fun r hr => by obtain ⟨s, _, rfl⟩ := List.mem_map.1 hr; rfl
  have htk := srows_take ss
  have hO : overB ss = (decide (ss.length ≤ 2) && ss.all keyL && decide ss.Nodup) := rfl
  generalize overB ss = res at *
  generalize hrows : srows ss = rows at *
  refine pure_of_awp good Try.func15 rfl (by kernel_rfl) (by decide) ?_
  conv => whnf
  by_cases h2 : (2 : Int) < (ss.length : Int)
  · rw [hlr, ltB_t h2]
    conv => whnf
    rw [hO, decide_eq_false (by omega)]; rfl
  rw [hlr, ltB_f (by omega)]
  conv => whnf
  refine loop_intro (fun n fr st => st = [] ∧ ∃ i : Nat, n + i = ss.length ∧ (ss.take i).all keyL = true ∧ (ss.take i).Nodup ∧ Holds fr [(0, .sl rows), (8, .sl rows), (9, .int .i64 ss.length), (10, .int .i64 i)]) ss.length ⟨rfl, 0, rfl, rfl, by simp, rfl, rfl, by rw [← hlr]; rfl, rfl, trivial⟩ ?_
  rintro n fr st ⟨rfl, i, hi, hx, hn, hh⟩
  obtain ⟨fr, rfl⟩ := hh.split
  clear hh
  conv => whnf
  by_cases hlt : i < ss.length
  · rw [ltB_t (by omega)]
    conv => whnf
    have hg := hgr i hlt
    have f1 := sumOk_pure ss[i] (hs _ (List.getElem_mem _))
    have f2 := contains_pure (ss.take i) ss[i] (by rw [List.length_take]; omega)
    have hno : keyL ss[i] = false → ss.all keyL = false := all_no hlt
    have hst := take_all (p := keyL) hlt
    have hnt := nodup_take hlt
    have hnd : ss[i] ∈ ss.take i → ¬ ss.Nodup := fun h hd => by
      have h3 : (ss.take (i + 1)).Nodup := hd.sublist (List.take_sublist _ _)
      exact (hnt.1 h3).2 h
    rw [← htk] at f2
    generalize ss[i] = y at *
    refine ⟨by omega, rows, _, 1, rfl, hg, rfl, rfl, ?_⟩
    conv => whnf
    refine .inl (f1.mono ?_)
    rintro r rfl
    cases hk : keyL y with
    | false =>
      conv => whnf
      rw [hO, hno hk]; simp
    | true =>
      conv => whnf
      refine ⟨hw, ?_⟩
      conv => whnf
      refine ⟨by omega, by omega, ?_⟩
      conv => whnf
      refine .inl (f2.mono ?_)
      rintro r rfl
      by_cases hm : y ∈ ss.take i
      · rw [decide_eq_true hm]
        conv => whnf
        rw [hO, decide_eq_false (hnd hm)]; simp
      · rw [decide_eq_false hm]
        conv => whnf
        refine ⟨n - 1, by omega, rfl, i + 1, by omega, by rw [hst, hx, hk]; rfl, hnt.2 ⟨hn, hm⟩, rfl, rfl, rfl, ?_, trivial⟩
        show V.int .i64 (IntKind.i64.wrap (i + 1)) = _
        rw [wrap64 (by omega) (by omega)]; simp
  · rw [ltB_f (by omega)]
    conv => whnf
    rw [List.take_of_length_le (by omega)] at hx hn
    rw [hO, hx, decide_eq_true hn, decide_eq_true (by omega)]; rfl
end Go.Cod

namespace Go.Cod
open Go Go.Proofs
set_option maxRecDepth 10000

theorem commitOk_pure (c : Cm) (hc : c.Sm) : Pure Try.prog 12 [.agg c.cells] (· = .bool (okC c)) := by
  have f1 := commitOverOk_pure c.over hc.o hc.n
  have f2 := sumOk_pure c.tree hc.t
  have hx := hc.x
  have f3 := textHasOnly_pure c.note (by omega) _ noteB isNoteText_pure
  have hO : okC c = (overB c.over && keyL c.tree && decide (c.note.length ≤ 12) && c.note.all noteB) := rfl
  generalize okC c = res at *
  obtain ⟨over, tree, note⟩ := c
  simp only [Cm.cells] at f1 f2 f3 hO hx ⊢
  generalize srows over = rows at *
  generalize overB over = b1 at *
  generalize keyL tree = b2 at *
  generalize note.all noteB = b3 at *
  refine pure_of_awp good Try.func12 rfl (by kernel_rfl) (by decide) ?_
  conv => whnf
  refine .inl (f1.mono ?_)
  rintro r rfl
  cases b1 with
  | false =>
    conv => whnf
    rw [hO]; rfl
  | true =>
    conv => whnf
    refine .inl (f2.mono ?_)
    rintro r rfl
    cases b2 with
    | false =>
      conv => whnf
      rw [hO]; rfl
    | true =>
      conv => whnf
      by_cases h : (note.length : Int) ≤ 12
      · rw [leB_t h]
        conv => whnf
        refine .inl (f3.mono ?_)
        rintro r rfl
        conv => whnf
        rw [hO, decide_eq_true (by omega)]; rfl
      · rw [leB_f (by omega)]
        conv => whnf
        rw [hO, decide_eq_false (by omega)]; rfl
set_option maxHeartbeats 4000000 in
theorem implCommitWrite_pure (c : Cm) (hc : c.Sm) : Pure Try.prog 7 [.agg c.cells] (· = .str (writeC c)) := by
  have f1 := commitOk_pure c hc
  have hO : writeC c = if okC c = true then textC c else [] := rfl
  have hT : textC c = ovT (c.over.drop 0) headC ++ [116, 114, 101, 101, 32] ++ c.tree ++ [10, 110, 111, 116, 101, 32] ++ c.note ++ [10] := rfl
  have hn := hc.n
  have ho := hc.o
  have ht := hc.t
  have hx := hc.x
  generalize writeC c = res at *
  generalize textC c = tx at *
  generalize okC c = ok at *
  obtain ⟨over, tree, note⟩ := c
  simp only [Cm.cells] at f1 hT hn ho ht hx ⊢
  have hlr := srows_len over
  have hgr := srows_get over
  generalize srows over = rows at *
  refine pure_of_awp good Try.func7 rfl (by kernel_rfl) (by decide) ?_
  conv => whnf
  refine .inl (f1.mono ?_)
  rintro r rfl
  cases ok with
  | false =>
    conv => whnf
    rw [hO]; rfl
  | true =>
    rw [if_pos rfl] at hO
    conv => whnf
    refine loop_drop (fun n fr st => ∃ (i : Nat) (acc : List UInt8), n + i = over.length ∧ acc.length ≤ 7 + i * 1048582 ∧ ovT (over.drop 0) headC = ovT (over.drop i) acc ∧ st = [⟨[[.sl rows, .str tree, .str note]], 3, true, true, true, .cell⟩] ∧
        Holds fr [(1, .ptr 0 0 0), (3, .str acc), (10, .sl rows), (11, .int .i64 over.length), (12, .int .i64 i)]) over.length none
      ⟨0, headC, rfl, by simp [headC], rfl, rfl, rfl, rfl, rfl, by rw [← hlr]; rfl, rfl, trivial⟩ ?_
    rintro n fr st ⟨i, acc, hi, hal, hov, rfl, hh⟩
    obtain ⟨fr, rfl⟩ := hh.split
    clear hh
    conv => whnf
    by_cases hlt : i < over.length
    · rw [ltB_t (by omega)]
      conv => whnf
      have hg := hgr i hlt
      have hd := ovT_drop over i hlt acc
      have hl := ho over[i] (List.getElem_mem _)
      generalize over[i] = y at *
      refine ⟨by omega, rows, _, 1, rfl, hg, rfl, rfl, ?_⟩
      conv => whnf
      refine ⟨by simp; omega, ?_⟩
      conv => whnf
      refine ⟨by simp; omega, ?_⟩
      conv => whnf
      refine ⟨by simp; omega, ?_⟩
      conv => whnf
      refine ⟨n - 1, by omega, none, i + 1, _, by omega, ?_, hov.trans hd, rfl, rfl, rfl, rfl, rfl, ?_, trivial⟩
      · simp only [List.length_append, List.length_cons, List.length_nil]; omega
      · show V.int .i64 (IntKind.i64.wrap (i + 1)) = _
        rw [wrap64 (by omega) (by omega)]; simp
    · rw [ltB_f (by omega)]
      have hil : i = over.length := by omega
      subst hil
      rw [List.drop_length] at hov
      have hov : ovT (over.drop 0) headC = acc := hov
      conv => whnf
      refine ⟨by simp; omega, ?_⟩
      conv => whnf
      refine ⟨by simp; omega, ?_⟩
      conv => whnf
      refine ⟨by simp; omega, ?_⟩
      conv => whnf
      refine ⟨by simp; omega, ?_⟩
      conv => whnf
      refine ⟨by simp; omega, ?_⟩
      conv => whnf
      rw [hO, hT, hov]
end Go.Cod

namespace Go.Cod
open Go Go.Proofs
set_option maxRecDepth 10000

set_option maxHeartbeats 4000000 in
theorem l8Key_pure (s : List UInt8) (hs : s.length ≤ 1048576) : Pure Try.prog 14 [.str s] (· = .bool (keyL s)) := by
  have hk : keyL s = (s.all hexB && decide (s.length = 64)) := rfl
  generalize keyL s = res at *
  refine pure_of_awp good Try.func14 rfl (by kernel_rfl) (by decide) ?_
  conv => whnf
  refine loop_intro (fun n fr st => st = [] ∧ ∃ i : Nat, n + i = s.length ∧ (s.take i).all hexB = true ∧ Holds fr [(0, .str s), (3, .int .i64 i)]) s.length ⟨rfl, 0, rfl, rfl, rfl, rfl, trivial⟩ ?_
  rintro n fr st ⟨rfl, i, hi, hx, hh⟩
  obtain ⟨fr, rfl⟩ := hh.split
  clear hh
  conv => whnf
  by_cases hlt : i < s.length
  · rw [ltB_t (by omega)]
    conv => whnf
    have hst := take_all (p := hexB) hlt
    have hno : hexB s[i] = false → s.all hexB = false := all_no hlt
    have hgb : s[i]? = some s[i] := by simp [hlt]
    have hw : V.int .i64 (IntKind.i64.wrap ((i : Int) + 1)) = .int .i64 ((i + 1 : Nat) : Int) := by rw [wrap64 (by omega) (by omega)]; simp
    have hhx : hexB s[i] = decide ((48 ≤ s[i].toNat ∧ s[i].toNat ≤ 57) ∨ (97 ≤ s[i].toNat ∧ s[i].toNat ≤ 102)) := rfl
    generalize s[i] = b at *
    have hgo : hexB b = true → ∃ n', n' < n ∧ (([] : St) = [] ∧ ∃ j : Nat, n' + j = s.length ∧ (s.take j).all hexB = true ∧ j = i + 1) := fun h => ⟨n - 1, by omega, rfl, i + 1, by omega, by rw [hst, hx, h]; rfl, rfl⟩
    refine ⟨by omega, b, hgb, ?_⟩
    conv => whnf
    by_cases h1 : (48 : Int) ≤ (b.toNat : Int)
    · rw [leB_t h1]
      conv => whnf
      refine ⟨by omega, b, hgb, ?_⟩
      conv => whnf
      by_cases h2 : (b.toNat : Int) ≤ 57
      · rw [leB_t h2]
        have hb : hexB b = true := by rw [hhx]; exact decide_eq_true (.inl ⟨by omega, by omega⟩)
        conv => whnf
        exact ⟨n - 1, by omega, rfl, i + 1, by omega, by rw [hst, hx, hb]; rfl, rfl, hw, trivial⟩
      · rw [leB_f (by omega)]
        conv => whnf
        refine ⟨by omega, b, hgb, ?_⟩
        conv => whnf
        by_cases h3 : (97 : Int) ≤ (b.toNat : Int)
        · rw [leB_t h3]
          conv => whnf
          refine ⟨by omega, b, hgb, ?_⟩
          conv => whnf
          by_cases h4 : (b.toNat : Int) ≤ 102
          · rw [leB_t h4]
            have hb : hexB b = true := by rw [hhx]; exact decide_eq_true (.inr ⟨by omega, by omega⟩)
            conv => whnf
            exact ⟨n - 1, by omega, rfl, i + 1, by omega, by rw [hst, hx, hb]; rfl, rfl, hw, trivial⟩
          · rw [leB_f (by omega)]
            have hb : hexB b = false := by rw [hhx]; exact decide_eq_false (by omega)
            conv => whnf
            rw [hk, hno hb]; rfl
        · rw [leB_f (by omega)]
          have hb : hexB b = false := by rw [hhx]; exact decide_eq_false (by omega)
          conv => whnf
          rw [hk, hno hb]; rfl
    · rw [leB_f (by omega)]
      have hb : hexB b = false := by rw [hhx]; exact decide_eq_false (by omega)
      conv => whnf
      refine ⟨by omega, b, hgb, ?_⟩
      conv => whnf
      rw [leB_f (by omega)]
      conv => whnf
      rw [hk, hno hb]; rfl
  · rw [ltB_f (by omega)]
    conv => whnf
    rw [List.take_of_length_le (by omega)] at hx
    rw [hk, hx, eqB_def]
    congr 1
    rw [Bool.true_and]
    exact decide_eq_decide.2 (by omega)
/-- What one is ahead of is another one. -/
def adjB : List (List UInt8) → Bool
  | [] => true
  | [_] => true
  | a :: b :: ss => decide (a ≠ b) && adjB (b :: ss)
theorem over_adj (ss : List (List UInt8)) : overB ss = (ss.all keyL && adjB ss && decide (ss.length ≤ 2)) := by
  match ss with
  | [] => rfl
  | [a] => simp [overB, adjB]
  | [a, b] => simp [overB, adjB, Bool.and_comm]
  | a :: b :: c :: ss => simp [overB]
theorem adj_take : ∀ (ss : List (List UInt8)) (i : Nat) (h : i + 1 < ss.length), adjB (ss.take (i + 2)) = (adjB (ss.take (i + 1)) && decide (ss[i] ≠ ss[i + 1]))
  | a :: b :: ss, 0, h => by simp [adjB]
  | a :: b :: ss, i + 1, h => by
    have := adj_take (b :: ss) i (by simpa using h)
    simp only [List.take_succ_cons, adjB, List.getElem_cons_succ] at this ⊢
    rw [this, Bool.and_assoc]
theorem adj_one (ss : List (List UInt8)) : adjB (ss.take 1) = true := by
  cases ss with
  | nil => rfl
  | cons a ss => rfl
theorem adj_mono : ∀ (ss : List (List UInt8)) (i : Nat), adjB (ss.take i) = false → adjB ss = false
  | [], i, h => by simpa using h
  | [a], i, h => by
    cases i <;> simp [adjB] at h
  | a :: b :: ss, 0, h => by simp [adjB] at h
  | a :: b :: ss, 1, h => by simp [adjB] at h
  | a :: b :: ss, i + 2, h => by
    simp only [List.take_succ_cons, adjB, Bool.and_eq_false_iff] at h ⊢
    rcases h with h | h
    · exact .inl h
    · exact .inr (adj_mono (b :: ss) (i + 1) (by simpa [List.take_succ_cons] using h))
set_option maxHeartbeats 8000000 in
theorem l9Ok_pure (c : Cm) (hc : c.Sm) : Pure Try.prog 10 [.agg c.cells] (· = .bool (okC c)) := by
  have hO : okC c = ((c.over.all keyL && adjB c.over && decide (c.over.length ≤ 2)) && keyL c.tree && decide (c.note.length ≤ 12) && c.note.all noteB) := by rw [← over_adj]; rfl
  have f2 := l8Key_pure c.tree hc.t
  have hn := hc.n
  have ho := hc.o
  have ht := hc.t
  have hx := hc.x
  generalize okC c = res at *
  obtain ⟨over, tree, note⟩ := c
  simp only [Cm.cells] at f2 hO hn ho ht hx ⊢
  have hlr := srows_len over
  have hgr := srows_get over
  generalize srows over = rows at *
  generalize keyL tree = kt at *
  refine pure_of_awp good Try.func10 rfl (by kernel_rfl) (by decide) ?_
  conv => whnf
  refine loop_intro (fun n fr st => st = [⟨[[.sl rows, .str tree, .str note]], 3, true, true, true, .cell⟩] ∧ ∃ i : Nat, n + i = over.length ∧ (over.take i).all keyL = true ∧ adjB (over.take i) = true ∧ Holds fr [(1, .ptr 0 0 0), (3, .int .i64 i)]) over.length ⟨rfl, 0, rfl, rfl, rfl, rfl, rfl, trivial⟩ ?_
  rintro n fr st ⟨rfl, i, hi, hk, ha, hh⟩
  obtain ⟨fr, rfl⟩ := hh.split
  clear hh
  conv => whnf
  by_cases hlt : i < over.length
  · rw [hlr, ltB_t (by omega)]
    conv => whnf
    have hg := hgr i hlt
    have f1 := l8Key_pure over[i] (ho _ (List.getElem_mem _))
    have hno : keyL over[i] = false → over.all keyL = false := all_no hlt
    have hst := take_all (p := keyL) hlt
    have hw : V.int .i64 (IntKind.i64.wrap ((i : Int) + 1)) = .int .i64 ((i + 1 : Nat) : Int) := by rw [wrap64 (by omega) (by omega)]; simp
    have hw1 : 0 < i → IntKind.i64.wrap ((i : Int) - 1) = ((i - 1 : Nat) : Int) := fun h => by rw [wrap64 (by omega) (by omega)]; omega
    have hprev : ∀ h : 0 < i, rows[i - 1]? = some [.str (over[i - 1]'(by omega))] := fun h => hgr (i - 1) (by omega)
    have hadj : ∀ h : 0 < i, adjB (over.take (i + 1)) = (adjB (over.take i) && decide (over[i - 1]'(by omega) ≠ over[i])) := fun h => by
      obtain ⟨j, rfl⟩ : ∃ j, i = j + 1 := ⟨i - 1, by omega⟩
      exact adj_take over j hlt
    have hadj0 : i = 0 → adjB (over.take (i + 1)) = true := fun h => by rw [h]; exact adj_one over
    have hmono := adj_mono over (i + 1)
    refine ⟨by omega, rows, _, 1, rfl, hg, rfl, rfl, ?_⟩
    conv => whnf
    refine ⟨_, .inl f1, ?_⟩
    conv => whnf
    cases hky : keyL over[i] with
    | false =>
      conv => whnf
      rw [hO, hno hky]; rfl
    | true =>
      conv => whnf
      by_cases h0 : 0 < i
      · have hprev := hprev h0
        have hadj := hadj h0
        have hw1 := hw1 h0
        generalize over[i] = y at *
        generalize over[i - 1]'(by omega) = z at *
        rw [ltB_t (by omega)]
        conv => whnf
        have hprev2 : rows[(IntKind.i64.wrap ((i : Int) - 1)).toNat]? = some [.str z] := by rw [hw1]; exact hprev
        repeat (first
          | (refine ⟨by omega, rows, _, 1, rfl, hg, rfl, rfl, ?_⟩
             conv => whnf)
          | (refine ⟨by rw [hw1]; omega, rows, _, 1, rfl, hprev2, rfl, rfl, ?_⟩
             conv => whnf))
        by_cases hyz : y = z
        · rw [eqS_t hyz]
          conv => whnf
          have : adjB over = false := hmono (by rw [hadj, decide_eq_false (by simp [hyz])]; simp)
          rw [hO, this]; simp
        · rw [eqS_f hyz]
          conv => whnf
          exact ⟨n - 1, by omega, rfl, i + 1, by omega, by rw [hst, hk, hky]; rfl, by rw [hadj, ha, Bool.true_and]; exact decide_eq_true (show z ≠ y from fun e => hyz e.symm), rfl, hw, trivial⟩
      · rw [ltB_f (by omega)]
        conv => whnf
        exact ⟨n - 1, by omega, rfl, i + 1, by omega, by rw [hst, hk, hky]; rfl, hadj0 (by omega), rfl, hw, trivial⟩
  · rw [hlr, ltB_f (by omega)]
    conv => whnf
    rw [List.take_of_length_le (by omega)] at hk ha
    rw [hk, ha, Bool.true_and, Bool.true_and] at hO
    refine loop_intro (fun n fr st => st = [⟨[[.sl rows, .str tree, .str note]], 3, true, true, true, .cell⟩] ∧ ∃ i : Nat, n + i = note.length ∧ (note.take i).all noteB = true ∧ Holds fr [(1, .ptr 0 0 0), (4, .int .i64 i)]) note.length ⟨rfl, 0, rfl, rfl, rfl, rfl, trivial⟩ ?_
    rintro n fr st ⟨rfl, i, hi, hx2, hh⟩
    obtain ⟨fr, rfl⟩ := hh.split
    clear hh
    conv => whnf
    by_cases hlt : i < note.length
    · rw [ltB_t (by omega)]
      conv => whnf
      have hst := take_all (p := noteB) hlt
      have hno : noteB note[i] = false → note.all noteB = false := all_no hlt
      have hgb : note[i]? = some note[i] := by simp [hlt]
      have hw : V.int .i64 (IntKind.i64.wrap ((i : Int) + 1)) = .int .i64 ((i + 1 : Nat) : Int) := by rw [wrap64 (by omega) (by omega)]; simp
      have hhx : noteB note[i] = decide (32 ≤ note[i].toNat ∧ note[i].toNat ≤ 126) := rfl
      generalize note[i] = b at *
      refine ⟨by omega, b, hgb, ?_⟩
      conv => whnf
      by_cases h1 : (b.toNat : Int) < 32
      · rw [ltB_t h1]
        have hb : noteB b = false := by rw [hhx]; exact decide_eq_false (by omega)
        conv => whnf
        rw [hO, hno hb]; simp
      · rw [ltB_f (by omega)]
        conv => whnf
        refine ⟨by omega, b, hgb, ?_⟩
        conv => whnf
        by_cases h2 : (126 : Int) < (b.toNat : Int)
        · rw [ltB_t h2]
          have hb : noteB b = false := by rw [hhx]; exact decide_eq_false (by omega)
          conv => whnf
          rw [hO, hno hb]; simp
        · rw [ltB_f (by omega)]
          have hb : noteB b = true := by rw [hhx]; exact decide_eq_true ⟨by omega, by omega⟩
          conv => whnf
          exact ⟨n - 1, by omega, rfl, i + 1, by omega, by rw [hst, hx2, hb]; rfl, rfl, hw, trivial⟩
    · rw [ltB_f (by omega)]
      conv => whnf
      rw [List.take_of_length_le (by omega)] at hx2
      rw [hx2, Bool.and_true] at hO
      rw [hlr]
      by_cases h2 : (over.length : Int) ≤ 2
      · rw [leB_t h2]
        conv => whnf
        rw [decide_eq_true (show over.length ≤ 2 by omega), Bool.true_and] at hO
        refine .inl (f2.mono ?_)
        rintro r rfl
        cases kt with
        | false =>
          conv => whnf
          rw [hO]; rfl
        | true =>
          conv => whnf
          rw [hO, leB_def, Bool.true_and]
          congr 1
          exact decide_eq_decide.2 (by omega)
      · rw [leB_f (by omega)]
        conv => whnf
        rw [hO, decide_eq_false (show ¬ over.length ≤ 2 by omega)]; rfl
end Go.Cod

namespace Go.Cod
open Go Go.Proofs Go.ChangeShapes Go.WideShapes Go.ChangeAt Go.RowKit
set_option maxRecDepth 10000

set_option maxHeartbeats 4000000 in
theorem specCommitWrite_pure (c : Cm) (hc : c.Sm) : Pure Try.prog 5 [.agg c.cells] (· = .str (writeC c)) := by
  have f1 := l9Ok_pure c hc
  have hO : writeC c = if okC c = true then textC c else [] := rfl
  have hT : textC c = ovT (c.over.drop 0) headC ++ [116, 114, 101, 101, 32] ++ c.tree ++ [10, 110, 111, 116, 101, 32] ++ c.note ++ [10] := rfl
  have hn := hc.n
  have ho := hc.o
  have ht := hc.t
  have hx := hc.x
  generalize writeC c = res at *
  generalize textC c = tx at *
  generalize okC c = ok at *
  obtain ⟨over, tree, note⟩ := c
  simp only [Cm.cells] at f1 hT hn ho ht hx ⊢
  have hlr := srows_len over
  have hgr := srows_get over
  generalize srows over = rows at *
  refine pure_of_awp good Try.func5 rfl (by kernel_rfl) (by decide) ?_
  conv => whnf
  refine .inl (f1.mono ?_)
  rintro r rfl
  cases ok with
  | false =>
    conv => whnf
    rw [hO]; rfl
  | true =>
    rw [if_pos rfl] at hO
    conv => whnf
    refine loop_drop (fun n fr st => ∃ (i : Nat) (acc : List UInt8), n + i = over.length ∧ acc.length ≤ 7 + i * 1048582 ∧ ovT (over.drop 0) headC = ovT (over.drop i) acc ∧ st = [⟨[[.sl rows, .str tree, .str note]], 3, true, true, true, .cell⟩] ∧
        Holds fr [(1, .ptr 0 0 0), (3, .str acc), (4, .int .i64 i)]) over.length none
      ⟨0, headC, rfl, by simp [headC], rfl, rfl, rfl, rfl, rfl, trivial⟩ ?_
    rintro n fr st ⟨i, acc, hi, hal, hov, rfl, hh⟩
    obtain ⟨fr, rfl⟩ := hh.split
    clear hh
    conv => whnf
    by_cases hlt : i < over.length
    · rw [hlr, ltB_t (by omega)]
      conv => whnf
      have hg := hgr i hlt
      have hd := ovT_drop over i hlt acc
      have hl := ho over[i] (List.getElem_mem _)
      generalize over[i] = y at *
      have hacc : acc ++ ([111, 118, 101, 114, 32] ++ y ++ [10]) = acc ++ [111, 118, 101, 114, 32] ++ y ++ [10] := by simp
      rw [hacc] at hd
      refine ⟨by simp; omega, ?_⟩
      conv => whnf
      refine ⟨by omega, rows, _, 1, rfl, hg, rfl, rfl, ?_⟩
      conv => whnf
      refine ⟨by simp; omega, ?_⟩
      conv => whnf
      refine ⟨by simp; omega, ?_⟩
      conv => whnf
      refine ⟨n - 1, by omega, none, i + 1, _, by omega, ?_, hov.trans hd, rfl, rfl, rfl, ?_, trivial⟩
      · simp only [List.length_append, List.length_cons, List.length_nil]; omega
      · show V.int .i64 (IntKind.i64.wrap (i + 1)) = _
        rw [wrap64 (by omega) (by omega)]; simp
    · rw [hlr, ltB_f (by omega)]
      have hil : i = over.length := by omega
      subst hil
      rw [List.drop_length] at hov
      have hov : ovT (over.drop 0) headC = acc := hov
      conv => whnf
      refine ⟨by simp; omega, ?_⟩
      conv => whnf
      refine ⟨by simp; omega, ?_⟩
      conv => whnf
      refine ⟨by simp; omega, ?_⟩
      conv => whnf
      refine ⟨by simp; omega, ?_⟩
      conv => whnf
      refine ⟨by simp; omega, ?_⟩
      conv => whnf
      rw [hO, hT, hov]
theorem ownK : ownKnob Try.prog.godebug = none := by kernel_rfl
set_option maxHeartbeats 4000000 in
theorem lawFnExactCommitWrite (c : Cm) (hc : c.Ok) : Pure Try.prog 3 [.agg c.cells] (· = .bool true) := by
  have hsz := szCommit_pure c hc
  have hsm := szCm_small c
  have f1 := toCommit_pure c
  have f2 := specCommitWrite_pure c
  have f3 := implCommitWrite_pure c
  have f4 := eqCommit_pure c
  generalize szCm c 1048576 = left at *
  generalize writeC c = w at *
  obtain ⟨over, tree, note⟩ := c
  simp only [Cm.cells] at hsz f1 f2 f3 f4 ⊢
  generalize srows over = rows at *
  refine pure_of_awp good Try.func3 rfl (by kernel_rfl) (by decide) ?_
  conv => whnf
  refine .inl (hsz.mono ?_)
  rintro r rfl
  conv => whnf
  by_cases a1 : left < 0
  · rw [ltB_t a1]
    conv => whnf
  rw [ltB_f (by omega)]
  have hS := hsm (by omega)
  have f1 := f1 hS
  have f2 := f2 hS
  have f3 := f3 hS
  have f4 := f4 hS
  conv => whnf
  refine .inl (f1.mono ?_)
  rintro r rfl
  conv => whnf
  refine .inl (f2.mono ?_)
  rintro r rfl
  conv => whnf
  refine .inl (f1.mono ?_)
  rintro r rfl
  conv => whnf
  refine .inl (f3.mono ?_)
  rintro r rfl
  conv => whnf
  rw [eqS_refl]
  conv => whnf
  refine ⟨_, .inl f1, ?_⟩
  conv => whnf
  refine ⟨_, .inl f4, ?_⟩
  conv => whnf
theorem conFnExactCommitWrite (H : Type) (enc : TypeId × Value → H) (W : World) (base : Nat) (args : Array Value) (ds gs : List (DataW H)) (before : List MemPlace)
    (hval : ∀ (j : Nat) t v, Try.f3.params[j]? = some t → args[j]? = some v → Value.okWide Try.prog W .any base t v)
    (hW : DataW.Whole enc Try.prog Try.f3.params.toList Ytjpgaceonhaolaa.Rows.fnExactCommitWriteSpec.vars false W args.toList ds gs before) {fresh handsOn again : Bool} :
    Calls Try.prog 3 args W fun e W' => ∃ v, e = .returned v ∧ Ytjpgaceonhaolaa.Rows.fnExactCommitWriteSpec.post enc Try.prog Try.f3 false fresh handsOn again W args v W' := by
  refine law_calls kids full (tb := 4) rfl Try.underlying4 (by decide +kernel) rfl hW (fun ds h => by match ds, h with | [_], _ => exact ⟨rfl, rfl, rfl⟩) hval
    (Ss := [fun x => ∃ vs, x = .agg vs ∧ ∃ c : Cm, vs = c.cells ∧ c.Ok]) laid0 ?_ ?_
  · rw [Try.params3]
    exact ⟨argCommit, trivial⟩
  · intro xs h
    obtain ⟨_, rfl, ⟨_, rfl, t0, rfl, h0⟩⟩ := hold1 h
    exact lawFnExactCommitWrite t0 h0

set_option maxRecDepth 100000 in
theorem overFnExactCommitWrite : Ytjpgaceonhaolaa.Rows.FnExactCommitWriteSaid :=
  OpenClaim.holds_of_wide 3 Try.f3 rfl rfl rfl rfl rfl rfl rfl ⟨rfl, rfl, rfl, rfl, rfl⟩ rfl rfl rfl rfl rfl (by kernel_rfl) Try.func3 (by kernel_rfl)
    (of_decide_eq_true (by kernel_rfl)) (by unfold Func.isWrapper; first | (rw [if_pos (by decide +kernel)]; kernel_rfl) | (rw [if_neg (by decide +kernel)]; exact ⟨rfl, rfl⟩))
    (fun os started H enc _ => returnsInHanded_of_change ownK started (by kernel_rfl) Try.func3
      (ChangeSpec.witness6 (enc := enc) (C := Try.checked) false ⟨#[], #[.agg #[.slice none 0 0, .string "".toByteArray, .string "".toByteArray]], []⟩ 8 (by kernel_rfl) (by kernel_rfl) (by kernel_rfl) (by kernel_rfl))
      (fun W base args ds gs before hval hW _ _ => conFnExactCommitWrite H enc W base args ds gs before hval hW))
end Go.Cod

