/- Own texts. -/
import Derived.WalkKit
import Derived.ProofKit
import Derived.Test.YtaekcebacghjoaaDoorCards
import Derived.Test.YtaekcebacghjoaaDoorTie
import Derived.LaidMore
import Derived.LaidOnce
import Derived.SevenTiedAt
import Derived.Test.YtaekcebacghjoaaDoorCodE
namespace Go.Cod
open Go Go.Proofs
set_option maxRecDepth 10000

/- Decimals, as the model writes them. -/
theorem l1Dec_small (n : Nat) (h1 : n < 10) : Pure Tryd.prog 87 [.int .i64 (n : Int)] (· = .str [UInt8.ofNat (48 + n)]) := by
  refine pure_of_awp good Tryd.func87 rfl (by kernel_rfl) (by decide) ?_
  conv => whnf
  rw [ltB_f (by omega)]
  conv => whnf
  rw [ltB_f (by omega)]
  conv => whnf
  rw [ltB_t (by omega)]
  conv => whnf
  refine ⟨[UInt8.ofNat (48 + n)], ?_, ?_⟩
  · have w1 : IntKind.i64.wrap (48 + (n : Int)) = 48 + n := wrap64 (by omega) (by omega)
    rw [w1]
    have : ∀ n < 10, IntKind.u8.wrap (48 + ((n : Nat) : Int)) = (((UInt8.ofNat (48 + n)).toNat : Nat) : Int) := by decide
    show [[V.int .u8 (IntKind.u8.wrap (48 + (n : Int)))]] = [[V.int .u8 _]]
    rw [this n h1]
  · conv => whnf
theorem l1Dec_pure (n : Nat) (h1 : n < 100) : Pure Tryd.prog 87 [.int .i64 (n : Int)] (· = .str (decB n)) := by
  by_cases h : n < 10
  · refine (l1Dec_small n h).mono ?_
    rintro r rfl
    rw [decB, if_pos h]
  · have hr := l1Dec_small (n / 10) (by omega)
    have e : (((n / 10 : Nat)) : Int) = IntKind.i64.wrap ((n : Int).tdiv 10) := by
      rw [Int.tdiv_eq_ediv_of_nonneg (by omega), wrap64 (by omega) (by omega)]; omega
    have e' : (((n % 10 : Nat)) : Int) = (n : Int).tmod 10 := by
      rw [Int.tmod_eq_emod_of_nonneg (by omega)]; omega
    rw [e] at hr
    refine pure_of_awp good Tryd.func87 rfl (by kernel_rfl) (by decide) ?_
    conv => whnf
    rw [ltB_f (by omega)]
    conv => whnf
    rw [ltB_f (by omega)]
    conv => whnf
    rw [ltB_f (by omega)]
    conv => whnf
    refine ⟨by omega, ?_⟩
    conv => whnf
    refine ⟨_, .inl hr, ?_⟩
    conv => whnf
    refine ⟨by omega, ?_⟩
    conv => whnf
    refine ⟨rfl, ?_⟩
    conv => whnf
    refine And.intro ⟨_, .inl hr, rfl⟩ ?_
    conv => whnf
    refine ⟨[UInt8.ofNat (48 + n % 10)], ?_, ?_⟩
    · have : ∀ n < 10, IntKind.u8.wrap ((48 + n : Nat) : Int) = (((UInt8.ofNat (48 + n)).toNat : Nat) : Int) := by decide
      show [[V.int .u8 (IntKind.u8.wrap (IntKind.i64.wrap (48 + (n : Int).tmod 10)))]] = [[V.int .u8 _]]
      rw [← e', show (48 : Int) + ((n % 10 : Nat) : Int) = ((48 + n % 10 : Nat) : Int) by omega, wrap64 (by omega) (by omega), this (n % 10) (by omega)]
    conv => whnf
    refine And.intro ⟨_, .inl hr, rfl⟩ ?_
    conv => whnf
    refine ⟨by simp, ?_⟩
    conv => whnf
    rw [decB, if_neg h]; rfl
theorem placeL_drop (k : List UInt8) (x : Int) (ts : List T) (i : Nat) (h : i < ts.length) : placeL k x (ts.drop i) = if ts[i].id = x then 0 else (if ts[i].kd = k then 1 else 0) + placeL k x (ts.drop (i + 1)) := by
  rw [List.drop_eq_getElem_cons h]; rfl
theorem l12Place_pure (y : T) (hs : y.Small) (x : Int) (s : T) (hf : fT y x = some s) : Pure Tryd.prog 88 [.agg y.cells, .int .i64 x] (· = .int .i64 ((placeL s.kd x y.kids : Nat) : Int)) := by
  have hfp := l2Find_pure y hs x
  rw [hf] at hfp
  cases hs with
  | @mk id kind text kids g1 g2 g3 g4 g5 =>
  show Pure _ _ _ (· = .int .i64 ((placeL s.kd x kids : Nat) : Int))
  have hlr := rows_len kids
  have hdrop := fun i h => placeL_drop s.kd x kids i h
  have hnil : placeL s.kd x (kids.drop kids.length) = 0 := by rw [List.drop_of_length_le (by omega)]; rfl
  have h0 : placeL s.kd x kids = placeL s.kd x (kids.drop 0) := rfl
  clear hf
  obtain ⟨sid, sk, stx, sks⟩ := s
  have hdrop : ∀ i (h : i < kids.length), placeL sk x (kids.drop i) = if kids[i].id = x then 0 else (if kids[i].kd = sk then 1 else 0) + placeL sk x (kids.drop (i + 1)) := hdrop
  have hnil : placeL sk x (kids.drop kids.length) = 0 := hnil
  show Pure _ _ _ (· = .int .i64 ((placeL sk x kids : Nat) : Int))
  have h0 : placeL sk x kids = placeL sk x (kids.drop 0) := h0
  generalize placeL sk x kids = res at *
  refine pure_of_awp good Tryd.func88 rfl (by kernel_rfl) (by decide) ?_
  conv => whnf
  refine .inl (hfp.mono ?_)
  rintro r rfl
  conv => whnf
  refine loop_intro (fun n fr st => ∃ i c : Nat, n + i = kids.length ∧ res = c + placeL sk x (kids.drop i) ∧ c ≤ i ∧
      st = [⟨[[.int .i64 id, .str kind, .str text, .sl (T.rows kids)]], 4, true, true, true, .cell⟩, ⟨[[.int .i64 sid, .str sk, .str stx, .sl (T.rows sks)]], 4, true, true, true, .cell⟩] ∧
      Holds fr [(1, .int .i64 x), (2, .ptr 0 0 0), (5, .ptr 1 0 0), (7, .int .i64 c), (8, .int .i64 i)]) kids.length
    ⟨0, 0, by omega, by omega, by omega, rfl, rfl, rfl, rfl, rfl, rfl, trivial⟩ ?_
  rintro n fr st ⟨i, c, hi, hc, hci, rfl, hh⟩
  obtain ⟨fr, rfl⟩ := hh.split
  clear hh
  conv => whnf
  by_cases hlt : i < kids.length
  · rw [hlr, ltB_t (by omega)]
    conv => whnf
    have hmg := rows_get kids i hlt
    have hdi := hdrop i hlt
    have hcl := cells_len kids[i]
    generalize kids[i] = t at hmg hdi hcl
    refine ⟨by omega, T.rows kids, t.cells, 4, rfl, hmg, rfl, hcl, ?_⟩
    cases t with
    | mk id' kind' text' kids' =>
    have hdi : placeL sk x (kids.drop i) = if id' = x then 0 else (if kind' = sk then 1 else 0) + placeL sk x (kids.drop (i + 1)) := hdi
    conv => whnf
    by_cases a : id' = x
    · rw [if_pos a] at hdi
      rw [eqB_t a]
      conv => whnf
      rw [hc, hdi]; rfl
    · rw [if_neg a] at hdi
      rw [eqB_f a]
      conv => whnf
      refine ⟨by omega, T.rows kids, _, 4, rfl, hmg, rfl, rfl, ?_⟩
      conv => whnf
      by_cases b : kind' = sk
      · rw [if_pos b] at hdi
        rw [eqS_t b]
        conv => whnf
        refine ⟨n - 1, by omega, i + 1, c + 1, by omega, by omega, by omega, rfl, rfl, rfl, rfl, ?_, ?_, trivial⟩
        · show V.int .i64 (IntKind.i64.wrap (c + 1)) = _
          rw [wrap64 (by omega) (by omega)]; simp
        · show V.int .i64 (IntKind.i64.wrap (i + 1)) = _
          rw [wrap64 (by omega) (by omega)]; simp
      · rw [if_neg b] at hdi
        rw [eqS_f b]
        conv => whnf
        refine ⟨n - 1, by omega, i + 1, c, by omega, by omega, by omega, rfl, rfl, rfl, rfl, rfl, ?_, trivial⟩
        show V.int .i64 (IntKind.i64.wrap (i + 1)) = _
        rw [wrap64 (by omega) (by omega)]; simp
  · rw [hlr, ltB_f (by omega)]
    conv => whnf
    have : i = kids.length := by omega
    rw [hc, this, hnil]; rfl
theorem fL_at (s : T) : ∀ (a b : List T), (T.idsL (a ++ s :: b)).Nodup → fL (a ++ s :: b) s.id = some s
  | [], b, _ => by
    obtain ⟨id, kind, text, kids⟩ := s
    simp [fL, fT, T.id]
  | t :: a, b, h => by
    simp only [List.cons_append, T.idsL, List.nodup_append] at h
    have hn : fT t s.id = none := (fT_none t s.id).2 fun hm => h.2.2 _ hm s.id (by rw [idsL_append, T.idsL]; simp [s.id_mem]) rfl
    simp only [List.cons_append, fL, hn]
    exact fL_at s a b h.2.1
theorem wFind_at {pre suf : List Sp} {s : Sp} (h : Good (pre ++ s :: suf)) : wFind (waysA [] (pre ++ s :: suf)) s.1.id = some (mkW (waysA [] pre) s).way := by
  have hn : (mkW (waysA [] pre) s).sp.1.id ∉ (waysA [] pre).map fun x => x.sp.1.id := by
    rw [mkW_sp, waysA_ids]
    have := h.nd
    rw [List.map_append, List.map_cons, List.nodup_append] at this
    exact fun hm => this.2.2 _ hm _ (List.mem_cons_self ..) rfl
  obtain ⟨r, hr⟩ := waysA_ext (pre ++ [s]) suf
  rw [List.append_assoc, waysA_snoc] at hr
  have hr : waysA [] (pre ++ s :: suf) = waysA [] pre ++ [mkW (waysA [] pre) s] ++ r := hr
  have h1 := wFind_snoc (acc := waysA [] pre) (e := mkW (waysA [] pre) s) s.1.id hn
  rw [mkW_sp, if_pos rfl] at h1
  rw [hr, wFind_left, h1]
  simp [mkW_sp]
/-- What the two make of a thing: its way, and of what that is made. -/
theorem way_step {t : T} (hok : okT t = true) {pre suf : List Sp} {s : Sp} (e : spT t 0 1 = pre ++ s :: suf) (h0 : s.2.1 ≠ 0) :
    ∃ p pre1 suf1, pre = pre1 ++ p :: suf1 ∧ p.1.id = s.2.1 ∧ fT t s.2.1 = some p.1 ∧ fT p.1 s.1.id = some s.1 ∧
      (mkW (waysA [] pre) s).way = ((((mkW (waysA [] pre1) p).way ++ [47]) ++ s.1.kd) ++ [46]) ++ decB (placeL s.1.kd s.1.id p.1.kids) ∧ placeL s.1.kd s.1.id p.1.kids < 30 := by
  have hg := good_of_ok hok
  rw [e] at hg
  obtain ⟨p, hp, hpe⟩ : ∃ p ∈ pre, p.1.id = s.2.1 := by
    rcases hg.ov pre s suf rfl with ⟨_, h⟩ | ⟨_, h⟩
    · exact absurd h h0
    · exact h
  obtain ⟨pre1, suf1, rfl⟩ := List.append_of_mem hp
  have hgp := hg.left
  have hnd := ((okT_iff t).1 hok).2.1
  have hft : fT t s.2.1 = some p.1 := by
    rw [fT_sp t s.2.1 0 1, ← hpe]
    have := find_of hnd (s := p) (by rw [e]; simp)
    rw [show p.1.id = idS p from rfl, this]; rfl
  obtain ⟨q1, q2, _⟩ := fT_spec t _ p.1 hft
  have htn : t.ids.Nodup := by rw [← spT_ids t 0 1]; exact hnd
  have hpn := q2.nodup htn
  have hpos := plainT_pos t 1 ((okT_iff' t).1 hok).1 s.2.1 (q1 ▸ q2.subset p.1.id_mem)
  have hk := kids_T t 0 1 p.1 htn (by rw [q1]; omega) (by rw [q1]; exact hft)
  rw [q1, e, List.filter_append, List.filter_cons, if_pos (by simp [inO]), List.map_append, List.map_cons] at hk
  have hin : s.1.id ∉ (((pre1 ++ p :: suf1).filter (inO s.2.1)).map (·.1)).map T.id := by
    rw [List.map_map]
    intro hm
    obtain ⟨x, hx, hxe⟩ := List.mem_map.1 hm
    rw [e, List.map_append, List.map_cons, List.nodup_append] at hnd
    exact hnd.2.2 (idS x) (List.mem_map.2 ⟨x, (List.mem_filter.1 hx).1, rfl⟩) (idS s) (List.mem_cons_self ..) hxe
  have hpl : placeL s.1.kd s.1.id p.1.kids = ((pre1 ++ p :: suf1).filter (inO s.2.1)).countP fun x => decide (x.1.kd = s.1.kd) := by
    rw [← hk, placeL_at _ _ _ _ hin, List.countP_map]; rfl
  refine ⟨p, pre1, suf1, rfl, hpe, hft, ?_, ?_, ?_⟩
  · have hk2 := hk
    obtain ⟨⟨pid, pk, ptx, pks⟩, pov, plv⟩ := p
    have hk2 : _ = pks := hk2
    rw [← hk2] at hpn ⊢
    simp only [T.ids, List.nodup_cons] at hpn
    rw [fT, if_neg]
    · exact fL_at s.1 _ _ hpn.2
    · intro e'
      exact hpn.1 (by rw [e', idsL_append, T.idsL]; simp [s.1.id_mem])
  · rw [hpl, mkW_sub h0, hg.count h0, stemW, ← hpe, wFind_at hgp]
    rfl
  · rw [hpl]
    refine Nat.lt_of_le_of_lt List.countP_le_length ?_
    refine Nat.lt_of_le_of_lt (List.length_filter_le _ _) ?_
    have := hg.len
    simp only [List.length_append, List.length_cons] at this ⊢
    omega
end Go.Cod

namespace Go.Cod
open Go Go.Proofs
set_option maxRecDepth 10000

theorem way_len {t : T} (hs : t.Small) {pre suf : List Sp} {s : Sp} (e : spT t 0 1 = pre ++ s :: suf) (hok : okT t = true) : (mkW (waysA [] pre) s).way.length ≤ 2097152 * 21 := by
  have hall := waysA_kd (l := pre ++ [s]) fun s' hs' => by
    have := spT_sm t 0 1 hs s' (by rw [e]; simp at hs' ⊢; rcases hs' with h | h <;> simp [h])
    obtain ⟨⟨_, _, _, _⟩, _, _⟩ := s'
    cases this with
    | mk g1 g2 g3 g4 g5 => simpa [T.kd] using g2
  have hlen := ((okT_iff t).1 hok).2.2
  rw [e] at hlen
  simp only [List.length_append, List.length_cons] at hlen
  have := hall (mkW (waysA [] pre) s) (by rw [waysA_snoc]; simp)
  rw [waysA_len] at this
  simp only [List.length_append, List.length_cons, List.length_nil] at this
  omega
set_option maxHeartbeats 4000000 in
theorem l12Path_pure (t : T) (hs : t.Small) (hok : okT t = true) : ∀ (n : Nat) (pre : List Sp) (s : Sp) (suf : List Sp), spT t 0 1 = pre ++ s :: suf → pre.length < n → Pure Tryd.prog 57 [.agg t.cells, .int .i64 s.1.id] (· = .str (mkW (waysA [] pre) s).way) := by
  intro n
  induction n with
  | zero => intro pre s suf _ h; omega
  | succ n ih =>
  intro pre s suf e hn
  have hnd := ((okT_iff t).1 hok).2.1
  have hft : fT t s.1.id = some s.1 := by
    have := find_of hnd (s := s) (by rw [e]; simp)
    rw [fT_sp t s.1.id 0 1, show s.1.id = idS s from rfl, this]; rfl
  have hov : overT t s.1.id 0 = s.2.1 := by
    rw [(overT_eq t s.1.id 0 1 (by omega) (okT_ids hok)).1, show s.1.id = idS s from rfl, find_of hnd (s := s) (by rw [e]; simp)]; rfl
  have c1 := l2Find_pure t hs s.1.id
  have c2 := l2Over_pure t hs s.1.id 0
  rw [hft] at c1
  rw [hov] at c2
  have hsm := spT_sm t 0 1 hs s (by rw [e]; simp)
  have hwl := way_len hs e hok
  have hroot : s.2.1 = 0 → (mkW (waysA [] pre) s).way = s.1.kd := fun h => by rw [mkW_root h]
  have hsub : s.2.1 ≠ 0 → ∃ (p : T) (w : List UInt8) (c : Nat), Pure Tryd.prog 86 [.agg t.cells, .int .i64 s.2.1] (· = fR (some p)) ∧ Pure Tryd.prog 57 [.agg t.cells, .int .i64 s.2.1] (· = .str w) ∧
      Pure Tryd.prog 88 [.agg p.cells, .int .i64 s.1.id] (· = .int .i64 (c : Int)) ∧ c < 30 ∧ w.length ≤ 2097152 * 21 ∧ (mkW (waysA [] pre) s).way = (((w ++ [47]) ++ s.1.kd) ++ [46]) ++ decB c := fun h => by
    obtain ⟨p, pre1, suf1, rfl, h1, h2, h3, h4, h5⟩ := way_step hok e h
    have hp := l2Find_pure t hs s.2.1
    rw [h2] at hp
    have e1 : spT t 0 1 = pre1 ++ p :: (suf1 ++ s :: suf) := by rw [e]; simp
    have hpsm := spT_sm t 0 1 hs p (by rw [e]; simp)
    have hpp := ih pre1 p (suf1 ++ s :: suf) e1 (by simp only [List.length_append, List.length_cons] at hn; omega)
    rw [h1] at hpp
    exact ⟨p.1, _, _, hp, hpp, l12Place_pure p.1 hpsm s.1.id s.1 h3, h5, way_len hs e1 hok, h4⟩
  generalize (mkW (waysA [] pre) s).way = way at *
  obtain ⟨⟨sid, sk, stx, sks⟩, ov, lv⟩ := s
  simp only [T.id, T.kd] at c1 c2 hroot hsub ⊢
  cases hsm with
  | mk q1 q2 q3 q4 q5 =>
  cases t with
  | mk id kind text kids =>
  refine pure_of_awp good Tryd.func57 rfl (by kernel_rfl) (by decide) ?_
  conv => whnf
  refine .inl (c1.mono ?_)
  rintro r rfl
  conv => whnf
  refine .inl (c2.mono ?_)
  rintro r rfl
  conv => whnf
  by_cases h0 : ov = 0
  · rw [eqB_t h0]
    conv => whnf
    rw [hroot h0]
  · rw [eqB_f h0]
    conv => whnf
    obtain ⟨p, w, c, d1, d2, d3, d4, d5, d6⟩ := hsub h0
    have d7 := l1Dec_pure c (by omega)
    have d8 := decB_len c
    rcases p with ⟨pid, pk, ptx, pks⟩
    refine .inl (d1.mono ?_)
    rintro r rfl
    conv => whnf
    refine ⟨_, .inl d2, ?_⟩
    conv => whnf
    refine ⟨by simp only [List.length_cons, List.length_nil]; omega, ?_⟩
    conv => whnf
    refine ⟨by simp only [List.length_append, List.length_cons, List.length_nil]; omega, ?_⟩
    conv => whnf
    refine ⟨by simp only [List.length_append, List.length_cons, List.length_nil]; omega, ?_⟩
    conv => whnf
    refine ⟨_, .inl d3, ?_⟩
    conv => whnf
    refine ⟨_, .inl d7, ?_⟩
    conv => whnf
    refine ⟨by simp only [List.length_append, List.length_cons, List.length_nil]; omega, ?_⟩
    conv => whnf
    rw [d6]
/- The first that is so. -/
theorem firstS_find {p : W → Bool} (l : List W) : firstS ((l.filter p).map W.way) = ((l.find? p).map W.way).getD [] := by
  induction l with
  | nil => rfl
  | cons e l ih =>
    rw [List.filter_cons, List.find?_cons]
    cases h : p e with
    | true => rfl
    | false => exact ih
theorem firstI_find {p : W → Bool} (l : List W) : firstI ((l.filter p).map W.id) = ((l.find? p).map W.id).getD 0 := by
  induction l with
  | nil => rfl
  | cons e l ih =>
    rw [List.filter_cons, List.find?_cons]
    cases h : p e with
    | true => rfl
    | false => exact ih
theorem specPathOf_pure (t : T) (hs : t.Small) (hn : t.ids.length ≤ 1048577) (x : Int) : Pure Tryd.prog 23 [.agg t.cells, .int .i64 x] (· = .str (firstS (pathsAt t x))) := by
  have hok := specTreeOk_pure t hs hn
  have c2 := l2Over_pure t hs x 0
  have hkd : pathsAt t x = if okT t then ((waysA [] (spT t 0 1)).filter (W.has x)).map W.way else [] := rfl
  cases hb : okT t with
  | false =>
    rw [hb] at hok hkd
    have hkd : pathsAt t x = [] := hkd
    rw [hkd]
    cases t with
    | mk id kind text kids =>
    refine pure_of_awp good Tryd.func23 rfl (by kernel_rfl) (by decide) ?_
    conv => whnf
    refine .inl (hok.mono ?_)
    rintro r rfl
    conv => whnf
    rfl
  | true =>
    rw [hb] at hok hkd
    have hkd : pathsAt t x = ((waysA [] (spT t 0 1)).filter (W.has x)).map W.way := hkd
    have hnd := ((okT_iff t).1 hb).2.1
    rw [hkd, firstS_find]
    have hov := overT_eq t x 0 1 (by omega) (okT_ids hb)
    have hcase : (overT t x 0 < 0 ∧ ((waysA [] (spT t 0 1)).find? (W.has x)).map W.way = none) ∨ (0 ≤ overT t x 0 ∧ ∃ w, (((waysA [] (spT t 0 1)).find? (W.has x)).map W.way).getD [] = w ∧ Pure Tryd.prog 57 [.agg t.cells, .int .i64 x] (· = .str w)) := by
      cases hf : (spT t 0 1).find? (isId x) with
      | none =>
        refine .inl ⟨?_, ?_⟩
        · have := hov.2
          rw [hf] at this
          simp at this
          omega
        · rw [Option.map_eq_none_iff]
          rw [List.find?_eq_none] at hf ⊢
          intro e he hh
          obtain ⟨pre, s, suf, hsp, rfl⟩ := waysA_mem he
          refine hf s (by rw [hsp]; simp) ?_
          have hh : (mkW (waysA [] pre) s).sp.1.id = x := of_decide_eq_true hh
          rw [mkW_sp] at hh
          exact decide_eq_true hh
      | some s =>
        have hm := List.mem_of_find?_eq_some hf
        have hid0 := List.find?_some hf
        have hid : s.1.id = x := of_decide_eq_true hid0
        obtain ⟨pre, suf, hsp⟩ := List.append_of_mem hm
        refine .inr ⟨hov.2.2 (by rw [hf]; rfl), _, rfl, ?_⟩
        have hw := wFind_at (pre := pre) (suf := suf) (s := s) (by rw [← hsp]; exact good_of_ok hb)
        have := l12Path_pure t hs hb (pre.length + 1) pre s suf hsp (by omega)
        rw [hid] at this hw
        rw [← hsp] at hw
        unfold wFind at hw
        rw [hw]
        exact this
    clear hkd hov
    generalize (((waysA [] (spT t 0 1)).find? (W.has x)).map W.way) = res at *
    generalize overT t x 0 = ov at *
    cases t with
    | mk id kind text kids =>
    refine pure_of_awp good Tryd.func23 rfl (by kernel_rfl) (by decide) ?_
    conv => whnf
    refine .inl (hok.mono ?_)
    rintro r rfl
    conv => whnf
    refine .inl (c2.mono ?_)
    rintro r rfl
    conv => whnf
    rcases hcase with ⟨a, e⟩ | ⟨a, w, e, hw⟩
    · rw [ltB_t a]
      conv => whnf
      rw [e]; rfl
    · rw [ltB_f a]
      conv => whnf
      refine .inl (hw.mono ?_)
      rintro r rfl
      conv => whnf
      rw [e]
theorem waysA_get (l : List Sp) (i : Nat) (h : i < l.length) : (waysA [] l)[i]? = some (mkW (waysA [] (l.take i)) l[i]) := by
  have e : l = l.take i ++ l[i] :: l.drop (i + 1) := by rw [← List.drop_eq_getElem_cons h, List.take_append_drop]
  obtain ⟨r, hr⟩ := waysA_ext (l.take i ++ [l[i]]) (l.drop (i + 1))
  rw [waysA_snoc] at hr
  have hr : waysA [] (l.take i ++ l[i] :: l.drop (i + 1)) = waysA [] (l.take i) ++ [mkW (waysA [] (l.take i)) l[i]] ++ r := by rw [← hr]; simp
  rw [← e] at hr
  rw [hr, List.append_assoc, List.getElem?_append_right (by rw [waysA_len, List.length_take]; omega), waysA_len, List.length_take, Nat.min_eq_left (by omega), Nat.sub_self]
  rfl
theorem specPathFind_pure (t : T) (hs : t.Small) (hn : t.ids.length ≤ 1048577) (p : List UInt8) : Pure Tryd.prog 27 [.agg t.cells, .str p] (· = .int .i64 (firstI (idsAt t p))) := by
  have hok := specTreeOk_pure t hs hn
  have hli := l2Ids_pure t hs hn
  have hkd : idsAt t p = if okT t then ((waysA [] (spT t 0 1)).filter (W.at p)).map W.id else [] := rfl
  cases hb : okT t with
  | false =>
    rw [hb] at hok hkd
    have hkd : idsAt t p = [] := hkd
    rw [hkd]
    cases t with
    | mk id kind text kids =>
    refine pure_of_awp good Tryd.func27 rfl (by kernel_rfl) (by decide) ?_
    conv => whnf
    refine .inl (hok.mono ?_)
    rintro r rfl
    conv => whnf
    rfl
  | true =>
    rw [hb] at hok hkd
    have hkd : idsAt t p = ((waysA [] (spT t 0 1)).filter (W.at p)).map W.id := hkd
    have h20 := ((okT_iff t).1 hb).2.2
    rw [hkd, firstI_find]
    have hids := spT_ids t 0 1
    have hP : ∀ i (h : i < (spT t 0 1).length), Pure Tryd.prog 57 [.agg t.cells, .int .i64 (spT t 0 1)[i].1.id] (· = .str (mkW (waysA [] ((spT t 0 1).take i)) (spT t 0 1)[i]).way) := fun i h =>
      l12Path_pure t hs hb (i + 1) ((spT t 0 1).take i) (spT t 0 1)[i] ((spT t 0 1).drop (i + 1)) (by rw [← List.drop_eq_getElem_cons h, List.take_append_drop]) (by rw [List.length_take]; omega)
    have hG := waysA_get (spT t 0 1)
    have hL := waysA_len (spT t 0 1)
    rw [← hids] at hli
    clear hkd hn hids
    generalize hacc : waysA [] (spT t 0 1) = acc at *
    generalize spT t 0 1 = sps at *
    have hlr := irows_len (sps.map idS)
    have hg := irows_get (sps.map idS)
    cases t with
    | mk id kind text kids =>
    refine pure_of_awp good Tryd.func27 rfl (by kernel_rfl) (by decide) ?_
    conv => whnf
    refine .inl (hok.mono ?_)
    rintro r rfl
    conv => whnf
    refine .inl (hli.mono ?_)
    rintro r rfl
    conv => whnf
    refine loop_intro (fun n fr st => ∃ i : Nat, n + i = sps.length ∧ (acc.take i).find? (W.at p) = none ∧ st = [⟨[[.int .i64 id, .str kind, .str text, .sl (T.rows kids)]], 4, true, true, true, .cell⟩] ∧
        Holds fr [(1, .str p), (2, .ptr 0 0 0), (5, .sl (irows (sps.map idS))), (6, .int .i64 i)]) sps.length
      ⟨0, by omega, by simp, rfl, rfl, rfl, rfl, rfl, trivial⟩ ?_
    rintro n fr st ⟨i, hi, hx, rfl, hh⟩
    obtain ⟨fr, rfl⟩ := hh.split
    clear hh
    conv => whnf
    rw [List.length_map] at hlr
    by_cases hlt : i < sps.length
    · rw [hlr, ltB_t (by omega)]
      conv => whnf
      have hgi := hg i (by rw [List.length_map]; exact hlt)
      have hPi := hP i hlt
      have hGi := hG i hlt
      have htk : (acc.take (i + 1)).find? (W.at p) = [mkW (waysA [] (sps.take i)) sps[i]].find? (W.at p) := by
        rw [List.take_add_one, hGi, List.find?_append, hx]; rfl
      have hall : (mkW (waysA [] (sps.take i)) sps[i]).way = p → (acc.find? (W.at p)) = some (mkW (waysA [] (sps.take i)) sps[i]) := fun e => by
        rw [← List.take_append_drop (i + 1) acc, List.find?_append, htk]
        simp [W.at, e]
      have hid : (mkW (waysA [] (sps.take i)) sps[i]).id = sps[i].1.id := by unfold W.id; rw [mkW_sp]
      rw [List.getElem_map] at hgi
      have hgi : (irows (sps.map idS))[i]? = some [.int .i64 sps[i].1.id] := hgi
      generalize mkW (waysA [] (sps.take i)) sps[i] = e at *
      refine ⟨by omega, irows (sps.map idS), _, 1, rfl, hgi, rfl, rfl, ?_⟩
      conv => whnf
      refine ⟨_, .inl hPi, ?_⟩
      conv => whnf
      by_cases a : e.way = p
      · rw [eqS_t a]
        conv => whnf
        refine ⟨by omega, irows (sps.map idS), _, 1, rfl, hgi, rfl, rfl, ?_⟩
        conv => whnf
        rw [hall a]
        show _ = V.int .i64 e.id
        rw [hid]
      · rw [eqS_f a]
        conv => whnf
        refine ⟨n - 1, by omega, i + 1, by omega, ?_, rfl, rfl, rfl, rfl, ?_, trivial⟩
        · rw [htk]; simp [W.at, a]
        · show V.int .i64 (IntKind.i64.wrap (i + 1)) = _
          rw [wrap64 (by omega) (by omega)]; simp
    · rw [hlr, ltB_f (by omega)]
      conv => whnf
      rw [List.take_of_length_le (by omega)] at hx
      rw [hx]; rfl
end Go.Cod

namespace Go.Cod
open Go Go.Proofs
set_option maxRecDepth 10000

/- Each thing has a way of its own, and is found by it. -/
def pathOf (t : T) (x : Int) : List UInt8 := firstS (pathsAt t x)
def pathFind (t : T) (p : List UInt8) : Int := firstI (idsAt t p)
theorem pathOf_eq (t : T) (x : Int) : pathOf t x = if okT t then ((waysA [] (spT t 0 1)).find? (W.has x)).elim [] W.way else [] := by
  unfold pathOf pathsAt
  split
  · rw [firstS_find]; cases (waysA [] (spT t 0 1)).find? (W.has x) <;> rfl
  · rfl
theorem pathFind_eq (t : T) (p : List UInt8) : pathFind t p = if okT t then ((waysA [] (spT t 0 1)).find? (W.at p)).elim 0 W.id else 0 := by
  unfold pathFind idsAt
  split
  · rw [firstI_find]; cases (waysA [] (spT t 0 1)).find? (W.at p) <;> rfl
  · rfl
theorem way_ne {t : T} (hok : okT t = true) {e : W} (he : e ∈ waysA [] (spT t 0 1)) : e.way ≠ [] := by
  obtain ⟨pre, s, suf, hsp, rfl⟩ := waysA_mem he
  by_cases h : s.2.1 = 0
  · rw [mkW_root h]
    have := (((okT_iff t).1 hok).1 s (by rw [hsp]; simp)).2
    obtain ⟨⟨id, kind, text, kids⟩, ov, lv⟩ := s
    simp only [T.thing_mk, thingB, Bool.and_eq_true] at this
    have hn := this.1.2
    simp only [nameL, Bool.and_eq_true, decide_eq_true_eq] at hn
    show kind ≠ []
    rintro rfl
    simp at hn
  · rw [mkW_sub h]
    simp [stemW]
theorem ways_ids {t : T} (hok : okT t = true) : ((waysA [] (spT t 0 1)).map W.id).Nodup := by
  have := ((okT_iff t).1 hok).2.1
  rw [← waysA_ids] at this
  exact this
theorem way_id_pos {t : T} (hok : okT t = true) {e : W} (he : e ∈ waysA [] (spT t 0 1)) : 1 ≤ e.id := by
  obtain ⟨pre, s, suf, hsp, rfl⟩ := waysA_mem he
  unfold W.id
  rw [mkW_sp]
  refine plainT_pos t 1 ((okT_iff' t).1 hok).1 _ ?_
  rw [← spT_ids t 0 1, hsp]
  exact List.mem_map.2 ⟨s, by simp, rfl⟩
theorem path_found {t : T} {x : Int} (h : pathOf t x ≠ []) : pathFind t (pathOf t x) = x := by
  rw [pathOf_eq] at h ⊢
  split at h
  · rename_i hok
    rw [if_pos hok, pathFind_eq, if_pos hok]
    cases hf : (waysA [] (spT t 0 1)).find? (W.has x) with
    | none => rw [hf] at h; exact absurd rfl h
    | some e =>
      have hm := List.mem_of_find?_eq_some hf
      have hx0 := List.find?_some hf
      have hx : e.id = x := of_decide_eq_true hx0
      show ((waysA [] (spT t 0 1)).find? (W.at e.way)).elim 0 W.id = x
      cases hg : (waysA [] (spT t 0 1)).find? (W.at e.way) with
      | none =>
        rw [List.find?_eq_none] at hg
        exact absurd (show W.at e.way e = true by simp [W.at]) (hg e hm)
      | some e' =>
        have hm' := List.mem_of_find?_eq_some hg
        have hw0 := List.find?_some hg
        have hw : e'.way = e.way := of_decide_eq_true hw0
        rw [inj_of_nodup (good_of_ok hok).nodup e' hm' e hm hw]
        exact hx
  · exact absurd rfl h
theorem find_pathed {t : T} {p : List UInt8} (h : pathFind t p ≠ 0) : pathOf t (pathFind t p) = p := by
  rw [pathFind_eq] at h ⊢
  split at h
  · rename_i hok
    rw [if_pos hok, pathOf_eq, if_pos hok]
    cases hf : (waysA [] (spT t 0 1)).find? (W.at p) with
    | none => rw [hf] at h; exact absurd rfl h
    | some e =>
      have hm := List.mem_of_find?_eq_some hf
      have hx0 := List.find?_some hf
      have hx : e.way = p := of_decide_eq_true hx0
      show ((waysA [] (spT t 0 1)).find? (W.has e.id)).elim [] W.way = p
      cases hg : (waysA [] (spT t 0 1)).find? (W.has e.id) with
      | none =>
        rw [List.find?_eq_none] at hg
        exact absurd (show W.has e.id e = true by simp [W.has, W.id]) (hg e hm)
      | some e' =>
        have hm' := List.mem_of_find?_eq_some hg
        have hw0 := List.find?_some hg
        have hw : e'.id = e.id := of_decide_eq_true hw0
        rw [inj_of_nodup (ways_ids hok) e' hm' e hm hw]
        exact hx
  · exact absurd rfl h
theorem path_none (t : T) (x : Int) : pathOf t x = [] ↔ treeOver t x < 0 := by
  rw [pathOf_eq]
  unfold treeOver spotOf
  split
  · rename_i hok
    cases hf : (waysA [] (spT t 0 1)).find? (W.has x) with
    | none =>
      have : (spT t 0 1).find? (isId x) = none := by
        rw [List.find?_eq_none] at hf ⊢
        intro s hs hh
        obtain ⟨pre, suf, hsp⟩ := List.append_of_mem hs
        obtain ⟨r, hr⟩ := waysA_ext (pre ++ [s]) suf
        rw [waysA_snoc] at hr
        have hm : mkW (waysA [] pre) s ∈ waysA [] (spT t 0 1) := by
          rw [hsp, show pre ++ s :: suf = pre ++ [s] ++ suf by simp, hr]; simp
        refine hf _ hm ?_
        have hh : idS s = x := of_decide_eq_true hh
        exact decide_eq_true (by rw [mkW_sp]; exact hh)
      rw [this]
      exact ⟨fun _ => by show (-1 : Int) < 0; omega, fun _ => rfl⟩
    | some e =>
      have hm := List.mem_of_find?_eq_some hf
      have hx0 := List.find?_some hf
      have hx : e.id = x := of_decide_eq_true hx0
      refine ⟨fun h => absurd h (way_ne hok hm), fun h => ?_⟩
      have hov := overT_eq t x 0 1 (by omega) (okT_ids hok)
      have : ((spT t 0 1).find? (isId x)).isSome = true := by
        rw [List.find?_isSome]
        obtain ⟨pre, s, suf, hsp, rfl⟩ := waysA_mem hm
        unfold W.id at hx
        rw [mkW_sp] at hx
        exact ⟨s, by rw [hsp]; simp, decide_eq_true hx⟩
      have := hov.2.2 this
      rw [hov.1] at this
      omega
  · exact ⟨fun _ => by show (-1 : Int) < 0; omega, fun _ => rfl⟩
end Go.Cod

namespace Go.Cod
open Go Go.Proofs
set_option maxRecDepth 10000

/- The reader of a drawn code. -/
def brows (bs : List UInt8) : List (List V) := bs.map fun b => [cellB b]
theorem brows_len (bs : List UInt8) : (brows bs).length = bs.length := by simp [brows]
theorem brows_get (bs : List UInt8) (i : Nat) (h : i < bs.length) : (brows bs)[i]? = some [cellB bs[i]] := by simp [brows, h]
def rdO (bs : List UInt8) (p : Int) : O := ⟨[[.sl (brows bs), .int .i64 p]], 2, true, true, true, .cell⟩
def Low (a b : Int) : Prop := a ≤ b
theorem tmod_in {a n : Int} (h0 : 0 ≤ a) (hn : 1 ≤ n) : 0 ≤ a.tmod n ∧ a.tmod n < n := by
  rw [Int.tmod_eq_emod_of_nonneg h0]
  exact ⟨Int.emod_nonneg _ (by omega), Int.emod_lt_of_pos _ (by omega)⟩
theorem xor_in {a b : Int} (ha : 0 ≤ a ∧ a < 4611686018427387904) (hb : 0 ≤ b ∧ b < 4611686018427387904) : ∃ m : Int, 0 ≤ m ∧ IntKind.i64.wrap (BitVec.ofInt IntKind.i64.bits a ^^^ BitVec.ofInt IntKind.i64.bits b).toNat = m := by
  refine ⟨_, ?_, rfl⟩
  have e : (BitVec.ofInt IntKind.i64.bits a ^^^ BitVec.ofInt IntKind.i64.bits b).toNat < 2 ^ 62 := by
    show (BitVec.ofInt 64 a ^^^ BitVec.ofInt 64 b).toNat < 2 ^ 62
    rw [BitVec.toNat_xor, BitVec.toNat_ofInt, BitVec.toNat_ofInt]
    refine Nat.xor_lt_two_pow ?_ ?_ <;> omega
  rw [wrap64 (by omega) (by have : (2:Nat)^62 = 4611686018427387904 := rfl; omega)]
  omega
/-- A reader has read at most n more. -/
def Read (bs : List UInt8) (p n : Int) (st' : St) : Prop := ∃ p', p ≤ p' ∧ p' ≤ p + n ∧ st' = [rdO bs p']
theorem pick_full (bs : List UInt8) (p n : Int) (hb : bs.length ≤ 2000) (h0 : 0 ≤ p) (h1 : p ≤ 1073741824) :
    Full Tryd.prog noY 69 [.ptr 0 0 0, .int .i64 n] [rdO bs p] fun o st' => ∃ m : Int, 0 ≤ m ∧ (1 ≤ n → m < n) ∧ o = .ret (.int .i64 m) ∧ st' = [rdO bs (p + 1)] := by
  have hl := brows_len bs
  have w1 : IntKind.i64.wrap (p + 1) = p + 1 := wrap64 (by omega) (by omega)
  have w2 : IntKind.i64.wrap (p + 1 - 1) = p := by rw [wrap64 (by omega) (by omega)]; omega
  have g0 : ∀ i : Nat, i < bs.length → (brows bs)[i]? = some [cellB bs[i]!] := fun i hi => by rw [brows_get bs i hi, getElem!_pos bs i hi]
  generalize hrows : brows bs = rows at *
  refine full_of_awp good Tryd.func69 rfl (by kernel_rfl) (by decide) ?_
  unfold rdO
  rw [hrows]
  conv => whnf
  rw [w1]
  conv => whnf
  by_cases a1 : n < 1
  · rw [ltB_t (by omega)]
    conv => whnf
    refine ⟨[], false, ?_⟩
    conv => whnf
    exact ⟨0, by omega, fun h => by omega, rfl, rfl⟩
  rw [ltB_f (by omega)]
  conv => whnf
  by_cases a2 : (rows.length : Int) = 0
  · rw [eqB_t a2]
    conv => whnf
    refine ⟨[], false, ?_⟩
    conv => whnf
    exact ⟨0, by omega, fun h => by omega, rfl, rfl⟩
  rw [eqB_f a2]
  conv => whnf
  rw [w2]
  conv => whnf
  by_cases a3 : p < (rows.length : Int)
  · rw [ltB_t a3]
    conv => whnf
    refine ⟨h0, rows, _, 1, rfl, g0 p.toNat (by omega), rfl, rfl, ?_⟩
    conv => whnf
    refine ⟨by omega, ?_⟩
    conv => whnf
    refine ⟨[], false, ?_⟩
    conv => whnf
    have hc : IntKind.i64.wrap ((bs[p.toNat]!).toNat : Int) = ((bs[p.toNat]!).toNat : Int) := wrap64 (by omega) (by have := (bs[p.toNat]!).toNat_lt; omega)
    refine ⟨_, ?_, ?_, rfl, rfl⟩
    · rw [hc]; exact (tmod_in (by omega) (by omega)).1
    · intro _; rw [hc]; exact (tmod_in (by omega) (by omega)).2
  rw [ltB_f (by omega)]
  conv => whnf
  have hL : 1 ≤ (rows.length : Int) := by omega
  refine ⟨by omega, ?_⟩
  conv => whnf
  have i1 := tmod_in (a := p) (n := rows.length) h0 hL
  refine ⟨i1.1, rows, _, 1, rfl, g0 (p.tmod rows.length).toNat (by omega), rfl, rfl, ?_⟩
  conv => whnf
  refine ⟨rfl, ?_⟩
  conv => whnf
  have w3 : IntKind.i64.wrap (IntKind.i64.wrap (p * 7) + 3) = p * 7 + 3 := by rw [wrap64 (a := p * 7) (by omega) (by omega), wrap64 (by omega) (by omega)]
  rw [w3]
  refine ⟨by omega, ?_⟩
  conv => whnf
  have i2 := tmod_in (a := p * 7 + 3) (n := rows.length) (by omega) hL
  refine ⟨i2.1, rows, _, 1, rfl, g0 ((p * 7 + 3).tmod rows.length).toNat (by omega), rfl, rfl, ?_⟩
  conv => whnf
  refine ⟨rfl, ?_⟩
  conv => whnf
  refine ⟨by omega, ?_⟩
  have c1 := (bs[(p.tmod rows.length).toNat]!).toNat_lt
  have c2 := (bs[((p * 7 + 3).tmod rows.length).toNat]!).toNat_lt
  generalize bs[(p.tmod rows.length).toNat]! = d1 at *
  generalize bs[((p * 7 + 3).tmod rows.length).toNat]! = d2 at *
  have q1 : 0 ≤ p.tdiv rows.length ∧ p.tdiv rows.length ≤ p := by
    rw [Int.tdiv_eq_ediv_of_nonneg h0]
    exact ⟨Int.ediv_nonneg h0 (by omega), Int.ediv_le_self _ h0⟩
  generalize p.tdiv rows.length = q at *
  obtain ⟨x, ⟨hx0, hx1⟩, hx⟩ : ∃ x : Int, (0 ≤ x ∧ x < 4611686018427387904) ∧ IntKind.i64.wrap (IntKind.i64.wrap (IntKind.i64.wrap (IntKind.i64.wrap (IntKind.i64.wrap (d1.toNat : Int) * 131) + IntKind.i64.wrap (IntKind.i64.wrap (d2.toNat : Int) * 1117)) + IntKind.i64.wrap (p * 29)) + IntKind.i64.wrap (IntKind.i64.wrap q * 53)) = x := by
    rw [wrap64 (a := (d1.toNat : Int)) (by omega) (by omega), wrap64 (a := (d2.toNat : Int)) (by omega) (by omega), wrap64 (a := (d1.toNat : Int) * 131) (by omega) (by omega), wrap64 (a := (d2.toNat : Int) * 1117) (by omega) (by omega), wrap64 (a := (d1.toNat : Int) * 131 + _) (by omega) (by omega),
      wrap64 (a := p * 29) (by omega) (by omega), wrap64 (a := q) (by omega) (by omega), wrap64 (a := q * 53) (by omega) (by omega), wrap64 (a := (d1.toNat : Int) * 131 + _ + _) (by omega) (by omega)]
    rw [wrap64 (by omega) (by omega)]
    exact ⟨_, by omega, rfl⟩
  conv => whnf
  rw [hx]
  refine ⟨by decide, ?_⟩
  conv => whnf
  obtain ⟨y, hy0, hy⟩ := xor_in (a := x) (b := IntKind.i64.wrap (x.tdiv 64)) ⟨hx0, hx1⟩ (by
    rw [Int.tdiv_eq_ediv_of_nonneg hx0, wrap64 (by omega) (by omega)]; omega)
  rw [hy]
  refine ⟨by omega, ?_⟩
  conv => whnf
  refine ⟨[], false, ?_⟩
  conv => whnf
  exact ⟨_, (tmod_in hy0 (by omega)).1, fun _ => (tmod_in hy0 (by omega)).2, rfl, rfl⟩
end Go.Cod

namespace Go.Cod
open Go Go.Proofs
set_option maxRecDepth 10000

theorem l1Many_pure (s : List UInt8) (n : Int) (h0 : 0 ≤ n) (hn64 : n ≤ 1048576) (hL : s.length * n.toNat ≤ 1048576) (hs : s.length ≤ 1048576) : Pure Tryd.prog 96 [.str s, .int .i64 n] fun r => ∃ t : List UInt8, t.length = s.length * n.toNat ∧ r = .str t := by
  generalize hLL : s.length * n.toNat = L at *
  refine pure_of_awp good Tryd.func96 rfl (by kernel_rfl) (by decide) ?_
  conv => whnf
  refine loop_intro (fun m fr st => st = [] ∧ ∃ (a b : List UInt8), a.length + b.length * m = L ∧ b.length ≤ 2097152 ∧ (m : Int) ≤ n ∧ Holds fr [(0, .str b), (1, .int .i64 m), (5, .str a)]) n.toNat
    ⟨rfl, [], s, by simp [hLL], by omega, by omega, rfl, by rw [Int.toNat_of_nonneg h0]; rfl, rfl, trivial⟩ ?_
  rintro m fr st ⟨rfl, a, b, h1, h2, h3, hh⟩
  obtain ⟨fr, rfl⟩ := hh.split
  clear hh
  conv => whnf
  by_cases hlt : 0 < m
  · rw [ltB_t (by omega)]
    conv => whnf
    refine ⟨by decide, ?_⟩
    conv => whnf
    have hbm : b.length ≤ b.length * m := Nat.le_mul_of_pos_right _ hlt
    have e1 : (m : Int).tmod 2 = ((m % 2 : Nat) : Int) := by rw [Int.tmod_eq_emod_of_nonneg (by omega)]; omega
    have e4 : IntKind.i64.wrap ((m : Int).tdiv 2) = ((m / 2 : Nat) : Int) := by
      rw [Int.tdiv_eq_ediv_of_nonneg (by omega), wrap64 (by omega) (by omega)]; omega
    have hm : m = 2 * (m / 2) + m % 2 := by omega
    have hmul : b.length * m = 2 * (b.length * (m / 2)) + b.length * (m % 2) := by
      conv => lhs; rw [hm, Nat.mul_add, Nat.mul_left_comm]
    rw [e1]
    by_cases ho : m % 2 = 1
    · rw [eqB_t (by omega)]
      conv => whnf
      rw [ho, Nat.mul_one] at hmul
      refine ⟨by omega, ?_⟩
      conv => whnf
      refine ⟨by omega, ?_⟩
      conv => whnf
      refine ⟨by decide, ?_⟩
      conv => whnf
      refine ⟨m / 2, by omega, rfl, a ++ b, b ++ b, ?_, by simp; omega, by omega, rfl, by rw [← e4]; rfl, rfl, trivial⟩
      rw [List.length_append, List.length_append, Nat.add_mul]; omega
    · rw [eqB_f (by omega)]
      conv => whnf
      rw [show m % 2 = 0 by omega, Nat.mul_zero] at hmul
      refine ⟨by omega, ?_⟩
      conv => whnf
      refine ⟨by decide, ?_⟩
      conv => whnf
      refine ⟨m / 2, by omega, rfl, a, b ++ b, ?_, by simp; omega, by omega, rfl, by rw [← e4]; rfl, rfl, trivial⟩
      rw [List.length_append, Nat.add_mul]; omega
  · rw [ltB_f (by omega)]
    conv => whnf
    have : m = 0 := by omega
    subst this
    exact ⟨a, by omega, rfl⟩

def drows (ss : List (List UInt8)) : List (List V) := ss.map fun s => [.str s]
theorem drows_len (ss : List (List UInt8)) : (drows ss).length = ss.length := by simp [drows]
theorem of_full (bs : List UInt8) (p : Int) (ss : List (List UInt8)) (hb : bs.length ≤ 2000) (h0 : 0 ≤ p) (h1 : p ≤ 1073741824) (hn : 1 ≤ ss.length) (hn' : ss.length ≤ 1048576) :
    Full Tryd.prog noY 49 [.ptr 0 0 0, .sl (drows ss)] [rdO bs p] fun o st' => ∃ s ∈ ss, o = .ret (.str s) ∧ st' = [rdO bs (p + 1)] := by
  have hl := drows_len ss
  have hp := pick_full bs p ss.length hb h0 h1
  have hg : ∀ m : Int, 0 ≤ m → m < ss.length → ∃ s ∈ ss, (drows ss)[m.toNat]? = some [.str s] := fun m a b => by
    have : m.toNat < ss.length := by omega
    exact ⟨ss[m.toNat], List.getElem_mem _, by simp [drows, this]⟩
  generalize drows ss = rows at *
  refine full_of_awp good Tryd.func49 rfl (by kernel_rfl) (by decide) ?_
  conv => whnf
  rw [hl]
  refine ⟨[0], false, ?_⟩
  conv => whnf
  refine hp.mono ?_
  rintro o st' ⟨m, m0, m1, rfl, rfl⟩
  conv => whnf
  obtain ⟨s, hs, hgs⟩ := hg m m0 (m1 (by omega))
  refine ⟨m0, rows, _, 1, rfl, hgs, rfl, rfl, ?_⟩
  conv => whnf
  refine ⟨[], false, ?_⟩
  conv => whnf
  exact ⟨s, hs, rfl, rfl⟩

theorem l11Text_full (bs : List UInt8) (p : Int) (hb : bs.length ≤ 2000) (h0 : 0 ≤ p) (h1 : p ≤ 1073741824) :
    Full Tryd.prog noY 103 [.ptr 0 0 0] [rdO bs p] fun o st' => ∃ s : List UInt8, s.length ≤ 12 ∧ o = .ret (.str s) ∧ st' = [rdO bs (p + 1)] := by
  have hm := l1Many_pure [116] 12 (by decide) (by decide) (by decide) (by decide)
  refine full_of_awp good Tryd.func103 rfl (by kernel_rfl) (by decide) ?_
  conv => whnf
  refine .inl (hm.mono ?_)
  rintro r ⟨t, ht, rfl⟩
  have ho := of_full bs p [[], [97], [98], [111,110,101,32,116,119,111], [120], t] hb h0 h1 (by simp) (by simp)
  conv => whnf
  refine ⟨[0], false, ?_⟩
  conv => whnf
  refine ho.mono ?_
  rintro o st' ⟨s, hs, rfl, rfl⟩
  conv => whnf
  refine ⟨[], false, ?_⟩
  conv => whnf
  refine ⟨s, ?_, rfl, rfl⟩
  simp only [List.mem_cons, List.not_mem_nil, or_false] at hs
  rcases hs with rfl | rfl | rfl | rfl | rfl | rfl <;> first | decide | (rw [ht]; decide)
end Go.Cod

namespace Go.Cod
open Go Go.Proofs
set_option maxRecDepth 10000

/- Schemas. -/
structure It where
  kind : List UInt8
  many : Bool
  may : Bool
def It.cells (x : It) : List V := [.str x.kind, .bool x.many, .bool x.may]
structure Ru where
  kind : List UInt8
  text : Bool
  kids : List It
def Ru.cells (x : Ru) : List V := [.str x.kind, .bool x.text, .sl (x.kids.map It.cells)]
structure Sch where
  root : List UInt8
  rules : List Ru
def Sch.cells (x : Sch) : List V := [.str x.root, .sl (x.rules.map Ru.cells)]
/- The schema of books. -/
def kDoc : List UInt8 := [100,111,99]
def kTitle : List UInt8 := [116,105,116,108,101]
def kSec : List UInt8 := [115,101,99]
def kNote : List UInt8 := [110,111,116,101]
def kPar : List UInt8 := [112,97,114]
def sch11 : Sch := ⟨kDoc, [⟨kDoc, false, [⟨kTitle, false, true⟩, ⟨kSec, true, false⟩, ⟨kNote, false, true⟩]⟩, ⟨kTitle, true, []⟩, ⟨kSec, true, [⟨kPar, true, false⟩, ⟨kNote, false, true⟩]⟩, ⟨kPar, true, []⟩, ⟨kNote, true, [⟨kPar, true, false⟩]⟩]⟩
theorem l11Schema_pure : Pure Tryd.prog 94 [] (· = .agg sch11.cells) := by
  refine pure_of_awp good Tryd.func94 rfl (by kernel_rfl) (by decide) ?_
  conv => whnf
  rfl

/-- The place of a kind's rule. -/
def ruleAt (rs : List Ru) (kind : List UInt8) : Int := match rs.findIdx? (fun r => decide (r.kind = kind)) with
  | some i => i
  | none => -1
theorem l3Rule_pure (s : Sch) (kind : List UInt8) (hl : s.rules.length ≤ 1048576) : Pure Tryd.prog 111 [.agg s.cells, .str kind] (· = .int .i64 (ruleAt s.rules kind)) := by
  obtain ⟨root, rules⟩ := s
  simp only at hl
  simp only [Sch.cells]
  have hlr : (rules.map Ru.cells).length = rules.length := by simp
  have hg : ∀ i (h : i < rules.length), (rules.map Ru.cells)[i]? = some rules[i].cells := fun i h => by simp [h]
  have hr : ∀ i (h : i < rules.length), (∀ j (hj : j < i), rules[j].kind ≠ kind) → rules[i].kind = kind → ruleAt rules kind = i := fun i h h1 h2 => by
    unfold ruleAt
    rw [List.findIdx?_eq_some_iff_getElem.2 ⟨h, by simpa using h2, fun j hj => by simpa using h1 j hj⟩]
  have hn : (∀ j (hj : j < rules.length), rules[j].kind ≠ kind) → ruleAt rules kind = -1 := fun h => by
    unfold ruleAt
    rw [List.findIdx?_eq_none_iff.2 fun x hx => by
      obtain ⟨j, hj, rfl⟩ := List.getElem_of_mem hx
      simpa using h j hj]
  generalize ruleAt rules kind = r at *
  obtain ⟨rows, hrows⟩ : ∃ rows, rows = rules.map Ru.cells := ⟨_, rfl⟩
  rw [← hrows] at hlr ⊢
  simp only [← hrows] at hg
  clear hrows
  refine pure_of_awp good Tryd.func111 rfl (by kernel_rfl) (by decide) ?_
  conv => whnf
  refine loop_intro (fun n fr st => ∃ i : Nat, n + i = rules.length ∧ (∀ j (hj : j < rules.length), j < i → rules[j].kind ≠ kind) ∧ st = [⟨[[.str root, .sl rows]], 2, true, true, true, .cell⟩] ∧ Holds fr [(1, .str kind), (2, .ptr 0 0 0), (5, .int .i64 i)]) rules.length
    ⟨0, rfl, fun _ _ h => by omega, rfl, rfl, rfl, rfl, trivial⟩ ?_
  rintro n fr st ⟨i, hi, hno, rfl, hh⟩
  obtain ⟨fr, rfl⟩ := hh.split
  clear hh
  conv => whnf
  rw [hlr]
  by_cases hlt : i < rules.length
  · rw [ltB_t (by omega)]
    conv => whnf
    have hgi := hg i hlt
    have hri := hr i hlt
    have hni := hno
    generalize hq : rules[i] = q at *
    obtain ⟨qk, qt, qs⟩ := q
    refine ⟨by omega, rows, _, 3, rfl, hgi, rfl, rfl, ?_⟩
    conv => whnf
    by_cases hk : qk = kind
    · rw [eqS_t hk]
      conv => whnf
      rw [hri (fun j hj => hno j (by omega) hj) hk]
    · rw [eqS_f hk]
      conv => whnf
      refine ⟨n - 1, by omega, i + 1, by omega, fun j hj hji => ?_, rfl, rfl, rfl, ?_, trivial⟩
      · by_cases e : j = i
        · subst e; rw [hq]; exact hk
        · exact hno j hj (by omega)
      · show V.int .i64 (IntKind.i64.wrap (i + 1)) = _
        rw [wrap64 (by omega) (by omega)]; simp
  · rw [ltB_f (by omega)]
    conv => whnf
    rw [hn fun j hj => hno j hj (by omega)]
end Go.Cod

namespace Go.Cod
open Go Go.Proofs
set_option maxRecDepth 10000

def kinds11 : List (List UInt8) := [kDoc, kTitle, kSec, kPar, kNote]
theorem rule11 (kind : List UInt8) (h : kind ∈ kinds11) : ∃ (j : Nat) (ru : Ru), ruleAt sch11.rules kind = j ∧ (sch11.rules.map Ru.cells)[j]? = some ru.cells ∧ ru.kids.length ≤ 3 ∧ ∀ it ∈ ru.kids, it.kind ∈ kinds11 := by
  simp only [kinds11, List.mem_cons, List.not_mem_nil, or_false] at h
  rcases h with rfl | rfl | rfl | rfl | rfl
  · exact ⟨0, _, by decide, rfl, by decide, by decide⟩
  · exact ⟨1, _, by decide, rfl, by decide, by decide⟩
  · exact ⟨2, _, by decide, rfl, by decide, by decide⟩
  · exact ⟨3, _, by decide, rfl, by decide, by decide⟩
  · exact ⟨4, _, by decide, rfl, by decide, by decide⟩
theorem kinds11_len (kind : List UInt8) (h : kind ∈ kinds11) : kind.length ≤ 1048576 := by
  simp only [kinds11, List.mem_cons, List.not_mem_nil, or_false] at h
  rcases h with rfl | rfl | rfl | rfl | rfl <;> decide
def nxO (k : Int) : O := ⟨[[.int .i64 k]], 1, true, true, true, .cell⟩
def TreeR (bs : List UInt8) (p k B : Int) (o : Out) (st' : St) : Prop := ∃ (t : T) (p' k' : Int), t.Small ∧ (t.size : Int) ≤ B ∧ p ≤ p' ∧ p' ≤ p + B ∧ k ≤ k' ∧ k' ≤ k + B ∧ o = .ret (.agg t.cells) ∧ st' = [rdO bs p', nxO k']
def TreeC (bs : List UInt8) (d B : Int) : Prop := ∀ (p k : Int) (kind : List UInt8), 0 ≤ p → p + B ≤ 1073741824 → 0 ≤ k → k + B ≤ 1073741824 → kind ∈ kinds11 →
  Full Tryd.prog noY 102 [.ptr 0 0 0, .str kind, .int .i64 d, .ptr 1 0 0] [rdO bs p, nxO k] (TreeR bs p k B)
def boxO (row : List V) (n : Nat) : O := ⟨[row], n, true, true, true, .cell⟩
def kidsV (kids : List T) (m : Nat) : V := match kids with
  | [] => .nils
  | _ :: _ => .own m
def kidsO (kids : List T) : List O := match kids with
  | [] => []
  | _ :: _ => [⟨T.rows kids, 4, true, true, false, .cell⟩]
theorem T.rows_snoc (l : List T) (t : T) : T.rows (l ++ [t]) = T.rows l ++ [t.cells] := by rw [T.rows_eq, T.rows_eq]; simp
theorem kidsO_snoc (t0 : T) (ts : List T) (t : T) : kidsO ((t0 :: ts) ++ [t]) = [⟨T.rows (t0 :: ts) ++ [t.cells], 4, true, true, false, .cell⟩] := by
  rw [← T.rows_snoc]; rfl
theorem small_snoc {l : List T} {t : T} (h : ∀ x ∈ l, x.Small) (ht : t.Small) : ∀ x ∈ l ++ [t], x.Small := by
  intro x hx
  rcases List.mem_append.1 hx with hx | hx
  · exact h x hx
  · simp at hx; subst hx; exact ht
set_option maxHeartbeats 8000000 in
theorem l11Tree_step (bs : List UInt8) (hb : bs.length ≤ 2000) (d B : Int) (hB : 1 ≤ B) (hB' : B ≤ 65536) (hd : 0 ≤ d ∧ d ≤ 1000) (hT : d < 4 → TreeC bs (d + 1) B) : TreeC bs d (16 * B) := by
  intro p k kind p0 p1 k0 k1 hk
  obtain ⟨j, ru, hj1, hj2, hj3, hj4⟩ := rule11 kind hk
  have hkl := kinds11_len kind hk
  have hr := l3Rule_pure sch11 kind (by decide)
  have hsch := l11Schema_pure
  have ht := l11Text_full bs p hb p0 (by omega)
  rw [hj1] at hr
  have hsd : sch11.cells = [.str kDoc, .sl (sch11.rules.map Ru.cells)] := rfl
  rw [hsd] at hr hsch
  generalize sch11.rules.map Ru.cells = rules at *
  obtain ⟨rk, rt, items⟩ := ru
  simp only [Ru.cells] at hj2 hj3 hj4
  have hlr : (items.map It.cells).length = items.length := by simp
  have hg : ∀ i (h : i < items.length), (items.map It.cells)[i]? = some [.str items[i].kind, .bool items[i].many, .bool items[i].may] := fun i h => by simp [h, It.cells]
  have hgk : ∀ i (h : i < items.length), items[i].kind ∈ kinds11 := fun i h => hj4 _ (List.getElem_mem h)
  obtain ⟨irows, hirows⟩ : ∃ rows, rows = items.map It.cells := ⟨_, rfl⟩
  rw [← hirows] at hlr hj2
  simp only [← hirows] at hg
  clear hirows
  refine full_of_awp good Tryd.func102 rfl (by kernel_rfl) (by decide) ?_
  conv => whnf
  have w1 : IntKind.i64.wrap (k + 1) = k + 1 := wrap64 (by omega) (by omega)
  rw [w1]
  refine .inl (hsch.mono ?_)
  rintro r rfl
  conv => whnf
  refine ⟨_, .inl hr, ?_⟩
  conv => whnf
  refine ⟨by omega, rules, _, 3, rfl, hj2, rfl, rfl, ?_⟩
  conv => whnf
  refine ⟨by conv => whnf
             exact ⟨_, .inl hr, rfl⟩, ?_⟩
  conv => whnf
  obtain ⟨C, hC⟩ : ∃ C : Int, C = 2 + 3 * B := ⟨_, rfl⟩
  have mulS : ∀ (i : Nat) (X : Int), ((i + 1 : Nat) : Int) * X = i * X + X := fun i X => by
    rw [Int.natCast_add, Int.add_mul]; simp
  have mulL : ∀ (i n : Nat) (X : Int), 0 ≤ X → i ≤ n → (i : Int) * X ≤ n * X := fun i n X hX h => Int.mul_le_mul_of_nonneg_right (by omega) hX
  have mul0 : ∀ (i : Nat) (X : Int), 0 ≤ X → 0 ≤ (i : Int) * X := fun i X hX => Int.mul_nonneg (by omega) hX
  have fin : ∀ (i : Nat) (kids : List T) (p' k' : Int) (tx : List UInt8), i ≤ items.length → kids.length ≤ 3 * i → (T.sizeL kids : Int) ≤ i * C → p ≤ p' → p' ≤ p + 1 + i * C → k ≤ k' → k' ≤ k + 1 + i * C → tx.length ≤ 12 → (∀ t ∈ kids, t.Small) →
      (T.mk k kind tx kids).Small ∧ ((T.mk k kind tx kids).size : Int) ≤ 16 * B ∧ p ≤ p' ∧ p' ≤ p + 16 * B ∧ k ≤ k' ∧ k' ≤ k + 16 * B := by
    intro i kids p' k' tx g0 g1 g2 g3 g4 g5 g6 g7 g8
    have hm := mulL i 3 C (by omega) (by omega)
    refine ⟨.mk (by omega) hkl (by omega) (by omega) g8, ?_, g3, ?_, g5, ?_⟩
    · simp only [T.size]; omega
    · omega
    · omega
  cases rt
  case' true =>
    conv => whnf
    refine ⟨[0], false, ?_⟩
    conv => whnf
    refine ht.mono ?_
    rintro o st' ⟨tx, htx, rfl, rfl⟩
  case' false =>
    obtain ⟨tx, htx, htx0⟩ : ∃ tx : List UInt8, tx.length ≤ 12 ∧ tx = [] := ⟨[], by simp, rfl⟩
  all_goals
    conv => whnf
    refine loop_drop (fun n fr st => ∃ (i : Nat) (kids : List T) (p' k' : Int) (tx : List UInt8), n + i = items.length ∧ kids.length ≤ 3 * i ∧ (T.sizeL kids : Int) ≤ i * C ∧ (p ≤ p' ∧ p' ≤ p + 1 + i * C) ∧ (k ≤ k' ∧ k' ≤ k + 1 + i * C) ∧ tx.length ≤ 12 ∧ (∀ t ∈ kids, t.Small) ∧
        Holds fr [(0, .ptr 0 0 0), (2, .int .i64 d), (3, .ptr 1 0 0), (8, .ptr 2 0 0), (9, .ptr 3 0 0), (11, .ptr 5 0 0), (12, .int .i64 i)] ∧
        st = [rdO bs p', nxO k', boxO zrow 4, boxO [.int .i64 k, .str kind, .str tx, kidsV kids 6] 4, boxO [.str kDoc, .sl rules] 2, ⟨[[.str rk, .bool _, .sl irows]], 3, true, true, true, .cell⟩] ++ kidsO kids) items.length none
      ⟨0, [], _, k + 1, _, by omega, by simp, by simp [T.sizeL], by simp <;> omega, by simp <;> omega, by first | exact htx | (simp; done), by simp, ⟨rfl, rfl, rfl, rfl, rfl, rfl, rfl, trivial⟩, rfl⟩ ?_
    rintro n fr st ⟨i, kids, p', k', tx', hi, b1, b2, b3, b4, b5, b6, hh, rfl⟩
    obtain ⟨fr, rfl⟩ := hh.split
    clear hh
    have hmi := mulL i 3 C (by omega) (by omega)
    by_cases hlt : i < items.length
    · by_cases hd4 : d < 4
      · -- a round
        have hcT := hT hd4
        have hm2 := mulL i 2 C (by omega) (by omega)
        have hm0 := mul0 i C (by omega)
        have hmS := mulS i C
        clear hmi
        have hgi := hg i hlt
        have hki := hgk i hlt
        generalize items[i].kind = ik at *
        generalize items[i].many = im at *
        generalize items[i].may = iy at *
        have hp2 := pick_full bs p' 2 hb (by omega) (by omega)
        have hp4 := pick_full bs (p' + 1) 4 hb (by omega) (by omega)
        have wd : IntKind.i64.wrap (d + 1) = d + 1 := wrap64 (by omega) (by omega)
        cases kids
        all_goals
          conv => whnf
          rw [hlr, ltB_t (by omega)]
          conv => whnf
          rw [ltB_t hd4]
          conv => whnf
          refine ⟨[0], false, ?_⟩
          conv => whnf
          refine hp2.mono ?_
          rintro o st' ⟨c, c0, c1, rfl, rfl⟩
          conv => whnf
          refine ⟨by omega, irows, _, 3, rfl, hgi, rfl, rfl, ?_⟩
          conv => whnf
          cases im
          case' true =>
            conv => whnf
            refine ⟨[0], false, ?_⟩
            conv => whnf
            refine hp4.mono ?_
            rintro o st' ⟨c, c0, c1, rfl, rfl⟩
        all_goals
          have hc4 : c < 4 := by first | exact c1 (by omega) | (have := c1 (by omega); omega)
          clear c1
          conv => whnf
          refine loop_drop (fun m fr st => ∃ (q : Nat) (kids : List T) (p' k' : Int) (tx : List UInt8), (m : Int) + q = c ∧ kids.length ≤ 3 * i + q ∧ (T.sizeL kids : Int) ≤ i * C + q * B ∧ (p ≤ p' ∧ p' ≤ p + 3 + i * C + q * B) ∧ (k ≤ k' ∧ k' ≤ k + 1 + i * C + q * B) ∧ tx.length ≤ 12 ∧ (∀ t ∈ kids, t.Small) ∧
              Holds fr [(0, .ptr 0 0 0), (2, .int .i64 d), (3, .ptr 1 0 0), (8, .ptr 2 0 0), (9, .ptr 3 0 0), (11, .ptr 5 0 0), (12, .int .i64 i), (13, .int .i64 c), (14, .int .i64 q)] ∧
              st = [rdO bs p', nxO k', boxO zrow 4, boxO [.int .i64 k, .str kind, .str tx, kidsV kids 6] 4, boxO [.str kDoc, .sl rules] 2, ⟨[[.str rk, .bool _, .sl irows]], 3, true, true, true, .cell⟩] ++ kidsO kids) c.toNat none
            ⟨0, _, _, k', tx', by omega, b1, by simp <;> omega, by simp <;> omega, by simp <;> omega, b5, b6, ⟨rfl, rfl, rfl, rfl, rfl, rfl, rfl, rfl, rfl, trivial⟩, rfl⟩ ?_
          rintro m fr st ⟨q, kids2, p2, k2, tx2, e1, d1, d2, d3, d4, d5, d6, hh, rfl⟩
          obtain ⟨fr, rfl⟩ := hh.split
          clear hh
          have hqL := mulL q 3 B (by omega) (by omega)
          have hq0 := mul0 q B (by omega)
          have hqS := mulS q B
          have out : (3 * i + q ≤ 3 * (i + 1)) ∧ (T.sizeL kids2 : Int) ≤ ((i + 1 : Nat) : Int) * C ∧ (p ≤ p2 ∧ p2 ≤ p + 1 + ((i + 1 : Nat) : Int) * C) ∧ (k ≤ k2 ∧ k2 ≤ k + 1 + ((i + 1 : Nat) : Int) * C) := by
            rw [hmS]; omega
          have wi : V.int .i64 (IntKind.i64.wrap (i + 1)) = .int .i64 ((i + 1 : Nat) : Int) := by
            rw [wrap64 (by omega) (by omega)]; simp
          by_cases hq : (q : Int) < c
          · have hqL := mulL q 2 B (by omega) (by omega)
            have hcall := hcT p2 k2 ik (by omega) (by omega) (by omega) (by omega) hki
            by_cases hk14 : k2.tmod 100 < 14
            · have wq : V.int .i64 (IntKind.i64.wrap (q + 1)) = .int .i64 ((q + 1 : Nat) : Int) := by
                rw [wrap64 (by omega) (by omega)]; simp
              rcases kids2 with _ | ⟨t0, ts⟩
              all_goals
                conv => whnf
                rw [ltB_t hq]
                conv => whnf
                refine ⟨by decide, ?_⟩
                conv => whnf
                rw [ltB_t hk14]
                conv => whnf
                refine ⟨by omega, irows, _, 3, rfl, hgi, rfl, rfl, ?_⟩
                conv => whnf
                rw [wd]
                refine ⟨[0, 1], false, ?_⟩
                conv => whnf
                refine hcall.mono ?_
                rintro o st' ⟨t, p3, k3, s1, s2, s3, s4, s5, s6, rfl, rfl⟩
                rcases t with ⟨tid, tk, ttx, tks⟩
                conv => whnf
                refine ⟨by conv => whnf
                           rfl, ?_⟩
                conv => whnf
                refine ⟨fun m hm => by rw [List.mem_singleton.1 hm]; rfl, ?_⟩
                conv => whnf
              · refine ⟨by show 1 * 64 ≤ _; omega, .inr ⟨(by intro e; cases e), ?_⟩⟩
                conv => whnf
                refine ⟨m - 1, by omega, some [0, 1, 2, 3, 4, 5, 7], ?_⟩
                conv => whnf
                exact ⟨q + 1, [.mk tid tk ttx tks], p3, k3, tx2, by omega, by simp; omega, by rw [hqS]; simp only [T.sizeL]; omega, by rw [hqS]; omega, by rw [hqS]; omega, d5, by simpa using s1, ⟨rfl, rfl, rfl, rfl, rfl, rfl, rfl, rfl, wq, trivial⟩, rfl⟩
              · refine ⟨by
                  show ((T.rows (t0 :: ts)).length + 1) * 64 ≤ _
                  rw [Go.Cod.rows_len]; omega, ?_⟩
                conv => whnf
                refine ⟨m - 1, by omega, some [0, 1, 2, 3, 4, 5, 8], ?_⟩
                conv => whnf
                refine ⟨q + 1, (t0 :: ts) ++ [.mk tid tk ttx tks], p3, k3, tx2, by omega, by simp at d1 ⊢; omega, by rw [hqS, T.sizeL_append]; simp only [T.sizeL] at d2 s2 ⊢; omega, by rw [hqS]; omega, by rw [hqS]; omega, d5, small_snoc d6 s1, ⟨rfl, rfl, rfl, rfl, rfl, rfl, rfl, rfl, wq, trivial⟩, ?_⟩
                rw [kidsO_snoc]
                rfl
            · cases kids2
              all_goals
                conv => whnf
                rw [ltB_t hq]
                conv => whnf
                refine ⟨by decide, ?_⟩
                conv => whnf
                rw [ltB_f (by omega)]
                conv => whnf
                exact ⟨n - 1, by omega, none, i + 1, _, p2, k2, tx2, by omega, by omega, out.2.1, out.2.2.1, out.2.2.2, d5, d6, ⟨rfl, rfl, rfl, rfl, rfl, rfl, wi, trivial⟩, rfl⟩
          · cases kids2
            all_goals
              conv => whnf
              rw [ltB_f (by omega)]
              conv => whnf
              exact ⟨n - 1, by omega, none, i + 1, _, p2, k2, tx2, by omega, by omega, out.2.1, out.2.2.1, out.2.2.2, d5, d6, ⟨rfl, rfl, rfl, rfl, rfl, rfl, wi, trivial⟩, rfl⟩
      · cases kids
        all_goals
          conv => whnf
          rw [hlr, ltB_t (by omega)]
          conv => whnf
          rw [ltB_f (by omega)]
          conv => whnf
          refine ⟨[], false, ?_⟩
          conv => whnf
          exact ⟨.mk k kind tx' _, p', k', (fin i _ p' k' tx' (by omega) b1 b2 b3.1 b3.2 b4.1 b4.2 b5 b6).1, (fin i _ p' k' tx' (by omega) b1 b2 b3.1 b3.2 b4.1 b4.2 b5 b6).2.1, by omega, by omega, by omega, by omega, rfl, rfl⟩
    · cases kids
      all_goals
        conv => whnf
        rw [hlr, ltB_f (by omega)]
        conv => whnf
        refine ⟨[], false, ?_⟩
        conv => whnf
        exact ⟨.mk k kind tx' _, p', k', (fin i _ p' k' tx' (by omega) b1 b2 b3.1 b3.2 b4.1 b4.2 b5 b6).1, (fin i _ p' k' tx' (by omega) b1 b2 b3.1 b3.2 b4.1 b4.2 b5 b6).2.1, by omega, by omega, by omega, by omega, rfl, rfl⟩
theorem l11Tree_3 (bs : List UInt8) (hb : bs.length ≤ 2000) : TreeC bs 3 256 := by
  have h4 := l11Tree_step bs hb 4 1 (by omega) (by omega) (by omega) (fun h => by omega)
  exact l11Tree_step bs hb 3 16 (by omega) (by omega) (by omega) (fun _ => h4)
theorem l11Tree_1 (bs : List UInt8) (hb : bs.length ≤ 2000) : TreeC bs 1 65536 := by
  have h2 := l11Tree_step bs hb 2 256 (by omega) (by omega) (by omega) (fun _ => l11Tree_3 bs hb)
  exact l11Tree_step bs hb 1 4096 (by omega) (by omega) (by omega) (fun _ => h2)
def TreeR1 (bs : List UInt8) (p B : Int) (o : Out) (st' : St) : Prop := ∃ (t : T) (p' : Int), t.Small ∧ (t.size : Int) ≤ B ∧ p ≤ p' ∧ p' ≤ p + B ∧ o = .ret (.agg t.cells) ∧ st' = [rdO bs p']
theorem l11Doc_full (bs : List UInt8) (hb : bs.length ≤ 2000) (p : Int) (p0 : 0 ≤ p) (p1 : p + 65536 ≤ 1073741824) : Full Tryd.prog noY 89 [.ptr 0 0 0] [rdO bs p] (TreeR1 bs p 65536) := by
  have h := l11Tree_1 bs hb p 1 kDoc p0 p1 (by omega) (by omega) (by decide)
  refine full_of_awp good Tryd.func89 rfl (by kernel_rfl) (by decide) ?_
  conv => whnf
  refine ⟨[0, 2], false, ?_⟩
  conv => whnf
  refine h.mono ?_
  rintro o st' ⟨t, p', k', s1, s2, s3, s4, s5, s6, rfl, rfl⟩
  rcases t with ⟨tid, tk, ttx, tks⟩
  conv => whnf
  refine ⟨[], false, ?_⟩
  conv => whnf
  exact ⟨.mk tid tk ttx tks, p', s1, s2, s3, s4, rfl, rfl⟩
end Go.Cod

namespace Go.Cod
open Go Go.Proofs
set_option maxRecDepth 10000

def kindsW : List (List UInt8) := [kDoc, kSec, kPar, kTitle, [120]]
theorem kindsW_len (kind : List UInt8) (h : kind ∈ kindsW) : kind.length ≤ 1048576 := by
  simp only [kindsW, List.mem_cons, List.not_mem_nil, or_false] at h
  rcases h with rfl | rfl | rfl | rfl | rfl <;> decide
def WildC (bs : List UInt8) (d B : Int) : Prop := ∀ (p k : Int), 0 ≤ p → p + B ≤ 1073741824 → 0 ≤ k → k + B ≤ 1073741824 →
  Full Tryd.prog noY 90 [.ptr 0 0 0, .int .i64 d, .ptr 1 0 0] [rdO bs p, nxO k] (TreeR bs p k B)
def WildJ (bs : List UInt8) (d p k B : Int) (kd tx : List UInt8) (n : Nat) (fr : Nat → V) (st : St) : Prop := ∃ (kids : List T) (p' k' : Int), kids.length + n ≤ 3 ∧ (T.sizeL kids : Int) + n * B ≤ 3 * B ∧ (p ≤ p' ∧ p' + n * B ≤ p + 3 + 3 * B) ∧ (k ≤ k' ∧ k' + n * B ≤ k + 1 + 3 * B) ∧ (∀ t ∈ kids, t.Small) ∧
  Holds fr [(0, .ptr 0 0 0), (1, .int .i64 d), (2, .ptr 1 0 0), (6, .ptr 2 0 0), (7, .ptr 3 0 0), (8, .int .i64 n)] ∧
  st = [rdO bs p', nxO k', boxO zrow 4, boxO [.int .i64 k, .str kd, .str tx, kidsV kids 4] 4] ++ kidsO kids
set_option maxHeartbeats 8000000 in
theorem l11Wild_step (bs : List UInt8) (hb : bs.length ≤ 2000) (d B : Int) (hB : 1 ≤ B) (hB' : B ≤ 65536) (hd : 0 ≤ d ∧ d ≤ 1000) (hT : d < 6 → WildC bs (d + 1) B) : WildC bs d (8 * B) := by
  intro p k p0 p1 k0 k1
  have hof := of_full bs p kindsW hb p0 (by omega) (by decide) (by decide)
  have ht := l11Text_full bs (p + 1) hb (by omega) (by omega)
  have hp4 := pick_full bs (p + 1 + 1) 4 hb (by omega) (by omega)
  have mulS : ∀ (i : Nat) (X : Int), ((i + 1 : Nat) : Int) * X = i * X + X := fun i X => by
    rw [Int.natCast_add, Int.add_mul]; simp
  have mulL : ∀ (i n : Nat) (X : Int), 0 ≤ X → i ≤ n → (i : Int) * X ≤ n * X := fun i n X hX h => Int.mul_le_mul_of_nonneg_right (by omega) hX
  have mul0 : ∀ (i : Nat) (X : Int), 0 ≤ X → 0 ≤ (i : Int) * X := fun i X hX => Int.mul_nonneg (by omega) hX
  have wd : IntKind.i64.wrap (d + 1) = d + 1 := wrap64 (by omega) (by omega)
  have w1 : IntKind.i64.wrap (k + 1) = k + 1 := wrap64 (by omega) (by omega)
  have fin : ∀ (m : Nat) (kids : List T) (p' k' : Int) (kd tx : List UInt8), kids.length + m ≤ 3 → (T.sizeL kids : Int) + m * B ≤ 3 * B → p ≤ p' → p' + m * B ≤ p + 3 + 3 * B → k ≤ k' → k' + m * B ≤ k + 1 + 3 * B → kd.length ≤ 1048576 → tx.length ≤ 12 → (∀ t ∈ kids, t.Small) →
      (T.mk k kd tx kids).Small ∧ ((T.mk k kd tx kids).size : Int) ≤ 8 * B ∧ p ≤ p' ∧ p' ≤ p + 8 * B ∧ k ≤ k' ∧ k' ≤ k + 8 * B := by
    intro m kids p' k' kd tx g1 g2 g3 g4 g5 g6 g7 g8 g9
    have := mul0 m B (by omega)
    refine ⟨.mk (by omega) g7 (by omega) (by omega) g9, ?_, g3, ?_, g5, ?_⟩
    · simp only [T.size]; omega
    · omega
    · omega
  refine full_of_awp good Tryd.func90 rfl (by kernel_rfl) (by decide) ?_
  conv => whnf
  repeat' (first
    | (refine ⟨[0], false, ?_⟩
       conv => whnf
       first
         | (refine hof.mono ?_
            rintro o st' ⟨kd, hkd, rfl, rfl⟩)
         | (refine ht.mono ?_
            rintro o st' ⟨tx, htx, rfl, rfl⟩)
       conv => whnf
       refine ⟨by conv => whnf
                  rfl, ?_⟩
       conv => whnf)
    | (refine And.intro ?_ ?_ <;> (conv => whnf)))
  all_goals
    rw [w1]
    have hkl := kindsW_len kd hkd
    refine ⟨[0], false, ?_⟩
    conv => whnf
    refine hp4.mono ?_
    rintro o st' ⟨c, c0, c1, rfl, rfl⟩
    have c1 := c1 (by omega)
    have hcB := mulL c.toNat 3 B (by omega) (by omega)
    have hcc : V.int .i64 c = .int .i64 (c.toNat : Int) := by rw [Int.toNat_of_nonneg c0]
    conv => whnf
    first
      | refine loop_drop (WildJ bs d p k B kd tx) c.toNat (some [0, 1, 2, 3]) (by
          conv => whnf
          exact ⟨[], p + 1 + 1 + 1, k + 1, by simp only [List.length_nil]; omega, by simp only [T.sizeL]; omega, by omega, by omega, by simp, ⟨rfl, rfl, rfl, rfl, rfl, hcc, trivial⟩, rfl⟩) ?_
      | refine loop_drop (WildJ bs d p k B kd tx) c.toNat (some [0, 1, 2, 4]) (by
          conv => whnf
          exact ⟨[], p + 1 + 1 + 1, k + 1, by simp only [List.length_nil]; omega, by simp only [T.sizeL]; omega, by omega, by omega, by simp, ⟨rfl, rfl, rfl, rfl, rfl, hcc, trivial⟩, rfl⟩) ?_
  all_goals
    rintro n fr st ⟨kids, p', k', b1, b2, b3, b4, b6, hh, rfl⟩
    obtain ⟨fr, rfl⟩ := hh.split
    clear hh
    have hfin := fin n kids p' k' kd tx b1 b2 b3.1 b3.2 b4.1 b4.2 hkl (by omega) b6
    by_cases hn : 0 < n
    · obtain ⟨n, rfl⟩ : ∃ m, n = m + 1 := ⟨n - 1, by omega⟩
      have hnS := mulS n B
      have hn0 := mul0 n B (by omega)
      rw [hnS] at b2 b3 b4
      have wn : V.int .i64 (IntKind.i64.wrap (((n + 1 : Nat) : Int) - 1)) = .int .i64 (n : Int) := by
        rw [wrap64 (by omega) (by omega)]; congr 1; omega
      by_cases hd6 : d < 6
      · have hcall := hT hd6 p' k' (by omega) (by omega) (by omega) (by omega)
        by_cases hk18 : k'.tmod 100 < 18
        · rcases kids with _ | ⟨t0, ts⟩
          all_goals
            conv => whnf
            rw [ltB_t (by omega)]
            conv => whnf
            rw [ltB_t hd6]
            conv => whnf
            refine ⟨by decide, ?_⟩
            conv => whnf
            rw [ltB_t hk18]
            conv => whnf
            rw [wd]
            refine ⟨[0, 1], false, ?_⟩
            conv => whnf
            refine hcall.mono ?_
            rintro o st' ⟨t, p3, k3, s1, s2, s3, s4, s5, s6, rfl, rfl⟩
            rcases t with ⟨tid, tk, ttx, tks⟩
            conv => whnf
            refine ⟨by conv => whnf
                       rfl, ?_⟩
            conv => whnf
            refine ⟨fun m hm => by rw [List.mem_singleton.1 hm]; rfl, ?_⟩
            conv => whnf
          · refine ⟨by show 1 * 64 ≤ _; omega, .inr ⟨(by intro e; cases e), ?_⟩⟩
            conv => whnf
            refine ⟨n, by omega, some [0, 1, 2, 3, 5], ?_⟩
            conv => whnf
            exact ⟨[.mk tid tk ttx tks], p3, k3, by simp at b1 ⊢; omega, by simp only [T.sizeL] at b2 ⊢; omega, by omega, by omega, by simpa using s1, ⟨rfl, rfl, rfl, rfl, rfl, wn, trivial⟩, rfl⟩
          · refine ⟨by
              show ((T.rows (t0 :: ts)).length + 1) * 64 ≤ _
              rw [Go.Cod.rows_len]; omega, ?_⟩
            conv => whnf
            refine ⟨n, by omega, some [0, 1, 2, 3, 6], ?_⟩
            conv => whnf
            refine ⟨(t0 :: ts) ++ [.mk tid tk ttx tks], p3, k3, by simp at b1 ⊢; omega, by rw [T.sizeL_append]; simp only [T.sizeL] at b2 s2 ⊢; omega, by omega, by omega, small_snoc b6 s1, ⟨rfl, rfl, rfl, rfl, rfl, wn, trivial⟩, ?_⟩
            rw [kidsO_snoc]
            rfl
        · cases kids
          all_goals
            conv => whnf
            rw [ltB_t (by omega)]
            conv => whnf
            rw [ltB_t hd6]
            conv => whnf
            refine ⟨by decide, ?_⟩
            conv => whnf
            rw [ltB_f (by omega)]
            conv => whnf
            refine ⟨[], false, ?_⟩
            conv => whnf
            exact ⟨.mk k kd tx _, p', k', hfin.1, hfin.2.1, by omega, by omega, by omega, by omega, rfl, rfl⟩
      · cases kids
        all_goals
          conv => whnf
          rw [ltB_t (by omega)]
          conv => whnf
          rw [ltB_f (by omega)]
          conv => whnf
          refine ⟨[], false, ?_⟩
          conv => whnf
          exact ⟨.mk k kd tx _, p', k', hfin.1, hfin.2.1, by omega, by omega, by omega, by omega, rfl, rfl⟩
    · cases kids
      all_goals
        conv => whnf
        rw [ltB_f (by omega)]
        conv => whnf
        refine ⟨[], false, ?_⟩
        conv => whnf
        exact ⟨.mk k kd tx _, p', k', hfin.1, hfin.2.1, by omega, by omega, by omega, by omega, rfl, rfl⟩
theorem l11Wild_1 (bs : List UInt8) (hb : bs.length ≤ 2000) : WildC bs 1 262144 := by
  have h6 := l11Wild_step bs hb 6 1 (by omega) (by omega) (by omega) (fun h => by omega)
  have h5 := l11Wild_step bs hb 5 8 (by omega) (by omega) (by omega) (fun _ => h6)
  have h4 := l11Wild_step bs hb 4 64 (by omega) (by omega) (by omega) (fun _ => h5)
  have h3 := l11Wild_step bs hb 3 512 (by omega) (by omega) (by omega) (fun _ => h4)
  have h2 := l11Wild_step bs hb 2 4096 (by omega) (by omega) (by omega) (fun _ => h3)
  exact l11Wild_step bs hb 1 32768 (by omega) (by omega) (by omega) (fun _ => h2)
theorem l11AnyTree_full (bs : List UInt8) (hb : bs.length ≤ 2000) (p : Int) (p0 : 0 ≤ p) (p1 : p + 262145 ≤ 1073741824) : Full Tryd.prog noY 67 [.ptr 0 0 0] [rdO bs p] (TreeR1 bs p 262145) := by
  have hp := pick_full bs p 2 hb (by omega) (by omega)
  have hd := l11Doc_full bs hb (p + 1) (by omega) (by omega)
  have hw := l11Wild_1 bs hb (p + 1) 1 (by omega) (by omega) (by omega) (by omega)
  refine full_of_awp good Tryd.func67 rfl (by kernel_rfl) (by decide) ?_
  conv => whnf
  refine ⟨[0], false, ?_⟩
  conv => whnf
  refine hp.mono ?_
  rintro o st' ⟨c, c0, c1, rfl, rfl⟩
  conv => whnf
  by_cases hc : c = 0
  · rw [eqB_t hc]
    conv => whnf
    refine ⟨[0], false, ?_⟩
    conv => whnf
    refine hd.mono ?_
    rintro o st' ⟨t, p', s1, s2, s3, s4, rfl, rfl⟩
    rcases t with ⟨tid, tk, ttx, tks⟩
    conv => whnf
    refine ⟨[], false, ?_⟩
    conv => whnf
    exact ⟨.mk tid tk ttx tks, p', s1, by omega, by omega, by omega, rfl, rfl⟩
  · rw [eqB_f hc]
    conv => whnf
    refine ⟨[0, 2], false, ?_⟩
    conv => whnf
    refine hw.mono ?_
    rintro o st' ⟨t, p', k', s1, s2, s3, s4, s5, s6, rfl, rfl⟩
    rcases t with ⟨tid, tk, ttx, tks⟩
    conv => whnf
    refine ⟨[], false, ?_⟩
    conv => whnf
    exact ⟨.mk tid tk ttx tks, p', s1, by omega, by omega, by omega, rfl, rfl⟩
end Go.Cod

namespace Go.Cod
open Go Go.Proofs
set_option maxRecDepth 10000

theorem l2Copy_own (t : T) (ht : t.Small) :
    Full Tryd.prog noY 95 [.agg t.cells] [] (fun o st' => o = .ret (.agg [.int .i64 t.id, .str t.kind, .str t.text, kidsV t.kids 0]) ∧ st' = kidsO t.kids) := by
  have hT : ∀ t' ∈ t.kids, Pure Tryd.prog 95 [.agg t'.cells] (· = .agg t'.cells) := fun t' h => by
    cases ht with
    | mk g1 g2 g3 g4 g5 => exact l2Copy_pure t' (g5 t' h)
  cases ht with
  | @mk id kind text kids g1 g2 g3 g4 g5 =>
  simp only [T.kids, T.id, T.kind, T.text] at hT ⊢
  have hlr := Go.Cod.rows_len kids
  refine full_of_awp good Tryd.func95 rfl (by kernel_rfl) (by decide) ?_
  conv => whnf
  refine loop_drop (fun n fr st => ∃ i : Nat, n + i = kids.length ∧ Holds fr [(1, .ptr 0 0 0), (2, .ptr 1 0 0), (3, .ptr 2 0 0), (4, .int .i64 i)] ∧
      ((i = 0 ∧ st = [⟨[[.int .i64 id, .str kind, .str text, .sl (T.rows kids)]], 4, true, true, true, .cell⟩, ⟨[zrow], 4, true, true, true, .cell⟩, ⟨[[.int .i64 id, .str kind, .str text, .nils]], 4, true, true, true, .cell⟩]) ∨
       (0 < i ∧ st = [⟨[[.int .i64 id, .str kind, .str text, .sl (T.rows kids)]], 4, true, true, true, .cell⟩, ⟨[zrow], 4, true, true, true, .cell⟩, ⟨[[.int .i64 id, .str kind, .str text, .own 3]], 4, true, true, true, .cell⟩, ⟨T.rows (kids.take i), 4, true, true, false, .cell⟩]))) kids.length none
    ⟨0, rfl, ⟨rfl, rfl, rfl, rfl, trivial⟩, .inl ⟨rfl, rfl⟩⟩ ?_
  rintro n fr st ⟨i, hi, hh, hst⟩
  obtain ⟨fr, rfl⟩ := hh.split
  clear hh
  rcases hst with ⟨rfl, rfl⟩ | ⟨hi0, rfl⟩
  · conv => whnf
    by_cases hlt : 0 < kids.length
    · rw [hlr, ltB_t (by omega)]
      conv => whnf
      refine ⟨by omega, T.rows kids, kids[0].cells, 4, rfl, rows_get kids 0 hlt, rfl, Go.Cod.cells_len _, ?_⟩
      have hc := hT kids[0] (List.getElem_mem _)
      have htk := T.rows_take kids 0 hlt
      generalize kids[0] = t at hc htk
      cases t with
      | mk id' kind' text' kids' =>
      conv => whnf
      refine ⟨_, .inl hc, ?_⟩
      conv => whnf
      refine ⟨fun m hm => by rw [List.mem_singleton.1 hm]; rfl, ?_⟩
      conv => whnf
      refine ⟨by show 1 * 64 ≤ _; omega, .inr ⟨(by intro e; cases e), ?_⟩⟩
      conv => whnf
      refine ⟨n - 1, by omega, some [0, 1, 2, 4], ?_⟩
      conv => whnf
      refine ⟨1, by omega, ⟨rfl, rfl, rfl, rfl, trivial⟩, .inr ⟨by omega, ?_⟩⟩
      rw [htk]
      rfl
    · rw [hlr, ltB_f (by omega)]
      conv => whnf
      have : kids = [] := List.eq_nil_of_length_eq_zero (by omega)
      subst this
      refine ⟨[], true, ?_⟩
      conv => whnf
      exact ⟨rfl, rfl⟩
  · conv => whnf
    by_cases hlt : i < kids.length
    · rw [hlr, ltB_t (by omega)]
      conv => whnf
      refine ⟨by omega, T.rows kids, kids[i].cells, 4, rfl, rows_get kids i hlt, rfl, Go.Cod.cells_len _, ?_⟩
      have hc := hT kids[i] (List.getElem_mem _)
      have htk := T.rows_take kids i hlt
      generalize kids[i] = t at hc htk
      cases t with
      | mk id' kind' text' kids' =>
      conv => whnf
      refine ⟨_, .inl hc, ?_⟩
      conv => whnf
      refine ⟨fun m hm => by rw [List.mem_singleton.1 hm]; rfl, ?_⟩
      conv => whnf
      refine ⟨by
        show ((T.rows (kids.take i)).length + 1) * 64 ≤ _
        rw [Go.Cod.rows_len, List.length_take]; omega, ?_⟩
      conv => whnf
      refine ⟨n - 1, by omega, some [0, 1, 2, 5], ?_⟩
      conv => whnf
      refine ⟨i + 1, by omega, ⟨rfl, rfl, rfl, ?_, trivial⟩, .inr ⟨by omega, ?_⟩⟩
      · show V.int .i64 (IntKind.i64.wrap (i + 1)) = _
        rw [wrap64 (by omega) (by omega)]; simp
      · rw [htk]
        rfl
    · rw [hlr, ltB_f (by omega)]
      conv => whnf
      rw [List.take_of_length_le (by omega)]
      refine ⟨[3], true, ?_⟩
      conv => whnf
      obtain ⟨t0, ts, rfl⟩ : ∃ t0 ts, kids = t0 :: ts := by
        cases kids with
        | nil => simp at hi; omega
        | cons a b => exact ⟨a, b, rfl⟩
      exact ⟨rfl, rfl⟩
end Go.Cod

namespace Go.Cod
open Go Go.Proofs
set_option maxRecDepth 10000

def SpoilR (bs : List UInt8) (t : T) (p : Int) (o : Out) (st' : St) : Prop := ∃ (t' : T) (p' : Int), t'.Small ∧ (t'.size : Int) ≤ 2 * t.size + 20 ∧ p ≤ p' ∧ p' ≤ p + 2 * t.size + 2 ∧ o = .ret (.agg t'.cells) ∧ st' = [rdO bs p']
theorem size_pos (t : T) : 1 ≤ t.size := by cases t; simp [T.size]; try omega
theorem sizeL_get : ∀ (ts : List T) (i : Nat) (h : i < ts.length), ts[i].size ≤ T.sizeL ts
  | t :: ts, 0, _ => by simp [T.sizeL]
  | t :: ts, i + 1, h => by
    have := sizeL_get ts i (by simpa using h)
    simp [T.sizeL]; omega
theorem sizeL_set : ∀ (ts : List T) (i : Nat) (h : i < ts.length) (t' : T), T.sizeL (ts.set i t') + ts[i].size = T.sizeL ts + t'.size
  | t :: ts, 0, _, t' => by simp [T.sizeL]; omega
  | t :: ts, i + 1, h, t' => by
    have := sizeL_set ts i (by simpa using h) t'
    simp [T.sizeL]; omega
theorem length_le_sizeL : ∀ ts : List T, ts.length ≤ T.sizeL ts
  | [] => by simp
  | t :: ts => by
    have := length_le_sizeL ts
    have := size_pos t
    simp [T.sizeL]; omega
theorem rows_set (ts : List T) (i : Nat) (t' : T) : T.rows (ts.set i t') = (T.rows ts).set i t'.cells := by
  rw [T.rows_eq, T.rows_eq, List.map_set]
def SpJ (bs : List UInt8) (q : Int) (o1 : O) (slot m sz : Nat) (n : Nat) (fr : Nat → V) (st : St) : Prop := ∃ (x : T) (i : Nat), n + i = m ∧ x.Small ∧ x.size ≤ sz + i ∧
  Holds fr [(0, .ptr 0 0 0), (4, .ptr 2 0 0), (5, .ptr 3 0 0), (slot, .int .i64 i)] ∧ st = [rdO bs q, o1, boxO zrow 4, boxO [.int .i64 x.id, .str x.kind, .str x.text, kidsV x.kids 4] 4] ++ kidsO x.kids
set_option maxHeartbeats 8000000 in
theorem spoil_full (bs : List UInt8) (hb : bs.length ≤ 2000) (t : T) (ht : t.Small) : ∀ p : Int, 0 ≤ p → p + 2 * t.size + 2 ≤ 1073741824 → t.size ≤ 500000 →
    Full Tryd.prog noY 70 [.ptr 0 0 0, .agg t.cells] [rdO bs p] (SpoilR bs t p) := by
  induction ht with
  | @mk id kind text kids g1 g2 g3 g4 g5 ih =>
  intro p p0 p1 p2
  have hcp := l2Copy_own (.mk id kind text kids) (.mk g1 g2 g3 g4 g5)
  simp only [T.kids, T.id, T.kind, T.text] at hcp
  have hp2 := pick_full bs p 2 hb p0 (by omega)
  refine full_of_awp good Tryd.func70 rfl (by kernel_rfl) (by decide) ?_
  conv => whnf
  refine .inr (.inl ⟨[], false, ?_⟩)
  conv => whnf
  refine hcp.mono ?_
  rintro o st' ⟨rfl, rfl⟩
  have hpc : ∀ (q n : Int), 0 ≤ q → q ≤ 1073741824 → Full Tryd.prog noY 69 [.ptr 0 0 0, .int .i64 n] [rdO bs q] fun o st' => ∃ m : Int, 0 ≤ m ∧ (1 ≤ n → m < n) ∧ o = .ret (.int .i64 m) ∧ st' = [rdO bs (q + 1)] := fun q n h0 h1 => pick_full bs q n hb h0 h1
  have hsz : ((T.mk id kind text kids).size : Int) = 1 + T.sizeL kids := by simp [T.size]
  rw [hsz] at p1
  have hk5 : kids.length ≤ 500000 := Nat.le_trans (length_le_sizeL kids) (by simp only [T.size] at p2; omega)
  have hk6 : T.sizeL kids ≤ 500000 := by simp only [T.size] at p2; omega
  have five : ∀ c : Int, 0 ≤ c → c < 5 → ∃ z : Int, (-9223372036854775808 ≤ z ∧ z ≤ 9223372036854775807) ∧ [[V.int .i64 0], [.int .i64 (-1)], [.int .i64 999], [.int .i64 1000], [.int .i64 1]][c.toNat]? = some [.int .i64 z] := fun c h0 h1 => by
    obtain ⟨n, rfl⟩ : ∃ n : Nat, c = n := ⟨c.toNat, by omega⟩
    have : n < 5 := by omega
    match n, this with
    | 0, _ => exact ⟨_, by omega, rfl⟩
    | 1, _ => exact ⟨-1, by omega, rfl⟩
    | 2, _ => exact ⟨999, by omega, rfl⟩
    | 3, _ => exact ⟨1000, by omega, rfl⟩
    | 4, _ => exact ⟨1, by omega, rfl⟩
  have hmany := l1Many_pure [116] 13 (by decide) (by decide) (by decide) (by decide)
  have hpure := l2Copy_pure (.mk id kind text kids) (.mk g1 g2 g3 g4 g5)
  have tail : ∀ (kk : List T) (q : Int), kk = kids → p + 1 ≤ q → q ≤ p + 2 →
      (∀ (z : Int) (kd tx : List UInt8), (-9223372036854775808 ≤ z ∧ z ≤ 9223372036854775807) → kd.length ≤ 1048576 → tx.length ≤ 1048576 → (T.mk z kd tx kk).Small ∧ ((T.mk z kd tx kk).size : Int) ≤ 2 * ((T.mk id kind text kk).size : Int) + 20) ∧
      (∀ x : T, x.Small → (x.size : Int) ≤ 1 + T.sizeL kk + 20 → (x.size : Int) ≤ 2 * ((T.mk id kind text kk).size : Int) + 20) ∧ q + 1 ≤ p + 2 * ((T.mk id kind text kk).size : Int) + 2 ∧ q ≤ p + 2 * ((T.mk id kind text kk).size : Int) + 2 := by
    intro kk q hkk h1 h2
    subst hkk
    have : ((T.mk id kind text kk).size : Int) = 1 + T.sizeL kk := by simp [T.size]
    refine ⟨fun z kd tx q1 q2 q3 => ⟨.mk q1 q2 q3 g4 g5, ?_⟩, fun x _ hx => by omega, by omega, by omega⟩
    have : ((T.mk z kd tx kk).size : Int) = 1 + T.sizeL kk := by simp [T.size]
    omega
  have hsm := T.Small.mk g1 g2 g3 g4 g5
  cases kids
  case' nil =>
    conv => whnf
    rw [ltB_f (by simp)]
    conv => whnf
    refine ⟨[0], false, ?_⟩
    conv => whnf
    refine (hpc p 6 p0 (by omega)).mono ?_
    rintro o st' ⟨c, c0, c1, rfl, rfl⟩
    obtain ⟨tl1, tl2, tl3, tl4⟩ := tail _ (p + 1) rfl (by omega) (by omega)
    have q0 : 0 ≤ p + 1 ∧ p + 1 ≤ 1073741822 ∧ p ≤ p + 1 := by omega
    generalize p + 1 = q at *
  case' cons k0 ks =>
    conv => whnf
    rw [ltB_t (by rw [Go.Cod.rows_len]; simp)]
    conv => whnf
    refine ⟨[0], false, ?_⟩
    conv => whnf
    refine hp2.mono ?_
    rintro o st' ⟨c, c0, c1, rfl, rfl⟩
    conv => whnf
    by_cases e0 : c = 0
    · rw [eqB_t e0]
      conv => whnf
      refine ⟨[0], false, ?_⟩
      conv => whnf
      refine (hpc (p + 1) _ (by omega) (by omega)).mono ?_
      rintro o st' ⟨c, c0, c1, rfl, rfl⟩
      have hlr := Go.Cod.rows_len (k0 :: ks)
      have hlk : (k0 :: ks).length = ks.length + 1 := rfl
      have c1 := c1 (by rw [hlr, hlk]; omega)
      rw [hlr] at c1
      have hct : c.toNat < (k0 :: ks).length := by omega
      have hg := rows_get (k0 :: ks) c.toNat hct
      have hki := ih (k0 :: ks)[c.toNat] (List.getElem_mem _) (p + 1 + 1) (by omega)
      have hs1 := sizeL_get (k0 :: ks) c.toNat hct
      have hs2 := sizeL_set (k0 :: ks) c.toNat hct
      have hs3 := rows_set (k0 :: ks) c.toNat
      have hs5 : ∀ t' : T, t'.Small → ∀ x ∈ (k0 :: ks).set c.toNat t', x.Small := fun t' h x hx => (List.mem_or_eq_of_mem_set hx).elim (g5 x) (fun e => e ▸ h)
      have hs6 : ∀ t' : T, ((k0 :: ks).set c.toNat t').length = (k0 :: ks).length := fun t' => List.length_set
      generalize (k0 :: ks)[c.toNat] = kt at *
      have hki := hki (by omega) (by omega)
      rcases kt with ⟨ti, tk, tx, tks⟩
      conv => whnf
      refine ⟨c0, _, _, 4, rfl, hg, rfl, rfl, ?_⟩
      conv => whnf
      refine AtRow_intro _ hg ?_
      conv => whnf
      refine ⟨[0], false, ?_⟩
      conv => whnf
      refine hki.mono ?_
      rintro o st' ⟨t', p', s1, s2, s3, s4, rfl, rfl⟩
      have hs2 := hs2 t'
      have hs3 := hs3 t'
      have hs5 := hs5 t' s1
      have hs6 := hs6 t'
      have e1s : ∀ X, (T.mk id kind text X).size = 1 + T.sizeL X := fun X => by simp [T.size]
      rcases t' with ⟨ti', tk', tx', tks'⟩
      conv => whnf
      repeat (refine And.intro (by conv => whnf
                                   first
                                     | rfl
                                     | exact ⟨c0, _, _, 4, rfl, hg, rfl, rfl, rfl⟩
                                     | exact AtRow_intro _ hg rfl) ?_
              conv => whnf)
      refine ⟨c0, _, _, 4, rfl, hg, rfl, rfl, ?_⟩
      conv => whnf
      refine AtRow_intro _ hg ?_
      conv => whnf
      refine ⟨[], false, ?_⟩
      conv => whnf
      refine ⟨.mk id kind text ((k0 :: ks).set c.toNat (.mk ti' tk' tx' tks')), p', .mk g1 g2 g3 (by rw [hs6]; omega) hs5, by rw [e1s, e1s]; omega, by omega, by rw [e1s]; omega, ?_, rfl⟩
      show Out.ret (.agg [.int .i64 id, .str kind, .str text, .sl ((T.rows (k0 :: ks)).set c.toNat (T.mk ti' tk' tx' tks').cells)]) = _
      rw [← hs3]
      rfl
    rw [eqB_f e0]
    conv => whnf
    refine ⟨[0], false, ?_⟩
    conv => whnf
    refine (hpc (p + 1) 6 (by omega) (by omega)).mono ?_
    rintro o st' ⟨c, c0, c1, rfl, rfl⟩
    obtain ⟨tl1, tl2, tl3, tl4⟩ := tail _ (p + 1 + 1) rfl (by omega) (by omega)
    have q0 : 0 ≤ p + 1 + 1 ∧ p + 1 + 1 ≤ 1073741822 ∧ p ≤ p + 1 + 1 := by omega
    generalize p + 1 + 1 = q at *
  all_goals
    clear tail hsz hp2
    conv => whnf
    by_cases e0 : c = 0
    · rw [eqB_t e0]
      conv => whnf
      refine ⟨[0], false, ?_⟩
      conv => whnf
      refine (hpc q 5 (by omega) (by omega)).mono ?_
      rintro o st' ⟨c, c0, c1, rfl, rfl⟩
      obtain ⟨z, hz, hzg⟩ := five c c0 (c1 (by omega))
      conv => whnf
      refine ⟨c0, _, _, 1, rfl, hzg, rfl, rfl, ?_⟩
      conv => whnf
      refine AtRow_intro _ hzg ?_
      conv => whnf
      refine ⟨[], false, ?_⟩
      conv => whnf
      exact ⟨.mk z kind text _, q + 1, (tl1 z kind text hz g2 g3).1, (tl1 z kind text hz g2 g3).2, by omega, tl3, rfl, rfl⟩
    rw [eqB_f e0]
    conv => whnf
    by_cases e1 : c = 1
    · rw [eqB_t e1]
      conv => whnf
      refine ⟨[0], false, ?_⟩
      conv => whnf
      refine (of_full bs q [[], [65], [116,111,111,108,111,110,103,110,97,109,101], [120]] hb (by omega) (by omega) (by decide) (by decide)).mono ?_
      rintro o st' ⟨s, hs, rfl, rfl⟩
      have hsl : s.length ≤ 1048576 := by
        simp only [List.mem_cons, List.not_mem_nil, or_false] at hs
        rcases hs with rfl | rfl | rfl | rfl <;> decide
      conv => whnf
      refine ⟨[], false, ?_⟩
      conv => whnf
      exact ⟨.mk id s text _, q + 1, (tl1 id s text g1 hsl g3).1, (tl1 id s text g1 hsl g3).2, by omega, tl3, rfl, rfl⟩
    rw [eqB_f e1]
    conv => whnf
    by_cases e2 : c = 2
    · rw [eqB_t e2]
      conv => whnf
      refine .inl (hmany.mono ?_)
      rintro r ⟨tt, htt, rfl⟩
      conv => whnf
      refine ⟨[0], false, ?_⟩
      conv => whnf
      refine (of_full bs q [[34], [10], tt] hb (by omega) (by omega) (by simp) (by simp)).mono ?_
      rintro o st' ⟨s, hs, rfl, rfl⟩
      have hsl : s.length ≤ 1048576 := by
        simp only [List.mem_cons, List.not_mem_nil, or_false] at hs
        rcases hs with rfl | rfl | rfl
        · decide
        · decide
        · rw [htt]; decide
      conv => whnf
      refine ⟨[], false, ?_⟩
      conv => whnf
      exact ⟨.mk id kind s _, q + 1, (tl1 id kind s g1 g2 hsl).1, (tl1 id kind s g1 g2 hsl).2, by omega, tl3, rfl, rfl⟩
    rw [eqB_f e2]
    conv => whnf
    by_cases e3 : c = 3
    · rw [eqB_t e3]
      conv => whnf
      refine ⟨_, .inl hpure, ?_⟩
      conv => whnf
      refine ⟨fun m hm => by rw [List.mem_singleton.1 hm]; rfl, ?_⟩
      conv => whnf
      first
        | refine ⟨by show 1 * 64 ≤ _; omega, .inr ⟨(by intro e; cases e), ?_⟩⟩
        | refine ⟨by
            show ((T.rows (_ :: _)).length + 1) * 64 ≤ _
            rw [Go.Cod.rows_len]; omega, ?_⟩
      conv => whnf
      refine ⟨[], false, ?_⟩
      conv => whnf
      first
        | exact ⟨.mk id kind text [.mk id kind text []], q, .mk g1 g2 g3 (by simp) (by simpa using hsm), by simp only [T.size, T.sizeL]; omega, by omega, tl4, rfl, rfl⟩
        | (refine ⟨.mk id kind text ((k0 :: ks) ++ [.mk id kind text (k0 :: ks)]), q, .mk g1 g2 g3 (by rw [List.length_append]; simp only [List.length_singleton]; omega) (small_snoc g5 hsm), by simp only [T.size, T.sizeL_append, T.sizeL]; omega, by omega, tl4, ?_, rfl⟩
           show Out.ret (.agg [.int .i64 id, .str kind, .str text, .sl (T.rows (k0 :: ks) ++ [(T.mk id kind text (k0 :: ks)).cells])]) = _
           rw [← T.rows_snoc]
           rfl)
    rw [eqB_f e3]
    conv => whnf
    by_cases e4 : c = 4
    · rw [eqB_t e4]
      conv => whnf
      first
        | refine loop_drop (SpJ bs q _ 7 6 (1 + T.sizeL [])) 6 (some [0, 1, 2, 3]) (by
            conv => whnf
            exact ⟨.mk id kind text _, 0, rfl, hsm, by simp only [T.size]; omega, ⟨rfl, rfl, rfl, rfl, trivial⟩, rfl⟩) ?_
        | refine loop_drop (SpJ bs q _ 7 6 (1 + T.sizeL (k0 :: ks))) 6 (some [0, 1, 2, 4, 3]) (by
            conv => whnf
            exact ⟨.mk id kind text _, 0, rfl, hsm, by simp only [T.size]; omega, ⟨rfl, rfl, rfl, rfl, trivial⟩, rfl⟩) ?_
      rintro n fr st ⟨x, i, hi, x1, x2, hh, rfl⟩
      obtain ⟨fr, rfl⟩ := hh.split
      clear hh
      have x3 := tl2 x x1
      rcases x with ⟨xi, xk, xt, xs⟩
      simp only [T.id, T.kind, T.text, T.kids]
      have x4 := x1
      cases x4 with
      | mk y1 y2 y3 y4 y5 =>
      by_cases hlt : i < 6
      · have w1 : IntKind.i64.wrap (500 + (i : Int)) = 500 + (i : Int) := wrap64 (by omega) (by omega)
        have w2 : V.int .i64 (IntKind.i64.wrap ((i : Int) + 1)) = .int .i64 ((i + 1 : Nat) : Int) := by
          rw [wrap64 (by omega) (by omega)]; rfl
        rcases xs with _ | ⟨x0, xs⟩
        all_goals
          conv => whnf
          rw [ltB_t (by omega)]
          conv => whnf
        · refine ⟨n - 1, by omega, some [0, 1, 2, 3, 4], ?_⟩
          conv => whnf
          refine ⟨.mk (500 + i) [120] [] [.mk xi xk xt []], i + 1, by omega, .mk (by omega) (by simp) (by simp) (by simp) (by simpa using x1), by simp only [T.size, T.sizeL] at x2 ⊢; omega, ⟨rfl, rfl, rfl, w2, trivial⟩, ?_⟩
          rw [w1]; rfl
        · refine ⟨n - 1, by omega, some [0, 1, 2, 3, 5], ?_⟩
          conv => whnf
          refine ⟨.mk (500 + i) [120] [] [.mk xi xk xt (x0 :: xs)], i + 1, by omega, .mk (by omega) (by simp) (by simp) (by simp) (by simpa using x1), by simp only [T.size, T.sizeL] at x2 ⊢; omega, ⟨rfl, rfl, rfl, w2, trivial⟩, ?_⟩
          rw [w1]; rfl
      · rcases xs with _ | ⟨x0, xs⟩
        all_goals
          conv => whnf
          rw [ltB_f (by omega)]
          conv => whnf
          refine ⟨[], false, ?_⟩
          conv => whnf
          exact ⟨.mk xi xk xt _, q, x1, x3 (by omega), by omega, tl4, rfl, rfl⟩
    rw [eqB_f e4]
    conv => whnf
    first
      | refine loop_drop (SpJ bs q _ 8 20 (1 + T.sizeL [])) 20 (some [0, 1, 2, 3]) (by
          conv => whnf
          exact ⟨.mk id kind text _, 0, rfl, hsm, by simp only [T.size]; omega, ⟨rfl, rfl, rfl, rfl, trivial⟩, rfl⟩) ?_
      | refine loop_drop (SpJ bs q _ 8 20 (1 + T.sizeL (k0 :: ks))) 20 (some [0, 1, 2, 4, 3]) (by
          conv => whnf
          exact ⟨.mk id kind text _, 0, rfl, hsm, by simp only [T.size]; omega, ⟨rfl, rfl, rfl, rfl, trivial⟩, rfl⟩) ?_
    rintro n fr st ⟨x, i, hi, x1, x2, hh, rfl⟩
    obtain ⟨fr, rfl⟩ := hh.split
    clear hh
    have x3 := tl2 x x1
    have x6 := length_le_sizeL x.kids
    rcases x with ⟨xi, xk, xt, xs⟩
    simp only [T.id, T.kind, T.text, T.kids] at x6 ⊢
    have x4 := x1
    cases x4 with
    | mk y1 y2 y3 y4 y5 =>
    by_cases hlt : i < 20
    · have w1 : IntKind.i64.wrap (600 + (i : Int)) = 600 + (i : Int) := wrap64 (by omega) (by omega)
      have w2 : V.int .i64 (IntKind.i64.wrap ((i : Int) + 1)) = .int .i64 ((i + 1 : Nat) : Int) := by
        rw [wrap64 (by omega) (by omega)]; rfl
      have hsn : (T.mk (600 + i) [112,97,114] [] []).Small := .mk (by omega) (by simp) (by simp) (by simp) (by simp)
      rcases xs with _ | ⟨x0, xs⟩
      all_goals
        conv => whnf
        rw [ltB_t (by omega)]
        conv => whnf
        rw [w1]
        refine ⟨fun m hm => by rw [List.mem_singleton.1 hm]; rfl, ?_⟩
        conv => whnf
      · refine ⟨by show 1 * 64 ≤ _; omega, .inr ⟨(by intro e; cases e), ?_⟩⟩
        conv => whnf
        refine ⟨n - 1, by omega, some [0, 1, 2, 3, 5], ?_⟩
        conv => whnf
        exact ⟨.mk xi xk xt [.mk (600 + i) [112,97,114] [] []], i + 1, by omega, .mk y1 y2 y3 (by simp) (by simpa using hsn), by simp only [T.size, T.sizeL] at x2 ⊢; omega, ⟨rfl, rfl, rfl, w2, trivial⟩, rfl⟩
      · refine ⟨by
          show ((T.rows (x0 :: xs)).length + 1) * 64 ≤ _
          rw [Go.Cod.rows_len]; omega, ?_⟩
        conv => whnf
        refine ⟨n - 1, by omega, some [0, 1, 2, 3, 6], ?_⟩
        conv => whnf
        refine ⟨.mk xi xk xt ((x0 :: xs) ++ [.mk (600 + i) [112,97,114] [] []]), i + 1, by omega, .mk y1 y2 y3 (by rw [List.length_append]; simp only [T.size] at x2; simp only [List.length_singleton]; omega) (small_snoc y5 hsn), by simp only [T.size, T.sizeL_append] at x2 ⊢; simp only [T.sizeL, T.size] at x2 ⊢; omega, ⟨rfl, rfl, rfl, w2, trivial⟩, ?_⟩
        show _ = _ ++ kidsO ((x0 :: xs) ++ [.mk (600 + i) [112,97,114] [] []])
        rw [kidsO_snoc]
        rfl
    · rcases xs with _ | ⟨x0, xs⟩
      all_goals
        conv => whnf
        rw [ltB_f (by omega)]
        conv => whnf
        refine ⟨[], false, ?_⟩
        conv => whnf
        exact ⟨.mk xi xk xt _, q, x1, x3 (by omega), by omega, tl4, rfl, rfl⟩
end Go.Cod

namespace Go.Cod
open Go Go.Proofs
set_option maxRecDepth 10000

/- A tree and a number are drawn. -/
theorem l1Open_full (bs : List UInt8) (hb : bs.length ≤ 1048576) : Full Tryd.prog noY 38 [.sl (brows bs)] [] fun o st' => o = .ret (.ptr 0 0 0) ∧ ∃ bs' : List UInt8, bs'.length ≤ 2000 ∧ st' = [rdO bs' 0] := by
  have hl := brows_len bs
  have h1 : ∀ r ∈ brows bs, r.length = 1 := fun r h => by
    obtain ⟨b, _, rfl⟩ := List.mem_map.1 h; rfl
  have h2 : ((brows bs).take 2000).drop 0 = brows (bs.take 2000) := by rw [brows, brows, List.map_take]; rfl
  refine full_of_awp good Tryd.func38 rfl (by kernel_rfl) (by decide) ?_
  generalize hR : brows bs = R at *
  conv => whnf
  by_cases a : 2000 < R.length
  · rw [ltB_t (by omega)]
    conv => whnf
    refine ⟨h1, by omega, by show 2000 ≤ _; omega, ?_⟩
    conv => whnf
    refine ⟨[0], false, ?_⟩
    conv => whnf
    refine ⟨rfl, bs.take 2000, by rw [List.length_take]; omega, ?_⟩
    show [(⟨[[.sl ((R.take 2000).drop 0), .int .i64 0]], 2, true, true, true, .cell⟩ : O)] = _
    rw [h2]; rfl
  · rw [ltB_f (by omega)]
    conv => whnf
    refine ⟨[0], false, ?_⟩
    conv => whnf
    refine ⟨rfl, bs, by omega, ?_⟩
    rw [rdO, hR]; rfl

theorem l11Some_full (bs : List UInt8) (hb : bs.length ≤ 2000) (p n : Int) (p0 : 0 ≤ p) (p1 : p ≤ 1000000) : Full Tryd.prog noY 37 [.ptr 0 0 0, .int .i64 n] [rdO bs p] fun o st' => ∃ (t : T) (p' : Int), t.Small ∧ t.size ≤ 600000 ∧ p ≤ p' ∧ p' ≤ p + 1000000 ∧ o = .ret (.agg t.cells) ∧ st' = [rdO bs p'] := by
  have ha := l11AnyTree_full bs hb p p0 (by omega)
  refine full_of_awp good Tryd.func37 rfl (by kernel_rfl) (by decide) ?_
  conv => whnf
  refine ⟨[0], false, ?_⟩
  conv => whnf
  refine ha.mono ?_
  rintro o st' ⟨t, p2, s1, s2, s3, s4, rfl, rfl⟩
  have hs := spoil_full bs hb t s1 (p2 + 1) (by omega) (by omega) (by omega)
  have hp := pick_full bs p2 n hb (by omega) (by omega)
  rcases t with ⟨ti, tk, tx, tks⟩
  conv => whnf
  refine ⟨[0], false, ?_⟩
  conv => whnf
  refine hp.mono ?_
  rintro o st' ⟨c, c0, c1, rfl, rfl⟩
  conv => whnf
  by_cases hc : c = 0
  · rw [eqB_t hc]
    conv => whnf
    refine ⟨[0], false, ?_⟩
    conv => whnf
    refine hs.mono ?_
    rintro o st' ⟨t', p', q1, q2, q3, q4, rfl, rfl⟩
    rcases t' with ⟨ti', tk', tx', tks'⟩
    conv => whnf
    refine ⟨[], false, ?_⟩
    conv => whnf
    exact ⟨.mk ti' tk' tx' tks', p', q1, by omega, by omega, by omega, rfl, rfl⟩
  · rw [eqB_f hc]
    conv => whnf
    refine ⟨[], false, ?_⟩
    conv => whnf
    exact ⟨.mk ti tk tx tks, p2 + 1, s1, by omega, by omega, by omega, rfl, rfl⟩

theorem l11Id_full (bs : List UInt8) (hb : bs.length ≤ 2000) (p : Int) (p0 : 0 ≤ p) (p1 : p ≤ 10000000) (t : T) (ht : t.Small) (hz : t.size ≤ 600000) : Full Tryd.prog noY 66 [.ptr 0 0 0, .agg t.cells] [rdO bs p] fun o st' => ∃ (x p' : Int), p ≤ p' ∧ p' ≤ p + 2 ∧ o = .ret (.int .i64 x) ∧ st' = [rdO bs p'] := by
  have hn := T.ids_size t
  have hi := l2Ids_pure t ht (by omega)
  have hl : (irows t.ids).length = t.ids.length := by simp [irows]
  have hp : ∀ (q n : Int), 0 ≤ q → q ≤ 1073741824 → Full Tryd.prog noY 69 [.ptr 0 0 0, .int .i64 n] [rdO bs q] fun o st' => ∃ m : Int, 0 ≤ m ∧ (1 ≤ n → m < n) ∧ o = .ret (.int .i64 m) ∧ st' = [rdO bs (q + 1)] := fun q n h0 h1 => pick_full bs q n hb h0 h1
  have hpos := size_pos t
  have hg : ∀ (m : Int), 0 ≤ m → m < t.ids.length → ∃ x : Int, (irows t.ids)[m.toNat]? = some [.int .i64 x] := fun m h0 h1 => by
    have : m.toNat < t.ids.length := by omega
    exact ⟨t.ids[m.toNat], by simp [irows, this]⟩
  generalize irows t.ids = rows at *
  generalize t.ids.length = n at *
  cases t with
  | mk id kind text kids =>
  refine full_of_awp good Tryd.func66 rfl (by kernel_rfl) (by decide) ?_
  conv => whnf
  refine .inl (hi.mono ?_)
  rintro r rfl
  conv => whnf
  refine ⟨[0], false, ?_⟩
  conv => whnf
  refine (hp p 6 p0 (by omega)).mono ?_
  rintro o st' ⟨c, c0, c1, rfl, rfl⟩
  conv => whnf
  by_cases hc : c = 0
  · rw [eqB_t hc]
    conv => whnf
    refine ⟨[0], false, ?_⟩
    conv => whnf
    refine (hp (p + 1) 30 (by omega) (by omega)).mono ?_
    rintro o st' ⟨c, c0, c1, rfl, rfl⟩
    conv => whnf
    refine ⟨[], false, ?_⟩
    conv => whnf
    exact ⟨_, p + 1 + 1, by omega, by omega, rfl, rfl⟩
  · rw [eqB_f hc]
    conv => whnf
    refine ⟨[0], false, ?_⟩
    conv => whnf
    refine (hp (p + 1) _ (by omega) (by omega)).mono ?_
    rintro o st' ⟨c, c0, c1, rfl, rfl⟩
    obtain ⟨x, hx⟩ := hg c c0 (by have := c1 (by omega); omega)
    conv => whnf
    refine ⟨c0, _, _, 1, rfl, hx, rfl, rfl, ?_⟩
    conv => whnf
    refine ⟨[], false, ?_⟩
    conv => whnf
    exact ⟨x, p + 1 + 1, by omega, by omega, rfl, rfl⟩

def DrawR (r : V) : Prop := ∃ (t : T) (x : Int), t.Small ∧ t.size ≤ 600000 ∧ r = .tup [.agg t.cells, .int .i64 x]
theorem drawTreeFind_pure (bs : List UInt8) (hb : bs.length ≤ 1048576) : Pure Tryd.prog 64 [.sl (brows bs)] DrawR := by
  have ho := l1Open_full bs hb
  refine pure_of_awp good Tryd.func64 rfl (by kernel_rfl) (by decide) ?_
  conv => whnf
  refine .inr (.inl ⟨[], false, ?_⟩)
  conv => whnf
  refine ho.mono ?_
  rintro o st' ⟨rfl, bs', hb', rfl⟩
  conv => whnf
  refine ⟨[1], false, ?_⟩
  conv => whnf
  refine (l11Some_full bs' hb' 0 12 (by omega) (by omega)).mono ?_
  rintro o st' ⟨t, p, s1, s2, s3, s4, rfl, rfl⟩
  have hid := l11Id_full bs' hb' p (by omega) (by omega) t s1 s2
  rcases t with ⟨ti, tk, tx, tks⟩
  conv => whnf
  refine ⟨[1], false, ?_⟩
  conv => whnf
  refine hid.mono ?_
  rintro o st' ⟨x, p', q1, q2, rfl, rfl⟩
  conv => whnf
  repeat (refine And.intro (by conv => whnf
                               rfl) ?_
          conv => whnf)
  exact ⟨.mk ti tk tx tks, x, s1, s2, rfl⟩

end Go.Cod

namespace Go.Cod
open Go Go.Proofs
set_option maxRecDepth 10000

theorem drawPathOf_pure (bs : List UInt8) (hb : bs.length ≤ 1048576) : Pure Tryd.prog 29 [.sl (brows bs)] DrawR := by
  have ho := drawTreeFind_pure bs hb
  refine pure_of_awp good Tryd.func29 rfl (by kernel_rfl) (by decide) ?_
  conv => whnf
  refine .inl (ho.mono ?_)
  rintro r ⟨t, x, s1, s2, rfl⟩
  rcases t with ⟨ti, tk, tx, tks⟩
  conv => whnf
  exact ⟨.mk ti tk tx tks, x, s1, s2, rfl⟩
set_option maxHeartbeats 4000000 in
theorem l11Bend_full (bs : List UInt8) (hb : bs.length ≤ 2000) (p : Int) (p0 : 0 ≤ p) (p1 : p ≤ 10000000) (s : List UInt8) (ss : List (List UInt8)) (n : Int) (hs : s.length ≤ 1073741824) (hn : 1 ≤ ss.length) (hn' : ss.length ≤ 100) (hss : ∀ x ∈ ss, x.length ≤ 100) :
    Full Tryd.prog noY 65 [.ptr 0 0 0, .str s, .sl (drows ss), .int .i64 n] [rdO bs p] fun o st' => ∃ (s' : List UInt8) (p' : Int), s'.length ≤ s.length + 100 ∧ p ≤ p' ∧ p' ≤ p + 3 ∧ o = .ret (.str s') ∧ st' = [rdO bs p'] := by
  have h1 := pick_full bs p n hb p0 (by omega)
  have h2 := pick_full bs (p + 1) (s.length + 1) hb (by omega) (by omega)
  have h3 := of_full bs (p + 1 + 1) ss hb (by omega) (by omega) hn (by omega)
  have w1 : IntKind.i64.wrap ((s.length : Int) + 1) = s.length + 1 := wrap64 (by omega) (by omega)
  generalize drows ss = rows at *
  refine full_of_awp good Tryd.func65 rfl (by kernel_rfl) (by decide) ?_
  conv => whnf
  refine ⟨[0], false, ?_⟩
  conv => whnf
  refine h1.mono ?_
  rintro o st' ⟨m, m0, m1, rfl, rfl⟩
  conv => whnf
  by_cases a : 0 < m
  · rw [ltB_t a]
    conv => whnf
    refine ⟨[], false, ?_⟩
    conv => whnf
    exact ⟨s, p + 1, by omega, by omega, by omega, rfl, rfl⟩
  · rw [ltB_f (by omega)]
    conv => whnf
    rw [w1]
    refine ⟨[0], false, ?_⟩
    conv => whnf
    refine h2.mono ?_
    rintro o st' ⟨k, k0, k1, rfl, rfl⟩
    have k1 := k1 (by omega)
    conv => whnf
    refine ⟨k0, by omega, ?_⟩
    conv => whnf
    refine ⟨rfl, ?_⟩
    conv => whnf
    refine ⟨k0, by omega, ?_⟩
    conv => whnf
    refine ⟨rfl, ?_⟩
    conv => whnf
    refine ⟨[0], false, ?_⟩
    conv => whnf
    refine h3.mono ?_
    rintro o st' ⟨x, hx, rfl, rfl⟩
    have hxl := hss x hx
    conv => whnf
    repeat (refine And.intro (by conv => whnf
                                 exact ⟨k0, by omega, rfl, rfl⟩) ?_
            conv => whnf)
    refine ⟨by rw [List.length_drop, List.length_take]; omega, ?_⟩
    conv => whnf
    repeat (refine And.intro (by conv => whnf
                                 exact ⟨k0, by omega, rfl, rfl⟩) ?_
            conv => whnf)
    refine ⟨by rw [List.length_append, List.length_drop, List.length_take, List.length_drop, List.length_take]; omega, ?_⟩
    conv => whnf
    refine ⟨[], false, ?_⟩
    conv => whnf
    exact ⟨_, p + 1 + 1 + 1, by rw [List.length_append, List.length_append, List.length_drop, List.length_take, List.length_drop, List.length_take]; omega, by omega, by omega, rfl, rfl⟩
def DrawRP (r : V) : Prop := ∃ (t : T) (s : List UInt8), t.Small ∧ t.size ≤ 600000 ∧ s.length ≤ 1048576 * 64 ∧ r = .tup [.agg t.cells, .str s]
theorem pathOf_len (t : T) (hs : t.Small) (x : Int) : (firstS (pathsAt t x)).length ≤ 2097152 * 21 := by
  have := pathOf_eq t x
  unfold pathOf at this
  rw [this]
  split
  · rename_i hok
    cases hf : (waysA [] (spT t 0 1)).find? (W.has x) with
    | none => show ([] : List UInt8).length ≤ _; simp
    | some e =>
      obtain ⟨pre, s, suf, hsp, rfl⟩ := waysA_mem (List.mem_of_find?_eq_some hf)
      exact way_len hs hsp hok
  · simp
set_option maxHeartbeats 8000000 in
theorem drawPathFind_pure (bs : List UInt8) (hb : bs.length ≤ 1048576) : Pure Tryd.prog 31 [.sl (brows bs)] DrawRP := by
  have ho := l1Open_full bs hb
  refine pure_of_awp good Tryd.func31 rfl (by kernel_rfl) (by decide) ?_
  conv => whnf
  refine .inr (.inl ⟨[], false, ?_⟩)
  conv => whnf
  refine ho.mono ?_
  rintro o st' ⟨rfl, bs', hb', rfl⟩
  conv => whnf
  refine ⟨[1], false, ?_⟩
  conv => whnf
  refine (l11Some_full bs' hb' 0 12 (by omega) (by omega)).mono ?_
  rintro o st' ⟨t, p, s1, s2, s3, s4, rfl, rfl⟩
  have hid := l11Id_full bs' hb' p (by omega) (by omega) t s1 s2
  have hsz := T.ids_size t
  have hP := fun x => specPathOf_pure t s1 (by omega) x
  have hL := fun x => pathOf_len t s1 x
  have hB := fun (p' : Int) (h0 : 0 ≤ p') (h1 : p' ≤ 10000000) (s : List UInt8) (hs : s.length ≤ 1073741824) => l11Bend_full bs' hb' p' h0 h1 s [[47], [48], [49], [46], [120]] 5 hs (by simp) (by simp) (by decide)
  have hdr : drows [[47], [48], [49], [46], [120]] = [[.str [47]], [.str [48]], [.str [49]], [.str [46]], [.str [120]]] := rfl
  rw [hdr] at hB
  rcases t with ⟨ti, tk, tx, tks⟩
  have hfin : ∀ s' : List UInt8, s'.length ≤ 2097152 * 21 + 100 → DrawRP (.tup [.agg (T.mk ti tk tx tks).cells, .str s']) := fun s' h => ⟨_, s', s1, s2, by omega, rfl⟩
  conv => whnf
  repeat' (first
    | (refine ⟨[1], false, ?_⟩
       conv => whnf
       refine hid.mono ?_
       rintro o st' ⟨x, p', q1, q2, rfl, rfl⟩
       conv => whnf)
    | (refine .inl ((hP _).mono ?_)
       rintro r rfl
       have hLx := hL ‹Int›
       conv => whnf)
    | (refine ⟨[1], false, ?_⟩
       conv => whnf
       refine (hB _ (by omega) (by omega) _ (Nat.le_trans (hL _) (by omega))).mono ?_
       rintro o st' ⟨s', p'', b1, b2, b3, rfl, rfl⟩
       conv => whnf)
    | (refine And.intro ?_ ?_ <;> conv => whnf)
    | rfl
    | exact hfin _ (Nat.le_trans (by assumption) (Nat.add_le_add_right (hL _) _)))
end Go.Cod

namespace Go.Cod
open Go Go.Proofs Go.ChangeShapes Go.WideShapes Go.ChangeAt Go.RowKit
set_option maxRecDepth 10000

theorem neq_refl (a : Int) : negB (eqB a a) = false := by rw [eqB_refl]; rfl
theorem neqS_refl (a : List UInt8) : negB (eqS a a) = false := by rw [eqS_refl]; rfl
theorem ownK : ownKnob Tryd.prog.godebug = none := by kernel_rfl
theorem argTree {H : Type} {enc : TypeId × Value → H} {W : World} : ReadsA enc Tryd.prog W 44 fun x => ∃ vs, x = .agg vs ∧ ∃ t : T, vs = t.cells ∧ t.Ok := readsA_agg Tryd.underlying44 fun n => reads_tree n
end Go.Cod

namespace Go.Cod
open Go Go.Proofs Go.ChangeShapes Go.WideShapes Go.ChangeAt Go.RowKit
set_option maxRecDepth 10000

def byteOf : List V → UInt8
  | [.int _ i] => UInt8.ofNat i.toNat
  | _ => 0
theorem argBytes {H : Type} {enc : TypeId × Value → H} {W : World} : ReadsA enc Tryd.prog W 22 fun x => ∃ bs : List UInt8, x = .sl (brows bs) := by
  intro base v d p hv h
  obtain ⟨x, ⟨es, hx, _, hr⟩, hrep⟩ := readsA_slice (S := fun vs => ∃ es, vs = [.sl es] ∧ es.length ≤ maxLen ∧ ∀ r ∈ es, (∃ i, r = [.int .u8 i] ∧ IntKind.u8.min ≤ i ∧ i ≤ IntKind.u8.max) ∧ r.length = Tryd.prog.cellsOf 5 ∧ (∀ v ∈ r, v.leaf = true) ∧ V.clean.cleanL 0 r = true)
    Tryd.underlying22 (fun n => reads_slice Tryd.underlying22 (by decide +kernel) fun m _ => reads_int Tryd.underlying5) base v d p hv h
  cases hx
  refine ⟨_, ⟨es.map byteOf, ?_⟩, hrep⟩
  congr 1
  rw [brows, List.map_map]
  refine (List.map_id es).symm.trans (List.map_congr_left fun r hr' => ?_)
  obtain ⟨⟨i, rfl, h1, h2⟩, _⟩ := hr r hr'
  have h1 : 0 ≤ i := h1
  have h2 : i ≤ 255 := h2
  simp only [id_eq, Function.comp, byteOf, cellB]
  congr 2
  simp only [UInt8.toNat_ofNat']
  omega
end Go.Cod

namespace Go.Cod
open Go Go.Proofs Go.ChangeShapes Go.WideShapes Go.ChangeAt Go.RowKit
set_option maxRecDepth 10000

set_option maxHeartbeats 8000000 in
theorem law_fnPathTwice (bs cs : List UInt8) : Pure Tryd.prog 7 [.sl (brows bs), .sl (brows cs)] (· = .bool true) := by
  have hl := brows_len bs
  have hl2 := brows_len cs
  have hd := drawPathOf_pure bs
  have hd2 := drawPathFind_pure cs
  refine pure_of_awp good Tryd.func7 rfl (by kernel_rfl) (by decide) ?_
  generalize brows bs = R at *
  generalize brows cs = R2 at *
  conv => whnf
  by_cases a : 1048576 < R.length
  · rw [ltB_t (by omega)]
    conv => whnf
  rw [ltB_f (by omega)]
  conv => whnf
  by_cases a2 : 1048576 < R2.length
  · rw [ltB_t (by omega)]
    conv => whnf
  rw [ltB_f (by omega)]
  conv => whnf
  refine .inl ((hd (by omega)).mono ?_)
  rintro r ⟨t, x, s1, s2, rfl⟩
  have hid := T.ids_size t
  have i1 : Pure Tryd.prog 25 [.agg t.cells, .int .i64 x] (· = .str (pathOf t x)) := implPathOf_pure t s1 x
  have i2 : Pure Tryd.prog 23 [.agg t.cells, .int .i64 x] (· = .str (pathOf t x)) := specPathOf_pure t s1 (by omega) x
  have i3 := implTreeOk t s1
  have i4 := specTreeOk_pure t s1 (by omega)
  have i5 : Pure Tryd.prog 28 [.agg t.cells, .str (pathOf t x)] (· = .int .i64 (pathFind t (pathOf t x))) := implPathFind_pure t s1 (pathOf t x)
  have i6 := implTreeOver_pure t s1 x
  have m1 := path_none t x
  have m2 := path_found (t := t) (x := x)
  have heq : ∀ b : Bool, (!(b == b)) = false := by decide
  have hf1 := hd2 (by omega)
  clear hd hd2
  generalize pathFind t (pathOf t x) = pf at *
  generalize pathOf t x = w at *
  generalize treeOver t x = ov at *
  generalize okT t = okt at *
  rcases t with ⟨ti, tk, tx, tks⟩
  conv => whnf
  refine .inl (i1.mono ?_)
  rintro r rfl
  conv => whnf
  refine ⟨_, .inl i2, ?_⟩
  conv => whnf
  rw [neqS_refl]
  conv => whnf
  refine ⟨_, .inl i3, ?_⟩
  conv => whnf
  refine ⟨_, .inl i4, ?_⟩
  conv => whnf
  rw [heq]
  have hrest : ∀ (t : T) (p : List UInt8), t.Small → t.size ≤ 600000 → Pure Tryd.prog 28 [.agg t.cells, .str p] (· = .int .i64 (pathFind t p)) ∧ Pure Tryd.prog 27 [.agg t.cells, .str p] (· = .int .i64 (pathFind t p)) ∧
      (pathFind t p ≠ 0 → Pure Tryd.prog 25 [.agg t.cells, .int .i64 (pathFind t p)] (· = .str p)) := fun t p s1 s2 => by
    have hid := T.ids_size t
    refine ⟨implPathFind_pure t s1 p, specPathFind_pure t s1 (by omega) p, fun h => ?_⟩
    have := implPathOf_pure t s1 (pathFind t p)
    rw [show firstS (pathsAt t (pathFind t p)) = pathOf t (pathFind t p) from rfl, find_pathed h] at this
    exact this
  clear i1 i2 i3 i4
  conv => whnf
  by_cases hw : w = []
  case' pos =>
    have hov := m1.1 hw
    rw [eqS_t hw]
    conv => whnf
    refine .inl (i6.mono ?_)
    rintro r rfl
    conv => whnf
    rw [ltB_t hov, eqS_t hw]
    conv => whnf
  case' neg =>
    have hov : 0 ≤ ov := by
      by_cases h : ov < 0
      · exact absurd (m1.2 h) hw
      · omega
    have hpf := m2 hw
    rw [eqS_f hw]
    conv => whnf
    refine .inl (i5.mono ?_)
    rintro r rfl
    conv => whnf
    rw [eqB_t hpf]
    conv => whnf
    refine .inl (i6.mono ?_)
    rintro r rfl
    conv => whnf
    rw [ltB_f hov, eqS_f hw]
    conv => whnf
  all_goals
    refine .inl (hf1.mono ?_)
    rintro r ⟨t, p, q1, q2, q3, rfl⟩
    obtain ⟨f1, f2, f3⟩ := hrest t p q1 q2
    generalize pathFind t p = n at *
    rcases t with ⟨tj, tk', tx', tks'⟩
    conv => whnf
    refine .inl (f1.mono ?_)
    rintro r rfl
    conv => whnf
    refine .inl (f2.mono ?_)
    rintro r rfl
    conv => whnf
    rw [eqB_refl]
    conv => whnf
    by_cases h0 : n = 0
    · rw [eqB_t h0]
      conv => whnf
    · rw [eqB_f h0]
      conv => whnf
      refine .inl ((f3 h0).mono ?_)
      rintro r rfl
      conv => whnf
      rw [eqS_refl]
theorem lawFnPathTwice (bs cs : List UInt8) : Pure Tryd.prog 7 [.sl (brows bs), .sl (brows cs)] (· = .bool true) := law_fnPathTwice bs cs
theorem conFnPathTwice (H : Type) (enc : TypeId × Value → H) (W : World) (base : Nat) (args : Array Value) (ds gs : List (DataW H)) (before : List MemPlace)
    (hval : ∀ (j : Nat) t v, Tryd.f7.params[j]? = some t → args[j]? = some v → Value.okWide Tryd.prog W .any base t v)
    (hW : DataW.Whole enc Tryd.prog Tryd.f7.params.toList YtaekcebacghjoaaDoor.Rows.fnPathTwiceSpec.vars false W args.toList ds gs before) {fresh handsOn again : Bool} :
    Calls Tryd.prog 7 args W fun e W' => ∃ v, e = .returned v ∧ YtaekcebacghjoaaDoor.Rows.fnPathTwiceSpec.post enc Tryd.prog Tryd.f7 false fresh handsOn again W args v W' := by
  refine law_calls kids full (tb := 4) rfl Tryd.underlying4 (by decide +kernel) rfl hW (fun ds h => by match ds, h with | [_, _], _ => exact ⟨rfl, rfl, rfl⟩) hval
    (Ss := [fun x => ∃ bs : List UInt8, x = .sl (brows bs), fun x => ∃ bs : List UInt8, x = .sl (brows bs)]) laid0 ?_ ?_
  · rw [Tryd.params7]
    exact ⟨argBytes, argBytes, trivial⟩
  · intro xs h
    obtain ⟨_, _, rfl, ⟨t0, rfl⟩, ⟨t1, rfl⟩⟩ := hold2 h
    exact lawFnPathTwice t0 t1

theorem doorFnPathTwice (os : Os) (args : Array Value) : laidMetH Tryd.prog YtaekcebacghjoaaDoor.Rows.fnPathTwiceRow.laid ((World.doorLaid Tryd.prog 400 os).forCall (fun _ _ => 0) ⟨#[], args, []⟩).memory :=
  laidMetH_of_parts3 (fuel := 8) (laidMet_of_run' 8 (by kernel_rfl) (by kernel_rfl)) (by kernel_rfl) (by kernel_rfl)

set_option maxRecDepth 100000 in
theorem rowFnPathTwice : YtaekcebacghjoaaDoor.Rows.FnPathTwiceSaid :=
  OpenClaim.holds_of_wide 7 Tryd.f7 rfl rfl rfl rfl rfl rfl rfl ⟨rfl, rfl, rfl, rfl, rfl⟩ rfl rfl rfl rfl rfl (by kernel_rfl) Tryd.func7 (by kernel_rfl)
    (of_decide_eq_true (by kernel_rfl)) (by unfold Func.isWrapper; first | (rw [if_pos (by decide +kernel)]; kernel_rfl) | (rw [if_neg (by decide +kernel)]; exact ⟨rfl, rfl⟩))
    (fun os started H enc _ => returnsInHanded_of_change_and (C := Tryd.checked) (X := fun w _ => laidMetH Tryd.prog YtaekcebacghjoaaDoor.Rows.fnPathTwiceRow.laid w) (fun _ _ _ hh h => h.of_heap hh) ownK started (by kernel_rfl) Tryd.func7
      (ChangeSpec.witness_shaped (enc := enc) (C := Tryd.checked) (os := os) (X := fun w _ => laidMetH Tryd.prog YtaekcebacghjoaaDoor.Rows.fnPathTwiceRow.laid w) false (World.doorLaid Tryd.prog 400 os) #[.slice none 0 0, .slice none 0 0] 8 rfl (World.shaped_of_RefB (by kernel_rfl) (by kernel_rfl)) (by kernel_rfl) (by kernel_rfl) (by kernel_rfl) (doorFnPathTwice os _))
      (fun W base args ds gs before hval hW _ _ _ _ => conFnPathTwice H enc W base args ds gs before hval hW))

set_option maxRecDepth 100000 in
theorem overFnPathTwice : YtaekcebacghjoaaDoor.Rows.FnPathTwiceCardSaid :=
  Claim7.holds_tied_plain_at .later [] [.data, .data, .data] true (true, "e4acd9d7c330412b67a8cfc27183fbc0de722b081a51662150a927321939614e") false
    rowFnPathTwice (fun _ h => by cases h) (by kernel_rfl) (fun _ h => by cases h) YtaekcebacghjoaaDoor.fnPathTwice_row_tie rfl ⟨rfl, rfl⟩ (by kernel_rfl) rfl
    (fun f fn hf hfn => by
      obtain rfl : f = 7 := Option.some.inj ((show Tryd.prog.funcNamed "loop.example/codicil/laws.FnPathTwice" = some 7 by kernel_rfl).symm.trans hf) |>.symm
      obtain rfl : fn = Tryd.f7 := (Option.some.inj (Tryd.func7.symm.trans hfn)).symm
      exact ⟨by kernel_rfl, fun j t ht => by
        rw [Tryd.params7] at ht
        have hm : t ∈ ([22, 22] : List Nat) := by simpa using Array.mem_of_getElem? ht
        have hall : (([22, 22] : List Nat).all fun u => !Tryd.prog.wantsStandIn u) = true := by kernel_rfl
        exact (show Tryd.prog.wantsStandIn t = false by simpa using List.all_eq_true.1 hall t hm)⟩)
    (by kernel_rfl)
end Go.Cod

