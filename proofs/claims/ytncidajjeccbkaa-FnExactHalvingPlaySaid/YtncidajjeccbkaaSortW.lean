/- The walk of slices.SortFunc at sets, by the library's contract. -/
import Derived.Test.YtncidajjeccbkaaSetOrd
import Derived.Test.YtncidajjeccbkaaSorts
namespace Go.Proofs.Ytncidajjeccbkaa.sortw
open Go.RowKit own setcmp setord Go.Sort Go.Shelf
set_option linter.unusedVariables false
set_option linter.unusedSimpArgs false

section
variable {α : Type} [Inhabited α]
theorem world_block (enc : α → Value) (w : World) (blk off m : Nat) (dk : Array α) (os : Array Obj) {g : Nat} (hne : g ≠ blk) (hg : g < w.heap.size) : (sortWorld enc w blk off m dk os).heap[g]? = w.heap[g]? := by
  show ((w.heap.modify blk (onCells (putCells enc off dk))) ++ os)[g]? = _
  rw [Array.getElem?_append_left (by rw [Array.size_modify]; exact hg), Array.getElem?_modify, if_neg (Ne.symm hne)]
theorem world_row (enc : α → Value) (w : World) (blk off m : Nat) (dk : Array α) (os : Array Obj) {c : Array Value} {e : TypeId} {fr : Nat × Nat} (h : w.heap[blk]? = some (.cells c e fr)) : (sortWorld enc w blk off m dk os).heap[blk]? = some (.cells (putCells enc off dk c) e fr) := by
  have hlt : blk < w.heap.size := (Array.getElem?_eq_some_iff.1 h).1
  show ((w.heap.modify blk (onCells (putCells enc off dk))) ++ os)[blk]? = _
  rw [Array.getElem?_append_left (by rw [Array.size_modify]; exact hlt), Array.getElem?_modify, if_pos rfl, h]
  rfl
theorem world_size (enc : α → Value) (w : World) (blk off m : Nat) (dk : Array α) (os : Array Obj) : w.heap.size ≤ (sortWorld enc w blk off m dk os).heap.size := by
  show _ ≤ ((w.heap.modify blk (onCells (putCells enc off dk))) ++ os).size
  rw [Array.size_append, Array.size_modify]; omega
theorem world_below (enc : α → Value) (w : World) (blk off m : Nat) (dk : Array α) (os : Array Obj) {B : Nat} (hB : B ≤ blk) (hb : blk < w.heap.size) : Go.RowKit.Below B w (sortWorld enc w blk off m dk os) :=
  ⟨rfl, rfl, rfl, world_size _ _ _ _ _ _ _, fun k hk => world_block _ _ _ _ _ _ _ (by omega) (by omega)⟩
theorem put_size (enc : α → Value) (off : Nat) (d : Array α) (c : Array Value) : (putCells enc off d c).size = c.size := by unfold putCells; rw [Array.size_mapIdx]
theorem put_take (enc : α → Value) (d : Array α) (c : Array Value) (h : d.size ≤ c.size) : (putCells enc 0 d c).toList.take d.size = d.toList.map enc := by
  refine List.ext_getElem? fun j => ?_
  rw [List.getElem?_take, List.getElem?_map]
  by_cases hj : j < d.size
  · rw [if_pos hj, Array.getElem?_toList, Array.getElem?_toList]
    unfold putCells
    rw [Array.getElem?_mapIdx, Array.getElem?_eq_getElem (show j < c.size by omega), Array.getElem?_eq_getElem hj, Option.map_some, Option.map_some, if_pos (by omega), Nat.sub_zero, getElem!_pos d j hj]
  · rw [if_neg hj, Array.getElem?_toList, Array.getElem?_eq_none (by omega)]
    rfl
end
theorem sort_none (p : Option Addr) (cap : Nat) (fv : Value) (w : World) : Calls Try.prog 106 #[.slice p 0 cap, fv] w (fun e w' => e = .returned (.tuple #[]) ∧ w' = w) :=
  AnyF.slices_SortFunc_none { Try.sortL with } p cap fv w
set_option maxHeartbeats 1000000 in
theorem sort_any (lo gl cp : Nat) (cs : List Value) (rows : List (List Int)) (w : World) (ho : w.ownsRow lo 30 1 (.slice (some ⟨gl, 0, none⟩) rows.length cp) rows.length cs) (hr : RowsOf lo w.heap.size w cs rows) (hn : rows.length ≤ 256) (hrl : ∀ r ∈ rows, r.length ≤ 8) :
    Calls Try.prog 106 #[.slice (some ⟨gl, 0, none⟩) rows.length cp, .func (.func 107) #[] #[]] w (fun e w' => e = .returned (.tuple #[]) ∧ ∃ cs', w'.ownsRow lo 30 1 (.slice (some ⟨gl, 0, none⟩) rows.length cp) rows.length cs' ∧ RowsOf lo w.heap.size w' cs' (putsL rows) ∧ Go.RowKit.Below lo w w') := by
  obtain ⟨m, hm⟩ : ∃ m, rows.length = m := ⟨_, rfl⟩
  cases m with
  | zero =>
    rw [hm]
    refine (sort_none _ _ _ w).mono ?_
    rintro e w' ⟨rfl, rfl⟩
    have h0 := List.length_eq_zero_iff.1 hm
    subst h0
    exact ⟨rfl, cs, ho, hr, Below.refl _ _⟩
  | succ m =>
    have hcl : cs.length = rows.length := hr.1
    have hgl : gl < w.heap.size := (ho.lt gl rfl).2
    have hlo : lo ≤ gl := (ho.lt gl rfl).1
    obtain ⟨d, hd⟩ : ∃ d : Array (Fin (m + 1)), d = Array.ofFn (fun i => i) := ⟨_, rfl⟩
    have hds : d.size = rows.length := by rw [hd, Array.size_ofFn, hm]
    have hdl : d.toList = List.ofFn (fun i : Fin (m + 1) => i) := by rw [hd, Array.toList_ofFn]
    have hdj : ∀ j (h : j < m + 1), d[j]! = ⟨j, h⟩ := fun j h => by
      rw [getElem!_pos d j (by omega)]
      subst hd
      simp
    obtain ⟨enc, henc⟩ : ∃ enc : Fin (m + 1) → Value, enc = fun i => cs.getD i.val undef := ⟨_, rfl⟩
    obtain ⟨row, hrow⟩ : ∃ row : Fin (m + 1) → List Int, row = fun i => rows.getD i.val [] := ⟨_, rfl⟩
    have hcs : cs = d.toList.map enc := by
      rw [hdl, List.map_ofFn, henc]
      refine List.ext_getElem (by rw [List.length_ofFn]; omega) fun j h1 h2 => ?_
      rw [List.getElem_ofFn]
      simp only [Function.comp]
      rw [List.getD_eq_getElem?_getD, List.getElem?_eq_getElem h1]
      rfl
    have hrs : rows = d.toList.map row := by
      rw [hdl, List.map_ofFn, hrow]
      refine List.ext_getElem (by rw [List.length_ofFn]; omega) fun j h1 h2 => ?_
      rw [List.getElem_ofFn]
      simp only [Function.comp]
      rw [List.getD_eq_getElem?_getD, List.getElem?_eq_getElem h1]
      rfl
    have hown : ∀ i : Fin (m + 1), OwnI lo w.heap.size w (enc i) (row i) := fun i => by
      rw [henc, hrow]
      exact hr.2.1 i.val (by have := i.isLt; omega)
    have hrow8 : ∀ i : Fin (m + 1), (row i).length ≤ 8 := fun i => by
      rw [hrow]
      have : i.val < rows.length := by have := i.isLt; omega
      show (rows.getD i.val []).length ≤ 8
      rw [List.getD_eq_getElem?_getD, List.getElem?_eq_getElem this]
      exact hrl _ (List.getElem_mem this)
    have hoth : ∀ (i : Fin (m + 1)) (g : Nat), (enc i).ownBlock = some g → g ≠ gl := fun i g hg e => by
      subst e
      exact ownsRow_ne (hown i).1 ho (by decide) hg rfl
    have hH : Holds enc w gl 0 d := fun j hj => by
      have hj2 : j < m + 1 := by omega
      rw [hdj j hj2, Nat.zero_add]
      refine ⟨?_, ho.frozenAt j⟩
      rw [ho.cellAt j (by omega), henc]
      show cs[j]? = some (cs.getD j undef)
      rw [List.getD_eq_getElem?_getD, List.getElem?_eq_getElem (by omega)]
      rfl
    have h1 : OneCell enc := fun i => by
      obtain ⟨p, c, e, _⟩ := (hown i).slice
      rw [e]; rfl
    have hlt : ∀ x y, ltOf (fun x y => setC (row x) (row y)) x y = befB (row x) (row y) := fun x y => rfl
    have hO : SWO (ltOf (fun x y => setC (row x) (row y))) := ⟨fun x => bef_irr _, fun x y z a b => bef_trans a b, fun x y z a b => bef_ntrans a b⟩
    have hcmp : CmpLays1 Try.prog 107 #[] enc (fun x y => setC (row x) (row y)) gl 0 d.size w := fun k os dk hk x y => by
      have rd : ∀ i, ∃ p c, enc i = .slice p (row i).length c ∧ ints.Reads .i64 (sortWorld enc w gl 0 k dk os) p (row i) := fun i => by
        obtain ⟨p, c, e, _⟩ := (hown i).slice
        refine ⟨p, c, e, ?_⟩
        have := (hown i).block (w' := sortWorld enc w gl 0 k dk os) fun g hg => world_block _ _ _ _ _ _ _ (hoth i g hg) ((hown i).lt hg).2.2
        rw [e] at this
        exact this.reads
      obtain ⟨p, c, e, h2⟩ := rd x
      obtain ⟨p', c', e', h3⟩ := rd y
      rw [e, e']
      refine (sets_any p (row x) c p' (row y) c' _ h2 h3 (by have := hrow8 x; omega) (by have := hrow8 y; omega)).mono ?_
      rintro e w' ⟨rfl, O, rfl⟩
      exact ⟨rfl, 0, #[O], by rw [← alloc_eq_grow]; rfl⟩
    have key := Any.slices_SortFunc Try.sortL enc h1 (fun x y => setC (row x) (row y)) hO 107 #[] gl 0 cp d w (enters_of Try.func107 (by kernel_rfl) rfl) hcmp hH hgl (by omega)
    rw [hds] at key
    refine key.mono ?_
    rintro e w' ⟨rfl, d', k, os, hp, hs, rfl⟩
    obtain ⟨hsz, _, hperm⟩ := hp
    have e1 : d'.extract 0 rows.length = d' := by rw [← hds, ← hsz]; exact Array.extract_size
    have e2 : d.extract 0 rows.length = d := by rw [← hds]; exact Array.extract_size
    rw [e1, e2] at hperm
    have hasc : Asc (d'.toList.map row) := by
      unfold Asc
      rw [List.pairwise_map, List.pairwise_iff_getElem]
      intro i j hi hj hij
      have hi' : i < d'.size := by simpa using hi
      have hj' : j < d'.size := by simpa using hj
      have := hs i j (Nat.zero_le _) hij (by omega)
      rw [getElem!_pos d' j hj', getElem!_pos d' i hi', hlt] at this
      rw [Array.getElem_toList, Array.getElem_toList]
      exact this
    have hput : d'.toList.map row = putsL rows := puts_uniq ((hperm.map row).trans (List.Perm.of_eq hrs.symm)) hasc
    have hro : RowsOf lo w.heap.size (sortWorld enc w gl 0 k d' os) cs rows := hr.keep fun g _ _ hg ⟨i, hi, hb⟩ => world_block _ _ _ _ _ _ _ (by
      have := hoth ⟨i, by omega⟩ g
      rw [henc] at this
      exact this hb) hg
    refine ⟨rfl, d'.toList.map enc, ?_, ?_, world_below _ _ _ _ _ _ _ hlo hgl⟩
    · rcases ho.2 with ⟨e, _⟩ | ⟨g, cap, cur, e, hlo2, hh, hnc, hmx, hcs2, htake⟩
      · cases e
      · cases e
        refine ⟨by simp; omega, .inr ⟨gl, cp, putCells enc 0 d' cur, rfl, hlo2, world_row _ _ _ _ _ _ _ hh, hnc, hmx, by rw [put_size]; exact hcs2, ?_⟩⟩
        rw [Nat.mul_one, show rows.length = d'.size by omega]
        exact put_take enc d' cur (by omega)
    · rw [← hput]
      refine rows_perm hro (by simp) ?_
      have z : ∀ l : List (Fin (m + 1)), (l.map enc).zip (l.map row) = l.map fun i => (enc i, row i) := fun l => by
        induction l with
        | nil => rfl
        | cons x l ih => rw [List.map_cons, List.map_cons, List.zip_cons_cons, ih, List.map_cons]
      rw [hcs, hrs, ← hcs, z, z] at *
      exact (hperm.map _).symm
end Go.Proofs.Ytncidajjeccbkaa.sortw
