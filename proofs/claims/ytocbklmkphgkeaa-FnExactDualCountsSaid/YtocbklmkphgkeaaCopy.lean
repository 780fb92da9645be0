/- The builtin copy of a list onto a row of the call's own of the same length: a law for the walk, no condition. -/
import Derived.Test.YtocbklmkphgkeaaOwn1
import Derived.Laws.CopyOwn
namespace Go.Proofs.Ytocbklmkphgkeaa.copyw
open Go.RowKit own own1
set_option linter.unusedVariables false

theorem wp_copy {P : Program} {w : World} {ops : Array Oper} {rest : List Oper} {o : Oper} {a : Act} {Q : Exit → Act → World → Prop} (hgd : o.guard = none) (d s : Operand) (T E : TypeId)
    (ho : o.op = .call { callee := .builtin .copy, args := #[d, s], argTypes := #[T, T] }) (hu : P.underlying T = some (.slice E)) (hsz : (P.info? E).map (·.size) = some 1)
    (C g n cap : Nat) (xs : List Value) (hd : a.eval d = .slice (some ⟨g, 0, none⟩) n cap) (hown : w.ownsRow C E 1 (.slice (some ⟨g, 0, none⟩) n cap) n xs)
    (sp : Option Addr) (sc : Nat) (zs : List Int) (hs : a.eval s = .slice sp zs.length sc) (hn : zs.length = n) (hr : ints.Reads .i64 w sp zs) (B : Nat) (w0 : World) (hb : Below B w0 w) (hBg : B ≤ g)
    (h : ∀ w', w'.ownsRow C E 1 (.slice (some ⟨g, 0, none⟩) n cap) n (zs.map (Value.int .i64)) → Below B w0 w' → wpList P ops Q rest (a.put o.dst (goInt n)) w') :
    wpList P ops Q (o :: rest) a w := by
  rcases hown.2 with ⟨e, _⟩ | ⟨g', cap', cur, e, hl, hh, hn', hm, hs', ht⟩
  · cases e
  cases e
  have hc : cur.toList.length = cap := by simpa using hs'
  refine wpList_copy_splice hgd d s T T ho E hu hsz (some ⟨g, 0, none⟩) sp n cap zs.length sc hd hs g 0 cur.toList E (by simpa using hh) (zs.map (Value.int .i64)) (by simp [hn]) (fun h0 => ⟨rfl, ?_⟩) (by simp; simp at hs'; omega) (by simp [Value.oneCell']) B w0 hb hBg ?_
  · obtain ⟨b, off, rfl, _, hcc⟩ := reads_pos hr (by simpa using h0)
    exact ⟨_, rfl, news_at hcc⟩
  · intro w' hg' hb'
    have e : (zs.map (Value.int .i64)).length = n := by simp [hn]
    have := h w' ⟨by simp [hn], .inr ⟨g, cap, (splice cur.toList 0 (zs.map (Value.int .i64))).toArray, rfl, hl, hg'.out, hn', hm, ?_, ?_⟩⟩ hb'
    · rw [e]; exact this
    · simp [splice, hn]; simp at hs'; omega
    · simp [splice, hn]
end Go.Proofs.Ytocbklmkphgkeaa.copyw
