/-
  The document's node, behind its switch: the names behind 'after'.
-/
import Derived.Test.YtlholgpenpfpbaaDoorB10
import Derived.Test.YtlholgpenpfpbaaDoorB02
namespace Go.Proofs.YtlholgpenpfpbaaDoor
open Go.RowKit

/-- The names behind 'after'. -/
def aftR : List ByteArray → Option (List ByteArray)
  | [] => some []
  | x :: t => if t = [] then none else if x = aftB then (if t.all nameP then some t else none) else none

def RNodePost (w : World) (o : Option Nd) (e : Ending) (w' : World) : Prop := Kept (fun _ => False) w w' ∧ match o with
  | none => e = .returned (.tuple #[.agg #[.string ⟨#[]⟩, .int .i64 0, .string ⟨#[]⟩, .string ⟨#[]⟩, .int .i64 0, .int .i64 0, .slice none 0 0], .bool false])
  | some nd => ∃ a c, e = .returned (.tuple #[.agg #[.string nd.name, .int .i64 nd.kind, .string nd.arg, .string nd.to, .int .i64 nd.delay, .int .i64 nd.tries, .slice a nd.after.length c], .bool true]) ∧ w'.ownsRow w.heap.size 9 1 (.slice a nd.after.length c) nd.after.length (strsV nd.after)

def dropS : Nat → Code → Code
  | 0, c => c
  | k + 1, .seq _ c => dropS k c
  | _ + 1, c => c

/-- The code behind the switch. -/
noncomputable def nodeTail : Code := dropS 6 (Tryd.f18.body.getD .skip)

/-- What stands between the rounds. -/
structure TlSt (w W wr : World) (nb : Nat) (nm ar tO : ByteArray) (k d tr : Int) (t : List ByteArray) (i : Nat) (a6 : Option Addr) (c6 : Nat) : Prop where
  res : wr.heap[w.heap.size]? = some (.cells #[.string ⟨#[]⟩, .int .i64 0, .string ⟨#[]⟩, .string ⟨#[]⟩, .int .i64 0, .int .i64 0, .slice none 0 0] 44 (0, 0))
  box : wr.heap[nb]? = some (.cells #[.string nm, .int .i64 k, .string ar, .string tO, .int .i64 d, .int .i64 tr, .slice a6 i c6] 44 (0, 0))
  row : wr.ownsRow W.heap.size 9 1 (.slice a6 i c6) i (strsV (t.take i))
  kept : Kept (fun j => j = nb ∨ W.heap.size ≤ j) W wr

theorem TlSt.push {w W wr w4 : World} {nb : Nat} {nm ar tO : ByteArray} {k d tr : Int} {t : List ByteArray} {i c6 c4 : Nat} {a6 a4 : Option Addr} {s : ByteArray} (G : TlSt w W wr nb nm ar tO k d tr t i a6 c6) (hW : nb < W.heap.size) (hr : w.heap.size < nb) (hs : t[i]? = some s)
    (O : w4.ownsRow W.heap.size 9 1 (.slice a4 (i + 1) c4) (i + 1) (strsV (t.take i) ++ [.string s])) (K : Kept (fun j => W.heap.size ≤ j) wr w4) :
    TlSt w W (w4.setCell ⟨nb, 6, none⟩ (.slice a4 (i + 1) c4)) nb nm ar tO k d tr t (i + 1) a4 c4 := by
  have KS : Kept (fun j => j = nb) w4 (w4.setCell ⟨nb, 6, none⟩ (.slice a4 (i + 1) c4)) := Kept.setCell _ _ _ rfl
  have hb := (K.block _ (Array.getElem?_eq_some_iff.1 G.box).1 (by omega)).trans G.box
  have hr2 := (K.block _ (Array.getElem?_eq_some_iff.1 G.res).1 (by omega)).trans G.res
  refine ⟨(KS.block _ (Array.getElem?_eq_some_iff.1 hr2).1 (by omega)).trans hr2, by simp [World.setCell, Array.getElem?_modify, hb], ?_, G.kept.and ((K.mono (fun j h => .inr h)).and (KS.mono (fun j h => .inl h)))⟩
  have e : strsV (t.take (i + 1)) = strsV (t.take i) ++ [.string s] := by
    rw [List.take_add_one, hs, Option.toList_some]
    unfold strsV
    simp
  rw [e]
  exact ownsRow_keep O (fun g hg => KS.block g (ownsRow_blk O hg) (by have := (O.lt g hg).1; omega))

/-- Nothing is told: the result's own block is laid anew. -/
theorem tail_none {w V : World} (K : Kept (fun _ => False) w V) {v : Value} (hv : v = .tuple #[.agg #[.string ⟨#[]⟩, .int .i64 0, .string ⟨#[]⟩, .string ⟨#[]⟩, .int .i64 0, .int .i64 0, .slice none 0 0], .bool false]) :
    RNodePost w none (.returned v) V := by
  subst hv
  exact ⟨K, rfl⟩

/-- The end: the result lies in its own block. -/
theorem tail_ret {W V : World} {b : Nat} {u0 u1 u2 u3 u4 u5 u6 v0 v1 v2 v3 v4 v5 v6 : Value} {tmps : Array Value} {bl : Bool} {R : Ending → World → Prop} (hr : W.heap[b]? = some (.cells #[u0, u1, u2, u3, u4, u5, u6] 44 (0, 0)))
    (h2 : tmps.getD 2 undef = .pointer (some ⟨b, 0, none⟩)) (h3 : tmps.getD 3 undef = .bool bl)
    (hV : V = (((((((W.setCell ⟨b, 0, none⟩ v0).setCell ⟨b, 1, none⟩ v1).setCell ⟨b, 2, none⟩ v2).setCell ⟨b, 3, none⟩ v3).setCell ⟨b, 4, none⟩ v4).setCell ⟨b, 5, none⟩ v5).setCell ⟨b, 6, none⟩ v6))
    (hR : Kept (fun j => j = b) W V → R (.returned (.tuple #[.agg #[v0, v1, v2, v3, v4, v5, v6], .bool bl])) V) : bodyPost Tryd.prog Tryd.f18 R .ret { tmps := tmps, defers := [] } V := by
  have g := put7 hr v0 v1 v2 v3 v4 v5 v6
  have k := kept7 (S := fun j => j = b) W (b := b) rfl v0 v1 v2 v3 v4 v5 v6
  rw [← hV] at g k
  obtain ⟨⟨g0, g1, g2, g3, g4, g5, g6⟩, _⟩ := seven g
  refine bodyPost_ret ?_ rfl (hR k)
  rw [Array.getD_eq_getD_getElem?] at h2 h3
  simp [results, go_sem, g0, g1, g2, g3, g4, g5, g6, h2, h3]
  try rfl

set_option maxRecDepth 100000 in
set_option maxHeartbeats 4000000 in
theorem tail_no {w W : World} {nb cl : Nat} {al : Option Addr} {l : List ByteArray} {ok : Bool} {u : Nat → Value} (o : Option Nd)
    (hr : W.heap[w.heap.size]? = some (.cells #[.string ⟨#[]⟩, .int .i64 0, .string ⟨#[]⟩, .string ⟨#[]⟩, .int .i64 0, .int .i64 0, .slice none 0 0] 44 (0, 0))) (hT : TextsAt W (.slice al l.length cl) l) (K0 : Kept (fun _ => False) w W) (hl : l.length ≤ 1000000)
    (hc : ok = false ∨ (∃ x, l = [x]) ∨ ∃ x y t, l = x :: y :: t ∧ x ≠ aftB) (ho : o = none) :
    nodeTail.wp Tryd.prog (bodyPost Tryd.prog Tryd.f18 (RNodePost w o)) { tmps := #[u 0, u 1, .pointer (some ⟨w.heap.size, 0, none⟩), .bool false, .pointer (some ⟨nb, 0, none⟩), .slice al l.length cl, .bool ok, u 7, u 8, u 9, u 10, u 11, u 12, u 13, u 14, undef, u 16, u 17, u 18, u 19, u 20, u 21, u 22, u 23, u 24, u 25, u 26, u 27, u 28, u 29, u 30, u 31, u 32, u 33, u 34, u 35, u 36, u 37, u 38, u 39, u 40, u 41, u 42, u 43, u 44, u 45, u 46, u 47, u 48, u 49, u 50, u 51, u 52, u 53, u 54, u 55, u 56, u 57, u 58, u 59, u 60, u 61, u 62, u 63, u 64, u 65, u 66, u 67, u 68, u 69, u 70, u 71, u 72, u 73, u 74, u 75, u 76, u 77, u 78, u 79, u 80, u 81, u 82, u 83, u 84, u 85, u 86, u 87, u 88, u 89, u 90, u 91, u 92, u 93, u 94, u 95, u 96, u 97, u 98, u 99, u 100, u 101, u 102, u 103, u 104, u 105, u 106, u 107, u 108, u 109, u 110, u 111, u 112, u 113, u 114, u 115, u 116, u 117, u 118, u 119, u 120, u 121, u 122, u 123, u 124, u 125, u 126, u 127, u 128, u 129, u 130, u 131, u 132, u 133, u 134, undef, undef, undef, undef, undef, undef, undef, undef, undef, undef, undef, undef, undef, undef, undef, undef, undef, undef, undef, undef, undef, undef, undef, undef, undef, undef, undef, undef, undef, undef, undef, undef, undef, undef, undef, undef, undef, undef, undef, undef, undef, undef], defers := [] } W := by
  subst ho
  obtain ⟨⟨r0, r1, r2, r3, r4, r5, r6⟩, z0, z1, z2, z3, z4, z5, z6⟩ := seven hr
  have HR : Hid (W.heap[w.heap.size]? = some (.cells #[.string ⟨#[]⟩, .int .i64 0, .string ⟨#[]⟩, .string ⟨#[]⟩, .int .i64 0, .int .i64 0, .slice none 0 0] 44 (0, 0))) := hr
  have hW := (Array.getElem?_eq_some_iff.1 hr).1
  clear hr
  generalize hQ : bodyPost Tryd.prog Tryd.f18 (RNodePost w none) = Q
  have HQ : Hid _ := hQ
  clear hQ
  dsimp only [nodeTail, dropS, Tryd.f18, Option.getD]
  rcases hc with rfl | ⟨x, rfl⟩ | ⟨x, y, t, rfl, hx⟩
  · clear hT hl
    go_wp2_with fail
    all_goals
      rw [← HQ.out]
      exact tail_ret HR.out rfl rfl rfl (fun k => tail_none (K0.trans k (fun j h => .inr (by omega))) rfl)
  · have e1 : ((([x] : List ByteArray).length : Int) == 1) = true := rfl
    clear hT hl
    go_wp2_with fail
    all_goals
      rw [← HQ.out]
      exact tail_ret HR.out rfl rfl rfl (fun k => tail_none (K0.trans k (fun j h => .inr (by omega))) rfl)
  · obtain ⟨b, o, rfl, hc, hx0⟩ := hT.one
    have x0 := hx0 0 (by simp)
    simp only [List.getElem_cons_zero, Nat.add_zero] at x0
    have e1 : (((x :: y :: t).length : Int) == 1) = false := by simp <;> omega
    have e2 : (0 : Int) < (((x :: y :: t).length : Nat) : Int) := by simp only [List.length_cons]; omega
    have e3 : (x.toList == [97, 102, 116, 101, 114]) = false := by rw [str_lit]; exact decide_eq_false hx
    clear hT hx0 hx
    generalize (x :: y :: t).length = n at *
    go_wp2_with fail
    all_goals
      rw [← HQ.out]
      exact tail_ret HR.out rfl rfl rfl (fun k => tail_none (K0.trans k (fun j h => .inr (by omega))) rfl)

set_option maxRecDepth 100000 in
set_option maxHeartbeats 4000000 in
theorem tail_nil {w W : World} {nb cl : Nat} {al : Option Addr} {nm ar tO : ByteArray} {k d tr : Int} {l : List ByteArray} {ok : Bool} {u : Nat → Value} (o : Option Nd)
    (hr : W.heap[w.heap.size]? = some (.cells #[.string ⟨#[]⟩, .int .i64 0, .string ⟨#[]⟩, .string ⟨#[]⟩, .int .i64 0, .int .i64 0, .slice none 0 0] 44 (0, 0))) (hb : W.heap[nb]? = some (.cells #[.string nm, .int .i64 k, .string ar, .string tO, .int .i64 d, .int .i64 tr, .slice none 0 0] 44 (0, 0)))
    (K0 : Kept (fun _ => False) w W) (h1 : ok = true) (h2 : l = []) (ho : o = some ⟨nm, k, ar, tO, d, tr, []⟩) :
    nodeTail.wp Tryd.prog (bodyPost Tryd.prog Tryd.f18 (RNodePost w o)) { tmps := #[u 0, u 1, .pointer (some ⟨w.heap.size, 0, none⟩), .bool false, .pointer (some ⟨nb, 0, none⟩), .slice al l.length cl, .bool ok, u 7, u 8, u 9, u 10, u 11, u 12, u 13, u 14, undef, u 16, u 17, u 18, u 19, u 20, u 21, u 22, u 23, u 24, u 25, u 26, u 27, u 28, u 29, u 30, u 31, u 32, u 33, u 34, u 35, u 36, u 37, u 38, u 39, u 40, u 41, u 42, u 43, u 44, u 45, u 46, u 47, u 48, u 49, u 50, u 51, u 52, u 53, u 54, u 55, u 56, u 57, u 58, u 59, u 60, u 61, u 62, u 63, u 64, u 65, u 66, u 67, u 68, u 69, u 70, u 71, u 72, u 73, u 74, u 75, u 76, u 77, u 78, u 79, u 80, u 81, u 82, u 83, u 84, u 85, u 86, u 87, u 88, u 89, u 90, u 91, u 92, u 93, u 94, u 95, u 96, u 97, u 98, u 99, u 100, u 101, u 102, u 103, u 104, u 105, u 106, u 107, u 108, u 109, u 110, u 111, u 112, u 113, u 114, u 115, u 116, u 117, u 118, u 119, u 120, u 121, u 122, u 123, u 124, u 125, u 126, u 127, u 128, u 129, u 130, u 131, u 132, u 133, u 134, undef, undef, undef, undef, undef, undef, undef, undef, undef, undef, undef, undef, undef, undef, undef, undef, undef, undef, undef, undef, undef, undef, undef, undef, undef, undef, undef, undef, undef, undef, undef, undef, undef, undef, undef, undef, undef, undef, undef, undef, undef, undef], defers := [] } W := by
  subst ho h1 h2
  obtain ⟨⟨r0, r1, r2, r3, r4, r5, r6⟩, z0, z1, z2, z3, z4, z5, z6⟩ := seven hr
  obtain ⟨⟨b0, b1, b2, b3, b4, b5, b6⟩, _⟩ := seven hb
  have HR : Hid (W.heap[w.heap.size]? = some (.cells #[.string ⟨#[]⟩, .int .i64 0, .string ⟨#[]⟩, .string ⟨#[]⟩, .int .i64 0, .int .i64 0, .slice none 0 0] 44 (0, 0))) := hr
  have hW := (Array.getElem?_eq_some_iff.1 hr).1
  clear hr hb
  generalize hQ : bodyPost Tryd.prog Tryd.f18 (RNodePost w (some ⟨nm, k, ar, tO, d, tr, []⟩)) = Q
  have HQ : Hid _ := hQ
  clear hQ
  dsimp only [nodeTail, dropS, Tryd.f18, Option.getD]
  go_wp2_with fail
  go_loopw [15] (fun q wr => q = .int .i64 1 ∧ wr = W) (fun _ _ => 0)
  case atStart => exact ⟨rfl, rfl⟩
  case round =>
    obtain ⟨rfl, rfl⟩ := hrel
    go_wp2_with fail
    rw [← HQ.out]
    exact tail_ret HR.out rfl rfl rfl (fun k => ⟨K0.trans k (fun j h => .inr (by omega)), none, 0, rfl, World.ownsRow_nil _ _ _ _⟩)

set_option maxRecDepth 100000 in
set_option maxHeartbeats 8000000 in
theorem tail_names {w W : World} {nb cl : Nat} {al : Option Addr} {nm ar tO : ByteArray} {k d tr : Int} {l T : List ByteArray} {ok : Bool} {u : Nat → Value} (o : Option Nd)
    (hr : W.heap[w.heap.size]? = some (.cells #[.string ⟨#[]⟩, .int .i64 0, .string ⟨#[]⟩, .string ⟨#[]⟩, .int .i64 0, .int .i64 0, .slice none 0 0] 44 (0, 0))) (hb : W.heap[nb]? = some (.cells #[.string nm, .int .i64 k, .string ar, .string tO, .int .i64 d, .int .i64 tr, .slice none 0 0] 44 (0, 0)))
    (hn : w.heap.size < nb) (hT : TextsAt w (.slice al l.length cl) l) (K0 : Kept (fun _ => False) w W) (hs : ∀ s ∈ l, s.size ≤ 1000000) (hl : l.length ≤ 1000000)
    (h1 : ok = true) (h2 : l = aftB :: T) (h3 : T ≠ []) (ho : o = if T.all nameP then some ⟨nm, k, ar, tO, d, tr, T⟩ else none) :
    nodeTail.wp Tryd.prog (bodyPost Tryd.prog Tryd.f18 (RNodePost w o)) { tmps := #[u 0, u 1, .pointer (some ⟨w.heap.size, 0, none⟩), .bool false, .pointer (some ⟨nb, 0, none⟩), .slice al l.length cl, .bool ok, u 7, u 8, u 9, u 10, u 11, u 12, u 13, u 14, undef, u 16, u 17, u 18, u 19, u 20, u 21, u 22, u 23, u 24, u 25, u 26, u 27, u 28, u 29, u 30, u 31, u 32, u 33, u 34, u 35, u 36, u 37, u 38, u 39, u 40, u 41, u 42, u 43, u 44, u 45, u 46, u 47, u 48, u 49, u 50, u 51, u 52, u 53, u 54, u 55, u 56, u 57, u 58, u 59, u 60, u 61, u 62, u 63, u 64, u 65, u 66, u 67, u 68, u 69, u 70, u 71, u 72, u 73, u 74, u 75, u 76, u 77, u 78, u 79, u 80, u 81, u 82, u 83, u 84, u 85, u 86, u 87, u 88, u 89, u 90, u 91, u 92, u 93, u 94, u 95, u 96, u 97, u 98, u 99, u 100, u 101, u 102, u 103, u 104, u 105, u 106, u 107, u 108, u 109, u 110, u 111, u 112, u 113, u 114, u 115, u 116, u 117, u 118, u 119, u 120, u 121, u 122, u 123, u 124, u 125, u 126, u 127, u 128, u 129, u 130, u 131, u 132, u 133, u 134, undef, undef, undef, undef, undef, undef, undef, undef, undef, undef, undef, undef, undef, undef, undef, undef, undef, undef, undef, undef, undef, undef, undef, undef, undef, undef, undef, undef, undef, undef, undef, undef, undef, undef, undef, undef, undef, undef, undef, undef, undef, undef], defers := [] } W := by
  subst h1 h2
  obtain ⟨b, p, rfl, hc, hx⟩ := hT.one
  have hb' := (Array.getElem?_eq_some_iff.1 hb).1
  have hW := (Array.getElem?_eq_some_iff.1 hr).1
  have x0 := keepC K0 (hx 0 (by simp)) (fun _ _ h => h)
  simp only [List.getElem_cons_zero, Nat.add_zero] at x0
  have hT0 : 0 < T.length := List.length_pos_iff.2 h3
  have HX : Hid (∀ i (h : i < T.length), w.cell? ⟨b, p + (i + 1), none⟩ = some (.string T[i])) := fun i h => by
    have := hx (i + 1) (by simp; omega)
    simpa using this
  have HSz : Hid (∀ s ∈ T, s.size ≤ 1000000) := fun s h => hs s (List.mem_cons_of_mem _ h)
  have HL : Hid ((aftB :: T).length = T.length + 1) := rfl
  have e1 : (((aftB :: T).length : Int) == 1) = false := by simp; omega
  have e2 : (0 : Int) < (((aftB :: T).length : Nat) : Int) := by simp only [List.length_cons]; omega
  have HG0 : Hid (TlSt w W W nb nm ar tO k d tr T 0 none 0) := ⟨hr, hb, World.ownsRow_nil _ _ _ _, Kept.refl _ _⟩
  have e3 : (aftB.toList == [97, 102, 116, 101, 114]) = true := by rw [str_lit]; exact decide_eq_true rfl
  have HO : Hid (o = if T.all nameP then some ⟨nm, k, ar, tO, d, tr, T⟩ else none) := ho
  clear hr hb hT hx hs ho h3
  generalize (aftB :: T).length = n at *
  generalize hQ : bodyPost Tryd.prog Tryd.f18 (RNodePost w o) = Q
  have HQ : Hid _ := hQ
  clear hQ
  generalize aftB = af at *
  dsimp only [nodeTail, dropS, Tryd.f18, Option.getD]
  go_wp2_with fail
  go_loopw [15] (fun q wr => ∃ (i m : Nat) (a6 : Option Addr) (c6 : Nat), m = i + 1 ∧ i ≤ T.length ∧ q = .int .i64 (m : Nat) ∧ (T.take i).all nameP = true ∧ TlSt w W wr nb nm ar tO k d tr T i a6 c6) (fun q _ => n - (intOf q).toNat)
  case atStart => exact ⟨0, 1, none, 0, rfl, Nat.zero_le _, rfl, rfl, HG0.out⟩
  case round =>
    obtain ⟨i, m, a6, c6, hm, hi, rfl, hall, G⟩ := hrel
    have hLn := HL.out
    have KW : Kept (fun _ => False) w wr := K0.trans G.kept (fun j h => .inr (by have := K0.size; omega))
    have HKW : Hid (Kept (fun _ => False) w wr) := KW
    have HG : Hid (TlSt w W wr nb nm ar tO k d tr T i a6 c6) := G
    have HM : Hid (m = i + 1 ∧ n = T.length + 1) := ⟨hm, hLn⟩
    obtain ⟨⟨r0, r1, r2, r3, r4, r5, r6⟩, z0, z1, z2, z3, z4, z5, z6⟩ := seven G.res
    obtain ⟨⟨b0, b1, b2, b3, b4, b5, b6⟩, _, _, _, _, _, _, bz⟩ := seven G.box
    have gbx := (Array.getElem?_eq_some_iff.1 G.box).1
    by_cases hlt : i < T.length
    · have x1 := keepC KW (HX.out i hlt) (fun _ _ h => h)
      rw [← hm] at x1
      have f1 : (m : Int) < (n : Int) := by omega
      have hN := refName_any wr T[i] (Nat.le_trans (HSz.out _ (List.getElem_mem hlt)) (by decide))
      have HTi : Hid (T[i]? = some T[i]) := List.getElem?_eq_getElem hlt
      have HAll : Hid ((T.take (i + 1)).all nameP = nameP T[i]) := by
        show _ = _
        rw [List.take_add_one, List.getElem?_eq_getElem hlt, Option.toList_some, List.all_append, hall]
        simp
      have HNo : Hid (nameP T[i] = false → T.all nameP = false) := fun h => by
        rw [List.all_eq_false]
        exact ⟨T[i], List.getElem_mem hlt, by simp [h]⟩
      have hmn : m < n := by omega
      have hik : i ≤ 1000000 := by omega
      have hgs := G.kept.size
      have HRow : Hid (wr.ownsRow W.heap.size 9 1 (.slice a6 i c6) i (strsV (T.take i))) := G.row
      clear G KW hm hLn hall
      generalize T[i] = s at *
      cases hbn : nameP s with
      | false =>
        rw [hbn] at hN
        go_wp2_with (first
          | (go_at_call 17; refine hN.mono ?_; rintro e w5 ⟨rfl, hw⟩; subst w5; clear hN)
          | fail)
        rw [← HQ.out, HO.out, HNo.out hbn]
        exact tail_ret HG.out.res rfl rfl rfl (fun k => tail_none (HKW.out.trans k (fun j h => .inr (by omega))) rfl)
      | true =>
        rw [hbn] at hN
        go_wp2_with (first
          | (go_at_call 17; refine hN.mono ?_; rintro e w5 ⟨rfl, hw⟩; subst w5; clear hN)
          | fail)
        refine wp_onlyN (rn39 (s := s) (xs := strsV (T.take i)) (base := W.heap.size) _ b6 bz x1 (by omega) (by omega) hmn (by omega) hik HRow.out ?_)
        intro k167 k168 k169 k170 k171 k172 k173 k174 k175 a4 c4 w4 O4 K4
        have HG4 : Hid (TlSt w W (w4.setCell ⟨nb, 6, none⟩ (.slice a4 (i + 1) c4)) nb nm ar tO k d tr T (i + 1) a4 c4) := HG.out.push (by omega) hn HTi.out O4 K4
        clear O4 K4 r0 r1 r2 r3 r4 r5 r6 z0 z1 z2 z3 z4 z5 z6 b0 b1 b2 b3 b4 b5 b6 bz x1
        generalize w4.setCell ⟨nb, 6, none⟩ (.slice a4 (i + 1) c4) = V4 at *
        dsimp only
        go_wp2_with fail
        go_roundw
        case rel => exact ⟨i + 1, m + 1, a4, c4, by have := HM.out; omega, by omega, by go_num, by rw [HAll.out, hbn], HG4.out⟩
        case measure => simp [intOf]; omega
    · obtain rfl : i = T.length := by omega
      have f1 : ¬ (m : Int) < (n : Int) := by omega
      have HAl : Hid (T.all nameP = true) := by rw [List.take_length] at hall; exact hall
      have HRow : Hid (wr.ownsRow W.heap.size 9 1 (.slice a6 T.length c6) T.length (strsV T)) := by have := G.row; rw [List.take_length] at this; exact this
      clear G KW hm hLn hall
      go_wp2_with fail
      rw [← HQ.out, HO.out, HAl.out]
      refine tail_ret HG.out.res rfl rfl rfl (fun k => ⟨HKW.out.trans k (fun j h => .inr (by omega)), a6, c6, rfl, ?_⟩)
      exact ownsRow_lowS (ownsRow_keep HRow.out (fun g hg => k.block g (ownsRow_blk HRow.out hg) (by have := (HRow.out.lt g hg).1; omega))) (by omega)

/-- Behind the switch. -/
theorem tail_any {w W : World} {nb cl : Nat} {al : Option Addr} {nm ar tO : ByteArray} {k d tr : Int} {l : List ByteArray} {ok : Bool} {u : Nat → Value}
    (hr : W.heap[w.heap.size]? = some (.cells #[.string ⟨#[]⟩, .int .i64 0, .string ⟨#[]⟩, .string ⟨#[]⟩, .int .i64 0, .int .i64 0, .slice none 0 0] 44 (0, 0))) (hb : W.heap[nb]? = some (.cells #[.string nm, .int .i64 k, .string ar, .string tO, .int .i64 d, .int .i64 tr, .slice none 0 0] 44 (0, 0)))
    (hn : w.heap.size < nb) (hT : TextsAt w (.slice al l.length cl) l) (K0 : Kept (fun _ => False) w W) (hs : ∀ s ∈ l, s.size ≤ 1000000) (hl : l.length ≤ 1000000) :
    nodeTail.wp Tryd.prog (bodyPost Tryd.prog Tryd.f18 (RNodePost w (if ok then (aftR l).map (fun t => ⟨nm, k, ar, tO, d, tr, t⟩) else none))) { tmps := #[u 0, u 1, .pointer (some ⟨w.heap.size, 0, none⟩), .bool false, .pointer (some ⟨nb, 0, none⟩), .slice al l.length cl, .bool ok, u 7, u 8, u 9, u 10, u 11, u 12, u 13, u 14, undef, u 16, u 17, u 18, u 19, u 20, u 21, u 22, u 23, u 24, u 25, u 26, u 27, u 28, u 29, u 30, u 31, u 32, u 33, u 34, u 35, u 36, u 37, u 38, u 39, u 40, u 41, u 42, u 43, u 44, u 45, u 46, u 47, u 48, u 49, u 50, u 51, u 52, u 53, u 54, u 55, u 56, u 57, u 58, u 59, u 60, u 61, u 62, u 63, u 64, u 65, u 66, u 67, u 68, u 69, u 70, u 71, u 72, u 73, u 74, u 75, u 76, u 77, u 78, u 79, u 80, u 81, u 82, u 83, u 84, u 85, u 86, u 87, u 88, u 89, u 90, u 91, u 92, u 93, u 94, u 95, u 96, u 97, u 98, u 99, u 100, u 101, u 102, u 103, u 104, u 105, u 106, u 107, u 108, u 109, u 110, u 111, u 112, u 113, u 114, u 115, u 116, u 117, u 118, u 119, u 120, u 121, u 122, u 123, u 124, u 125, u 126, u 127, u 128, u 129, u 130, u 131, u 132, u 133, u 134, undef, undef, undef, undef, undef, undef, undef, undef, undef, undef, undef, undef, undef, undef, undef, undef, undef, undef, undef, undef, undef, undef, undef, undef, undef, undef, undef, undef, undef, undef, undef, undef, undef, undef, undef, undef, undef, undef, undef, undef, undef, undef], defers := [] } W := by
  have hTW := hT.kept K0 (fun _ _ h => h)
  cases ok with
  | false => exact tail_no _ hr hTW K0 hl (.inl rfl) rfl
  | true =>
    match l, hT, hTW, hs, hl with
    | [], hT, hTW, hs, hl => exact tail_nil _ hr hb K0 rfl rfl rfl
    | [x], hT, hTW, hs, hl => exact tail_no _ hr hTW K0 hl (.inr (.inl ⟨x, rfl⟩)) rfl
    | x :: y :: t, hT, hTW, hs, hl =>
      by_cases hx : x = aftB
      · subst hx
        exact tail_names _ hr hb hn hT K0 hs hl rfl rfl (by simp) (by simp only [aftR, if_true, List.cons_ne_nil, if_false]; split <;> rfl)
      · exact tail_no _ hr hTW K0 hl (.inr (.inr ⟨x, y, t, rfl, hx⟩)) (by simp [aftR, hx])

end Go.Proofs.YtlholgpenpfpbaaDoor

/-
  The document's node, kind by kind.
-/
namespace Go.Proofs.YtlholgpenpfpbaaDoor
open Go.RowKit

theorem tail_at {w W : World} {nb cl : Nat} {al : Option Addr} {nm ar tO : ByteArray} {k d tr : Int} {l : List ByteArray} {ok : Bool} {a : Act}
    (ha : a = { tmps := #[(a.tmps.getD 0 undef), (a.tmps.getD 1 undef), .pointer (some ⟨w.heap.size, 0, none⟩), .bool false, .pointer (some ⟨nb, 0, none⟩), .slice al l.length cl, .bool ok, (a.tmps.getD 7 undef), (a.tmps.getD 8 undef), (a.tmps.getD 9 undef), (a.tmps.getD 10 undef), (a.tmps.getD 11 undef), (a.tmps.getD 12 undef), (a.tmps.getD 13 undef), (a.tmps.getD 14 undef), undef, (a.tmps.getD 16 undef), (a.tmps.getD 17 undef), (a.tmps.getD 18 undef), (a.tmps.getD 19 undef), (a.tmps.getD 20 undef), (a.tmps.getD 21 undef), (a.tmps.getD 22 undef), (a.tmps.getD 23 undef), (a.tmps.getD 24 undef), (a.tmps.getD 25 undef), (a.tmps.getD 26 undef), (a.tmps.getD 27 undef), (a.tmps.getD 28 undef), (a.tmps.getD 29 undef), (a.tmps.getD 30 undef), (a.tmps.getD 31 undef), (a.tmps.getD 32 undef), (a.tmps.getD 33 undef), (a.tmps.getD 34 undef), (a.tmps.getD 35 undef), (a.tmps.getD 36 undef), (a.tmps.getD 37 undef), (a.tmps.getD 38 undef), (a.tmps.getD 39 undef), (a.tmps.getD 40 undef), (a.tmps.getD 41 undef), (a.tmps.getD 42 undef), (a.tmps.getD 43 undef), (a.tmps.getD 44 undef), (a.tmps.getD 45 undef), (a.tmps.getD 46 undef), (a.tmps.getD 47 undef), (a.tmps.getD 48 undef), (a.tmps.getD 49 undef), (a.tmps.getD 50 undef), (a.tmps.getD 51 undef), (a.tmps.getD 52 undef), (a.tmps.getD 53 undef), (a.tmps.getD 54 undef), (a.tmps.getD 55 undef), (a.tmps.getD 56 undef), (a.tmps.getD 57 undef), (a.tmps.getD 58 undef), (a.tmps.getD 59 undef), (a.tmps.getD 60 undef), (a.tmps.getD 61 undef), (a.tmps.getD 62 undef), (a.tmps.getD 63 undef), (a.tmps.getD 64 undef), (a.tmps.getD 65 undef), (a.tmps.getD 66 undef), (a.tmps.getD 67 undef), (a.tmps.getD 68 undef), (a.tmps.getD 69 undef), (a.tmps.getD 70 undef), (a.tmps.getD 71 undef), (a.tmps.getD 72 undef), (a.tmps.getD 73 undef), (a.tmps.getD 74 undef), (a.tmps.getD 75 undef), (a.tmps.getD 76 undef), (a.tmps.getD 77 undef), (a.tmps.getD 78 undef), (a.tmps.getD 79 undef), (a.tmps.getD 80 undef), (a.tmps.getD 81 undef), (a.tmps.getD 82 undef), (a.tmps.getD 83 undef), (a.tmps.getD 84 undef), (a.tmps.getD 85 undef), (a.tmps.getD 86 undef), (a.tmps.getD 87 undef), (a.tmps.getD 88 undef), (a.tmps.getD 89 undef), (a.tmps.getD 90 undef), (a.tmps.getD 91 undef), (a.tmps.getD 92 undef), (a.tmps.getD 93 undef), (a.tmps.getD 94 undef), (a.tmps.getD 95 undef), (a.tmps.getD 96 undef), (a.tmps.getD 97 undef), (a.tmps.getD 98 undef), (a.tmps.getD 99 undef), (a.tmps.getD 100 undef), (a.tmps.getD 101 undef), (a.tmps.getD 102 undef), (a.tmps.getD 103 undef), (a.tmps.getD 104 undef), (a.tmps.getD 105 undef), (a.tmps.getD 106 undef), (a.tmps.getD 107 undef), (a.tmps.getD 108 undef), (a.tmps.getD 109 undef), (a.tmps.getD 110 undef), (a.tmps.getD 111 undef), (a.tmps.getD 112 undef), (a.tmps.getD 113 undef), (a.tmps.getD 114 undef), (a.tmps.getD 115 undef), (a.tmps.getD 116 undef), (a.tmps.getD 117 undef), (a.tmps.getD 118 undef), (a.tmps.getD 119 undef), (a.tmps.getD 120 undef), (a.tmps.getD 121 undef), (a.tmps.getD 122 undef), (a.tmps.getD 123 undef), (a.tmps.getD 124 undef), (a.tmps.getD 125 undef), (a.tmps.getD 126 undef), (a.tmps.getD 127 undef), (a.tmps.getD 128 undef), (a.tmps.getD 129 undef), (a.tmps.getD 130 undef), (a.tmps.getD 131 undef), (a.tmps.getD 132 undef), (a.tmps.getD 133 undef), (a.tmps.getD 134 undef), undef, undef, undef, undef, undef, undef, undef, undef, undef, undef, undef, undef, undef, undef, undef, undef, undef, undef, undef, undef, undef, undef, undef, undef, undef, undef, undef, undef, undef, undef, undef, undef, undef, undef, undef, undef, undef, undef, undef, undef, undef, undef], defers := [] })
    (hr : W.heap[w.heap.size]? = some (.cells #[.string ⟨#[]⟩, .int .i64 0, .string ⟨#[]⟩, .string ⟨#[]⟩, .int .i64 0, .int .i64 0, .slice none 0 0] 44 (0, 0))) (hb : W.heap[nb]? = some (.cells #[.string nm, .int .i64 k, .string ar, .string tO, .int .i64 d, .int .i64 tr, .slice none 0 0] 44 (0, 0)))
    (hn : w.heap.size < nb) (hT : TextsAt w (.slice al l.length cl) l) (K0 : Kept (fun _ => False) w W) (hs : ∀ s ∈ l, s.size ≤ 1000000) (hl : l.length ≤ 1000000) :
    nodeTail.wp Tryd.prog (bodyPost Tryd.prog Tryd.f18 (RNodePost w (if ok then (aftR l).map (fun t => ⟨nm, k, ar, tO, d, tr, t⟩) else none))) a W := by
  rw [ha]
  exact tail_any (u := fun i => a.tmps.getD i undef) hr hb hn hT K0 hs hl

noncomputable def nodeMid : Code := dropS 4 (Tryd.f18.body.getD .skip)

set_option maxRecDepth 100000 in
set_option maxHeartbeats 8000000 in
theorem mid_chi {w W : World} {b o n c c5 : Nat} {a5 : Option Addr} {x0 x1 x2 : ByteArray} {r : List ByteArray} {u : Nat → Value}
    (hr : W.heap[w.heap.size]? = some (.cells #[.string ⟨#[]⟩, .int .i64 0, .string ⟨#[]⟩, .string ⟨#[]⟩, .int .i64 0, .int .i64 0, .slice none 0 0] 44 (0, 0))) (hb : W.heap[w.heap.size + 1]? = some (.cells #[.string x0, .int .i64 0, .string ⟨#[]⟩, .string ⟨#[]⟩, .int .i64 0, .int .i64 0, .slice none 0 0] 44 (0, 0)))
    (hT : TextsAt w (.slice a5 r.length c5) r) (K0 : Kept (fun _ => False) w W) (hs : ∀ s ∈ r, s.size ≤ 1000000) (hl : r.length ≤ 1000000) (c1 : w.cell? ⟨b, o + 1, none⟩ = some (.string x1)) (c2 : w.cell? ⟨b, o + 2, none⟩ = some (.string x2)) (h2 : 2 < n) (hx2 : x2.size ≤ 1000000)
    (hk : x1 = chiB) :
    nodeMid.wp Tryd.prog (bodyPost Tryd.prog Tryd.f18 (RNodePost w (if nameP x2 then (aftR r).map (fun t => ⟨x0, 3, x2, ⟨#[]⟩, 0, 0, t⟩) else none))) { tmps := #[.slice (some ⟨b, o, none⟩) n c, u 1, .pointer (some ⟨w.heap.size, 0, none⟩), .bool false, .pointer (some ⟨w.heap.size + 1, 0, none⟩), .slice a5 r.length c5, undef, undef, undef, undef, undef, undef, undef, undef, undef, undef, u 16, u 17, u 18, u 19, u 20, u 21, u 22, u 23, u 24, u 25, u 26, u 27, u 28, u 29, u 30, u 31, u 32, undef, undef, undef, undef, undef, undef, undef, undef, undef, undef, undef, undef, undef, undef, undef, undef, undef, undef, undef, undef, undef, undef, undef, undef, undef, undef, undef, undef, undef, undef, undef, undef, undef, undef, undef, undef, undef, undef, undef, undef, undef, undef, undef, undef, undef, undef, undef, undef, undef, undef, undef, undef, undef, undef, undef, undef, undef, undef, undef, undef, undef, undef, undef, undef, undef, undef, undef, undef, undef, undef, undef, undef, undef, undef, undef, undef, undef, undef, undef, undef, undef, undef, undef, undef, undef, undef, undef, undef, undef, undef, undef, undef, undef, undef, undef, undef, undef, undef, undef, undef, undef, undef, undef, undef, undef, undef, undef, undef, undef, undef, undef, undef, undef, undef, undef, undef, undef, undef, undef, undef, undef, undef, undef, undef, undef, undef, undef, undef, undef, undef, undef, undef, undef, undef, undef, undef, undef, undef, undef, undef, undef, undef, undef, undef], defers := [] } W := by
  have _u : True := (fun _ _ _ => trivial : r.length ≤ 1000000 → x2.size ≤ 1000000 → 2 < n → True) hl hx2 h2
  clear _u
  have y1 := keepC K0 c1 (fun _ _ h => h)
  have y2 := keepC K0 c2 (fun _ _ h => h)
  have hbw : b < w.heap.size := World.block_lt_of_cell? w _ c1
  have n1 : (1 : Int) < (n : Int) := by omega
  have n2 : (2 : Int) < (n : Int) := by omega
  have sact : (x1.toList == [97, 99, 116, 105, 118, 105, 116, 121]) = false := by rw [str_lit]; subst hk; decide
  have stim : (x1.toList == [116, 105, 109, 101, 114]) = false := by rw [str_lit]; subst hk; decide
  have schi : (x1.toList == [99, 104, 105, 108, 100]) = true := by rw [str_lit]; exact decide_eq_true hk
  have swai : (x1.toList == [119, 97, 105, 116]) = false := by rw [str_lit]; subst hk; decide
  have ssen : (x1.toList == [115, 101, 110, 100]) = false := by rw [str_lit]; subst hk; decide
  have HR : Hid (W.heap[w.heap.size]? = some (.cells #[.string ⟨#[]⟩, .int .i64 0, .string ⟨#[]⟩, .string ⟨#[]⟩, .int .i64 0, .int .i64 0, .slice none 0 0] 44 (0, 0))) := hr
  have HB : Hid (W.heap[w.heap.size + 1]? = some (.cells #[.string x0, .int .i64 0, .string ⟨#[]⟩, .string ⟨#[]⟩, .int .i64 0, .int .i64 0, .slice none 0 0] 44 (0, 0))) := hb
  have HT : Hid (TextsAt w (.slice a5 r.length c5) r) := hT
  have HS : Hid (∀ s ∈ r, s.size ≤ 1000000) := hs
  have HC2 : Hid (w.cell? ⟨b, o + 2, none⟩ = some (.string x2)) := c2
  have HK0 : Hid (Kept (fun _ => False) w W) := K0
  have hne : ¬ b = w.heap.size + 1 := by omega
  have hne2 : ¬ w.heap.size + 1 = b := by omega
  have hWs := (Array.getElem?_eq_some_iff.1 hb).1
  have hN := fun V => refName_any V x2 (Nat.le_trans hx2 (by decide))
  clear hx2 hk
  generalize hQ : bodyPost Tryd.prog Tryd.f18 (RNodePost w (if nameP x2 then (aftR r).map (fun t => ⟨x0, 3, x2, ⟨#[]⟩, 0, 0, t⟩) else none)) = Q
  have HQ : Hid _ := hQ
  clear hQ hr hb hT K0 hs c1 c2
  dsimp only [nodeMid, dropS, Tryd.f18, Option.getD]
  refine wp_seq_k (fun K1 h1 => ?_)
  have H1 : Hid _ := h1
  clear h1
  go_wp2_with fail
  refine H1.out _ _ ?_
  clear H1 K1
  refine wp_seq_k (fun K2 h2 => ?_)
  have H2 : Hid (∀ a w, nodeTail.wp Tryd.prog Q a w → K2 a w) := h2
  clear h2
  go_wp2_with fail
  refine wp_onlyN (rn21 (s2 := x2) _ HB.out y2 hne h2 ?_)
  intro k88 k89 k90 k91 k92 W3 HB3 K3
  have HBX : Hid _ := HB3
  have HK3 : Hid (Kept (fun j => j = w.heap.size + 1) W W3) := K3
  have y3 := keepC (HK0.out.trans K3 (fun j h => .inr (by omega))) HC2.out (fun _ _ h => h)
  clear HB3 K3 y1 y2
  dsimp only
  go_wp2_with (first
    | (go_at_call 17; refine (hN _).mono ?_; rintro e w5 ⟨rfl, hw⟩; subst w5; clear hN)
    | fail)
  refine H2.out _ _ ?_
  rw [← HQ.out]
  exact tail_at rfl ((HK3.out.block _ (by omega) (by omega)).trans HR.out) HBX.out (by omega) HT.out (HK0.out.trans HK3.out (fun j h => .inr (by omega))) HS.out hl
set_option maxRecDepth 100000 in
set_option maxHeartbeats 8000000 in
theorem mid_wai {w W : World} {b o n c c5 : Nat} {a5 : Option Addr} {x0 x1 x2 : ByteArray} {r : List ByteArray} {u : Nat → Value}
    (hr : W.heap[w.heap.size]? = some (.cells #[.string ⟨#[]⟩, .int .i64 0, .string ⟨#[]⟩, .string ⟨#[]⟩, .int .i64 0, .int .i64 0, .slice none 0 0] 44 (0, 0))) (hb : W.heap[w.heap.size + 1]? = some (.cells #[.string x0, .int .i64 0, .string ⟨#[]⟩, .string ⟨#[]⟩, .int .i64 0, .int .i64 0, .slice none 0 0] 44 (0, 0)))
    (hT : TextsAt w (.slice a5 r.length c5) r) (K0 : Kept (fun _ => False) w W) (hs : ∀ s ∈ r, s.size ≤ 1000000) (hl : r.length ≤ 1000000) (c1 : w.cell? ⟨b, o + 1, none⟩ = some (.string x1)) (c2 : w.cell? ⟨b, o + 2, none⟩ = some (.string x2)) (h2 : 2 < n) (hx2 : x2.size ≤ 1000000)
    (hk : x1 = waiB) :
    nodeMid.wp Tryd.prog (bodyPost Tryd.prog Tryd.f18 (RNodePost w (if nameP x2 then (aftR r).map (fun t => ⟨x0, 4, x2, ⟨#[]⟩, 0, 0, t⟩) else none))) { tmps := #[.slice (some ⟨b, o, none⟩) n c, u 1, .pointer (some ⟨w.heap.size, 0, none⟩), .bool false, .pointer (some ⟨w.heap.size + 1, 0, none⟩), .slice a5 r.length c5, undef, undef, undef, undef, undef, undef, undef, undef, undef, undef, u 16, u 17, u 18, u 19, u 20, u 21, u 22, u 23, u 24, u 25, u 26, u 27, u 28, u 29, u 30, u 31, u 32, undef, undef, undef, undef, undef, undef, undef, undef, undef, undef, undef, undef, undef, undef, undef, undef, undef, undef, undef, undef, undef, undef, undef, undef, undef, undef, undef, undef, undef, undef, undef, undef, undef, undef, undef, undef, undef, undef, undef, undef, undef, undef, undef, undef, undef, undef, undef, undef, undef, undef, undef, undef, undef, undef, undef, undef, undef, undef, undef, undef, undef, undef, undef, undef, undef, undef, undef, undef, undef, undef, undef, undef, undef, undef, undef, undef, undef, undef, undef, undef, undef, undef, undef, undef, undef, undef, undef, undef, undef, undef, undef, undef, undef, undef, undef, undef, undef, undef, undef, undef, undef, undef, undef, undef, undef, undef, undef, undef, undef, undef, undef, undef, undef, undef, undef, undef, undef, undef, undef, undef, undef, undef, undef, undef, undef, undef, undef, undef, undef, undef, undef, undef, undef, undef, undef, undef, undef, undef, undef, undef, undef, undef, undef, undef], defers := [] } W := by
  have _u : True := (fun _ _ _ => trivial : r.length ≤ 1000000 → x2.size ≤ 1000000 → 2 < n → True) hl hx2 h2
  clear _u
  have y1 := keepC K0 c1 (fun _ _ h => h)
  have y2 := keepC K0 c2 (fun _ _ h => h)
  have hbw : b < w.heap.size := World.block_lt_of_cell? w _ c1
  have n1 : (1 : Int) < (n : Int) := by omega
  have n2 : (2 : Int) < (n : Int) := by omega
  have sact : (x1.toList == [97, 99, 116, 105, 118, 105, 116, 121]) = false := by rw [str_lit]; subst hk; decide
  have stim : (x1.toList == [116, 105, 109, 101, 114]) = false := by rw [str_lit]; subst hk; decide
  have schi : (x1.toList == [99, 104, 105, 108, 100]) = false := by rw [str_lit]; subst hk; decide
  have swai : (x1.toList == [119, 97, 105, 116]) = true := by rw [str_lit]; exact decide_eq_true hk
  have ssen : (x1.toList == [115, 101, 110, 100]) = false := by rw [str_lit]; subst hk; decide
  have HR : Hid (W.heap[w.heap.size]? = some (.cells #[.string ⟨#[]⟩, .int .i64 0, .string ⟨#[]⟩, .string ⟨#[]⟩, .int .i64 0, .int .i64 0, .slice none 0 0] 44 (0, 0))) := hr
  have HB : Hid (W.heap[w.heap.size + 1]? = some (.cells #[.string x0, .int .i64 0, .string ⟨#[]⟩, .string ⟨#[]⟩, .int .i64 0, .int .i64 0, .slice none 0 0] 44 (0, 0))) := hb
  have HT : Hid (TextsAt w (.slice a5 r.length c5) r) := hT
  have HS : Hid (∀ s ∈ r, s.size ≤ 1000000) := hs
  have HC2 : Hid (w.cell? ⟨b, o + 2, none⟩ = some (.string x2)) := c2
  have HK0 : Hid (Kept (fun _ => False) w W) := K0
  have hne : ¬ b = w.heap.size + 1 := by omega
  have hne2 : ¬ w.heap.size + 1 = b := by omega
  have hWs := (Array.getElem?_eq_some_iff.1 hb).1
  have hN := fun V => refName_any V x2 (Nat.le_trans hx2 (by decide))
  clear hx2 hk
  generalize hQ : bodyPost Tryd.prog Tryd.f18 (RNodePost w (if nameP x2 then (aftR r).map (fun t => ⟨x0, 4, x2, ⟨#[]⟩, 0, 0, t⟩) else none)) = Q
  have HQ : Hid _ := hQ
  clear hQ hr hb hT K0 hs c1 c2
  dsimp only [nodeMid, dropS, Tryd.f18, Option.getD]
  refine wp_seq_k (fun K1 h1 => ?_)
  have H1 : Hid _ := h1
  clear h1
  go_wp2_with fail
  refine H1.out _ _ ?_
  clear H1 K1
  refine wp_seq_k (fun K2 h2 => ?_)
  have H2 : Hid (∀ a w, nodeTail.wp Tryd.prog Q a w → K2 a w) := h2
  clear h2
  go_wp2_with fail
  refine wp_onlyN (rn24 (s2 := x2) _ HB.out y2 hne h2 ?_)
  intro k99 k100 k101 k102 k103 W3 HB3 K3
  have HBX : Hid _ := HB3
  have HK3 : Hid (Kept (fun j => j = w.heap.size + 1) W W3) := K3
  have y3 := keepC (HK0.out.trans K3 (fun j h => .inr (by omega))) HC2.out (fun _ _ h => h)
  clear HB3 K3 y1 y2
  dsimp only
  go_wp2_with (first
    | (go_at_call 17; refine (hN _).mono ?_; rintro e w5 ⟨rfl, hw⟩; subst w5; clear hN)
    | fail)
  refine H2.out _ _ ?_
  rw [← HQ.out]
  exact tail_at rfl ((HK3.out.block _ (by omega) (by omega)).trans HR.out) HBX.out (by omega) HT.out (HK0.out.trans HK3.out (fun j h => .inr (by omega))) HS.out hl
set_option maxRecDepth 100000 in
set_option maxHeartbeats 8000000 in
theorem mid_tim {w W : World} {b o n c c5 : Nat} {a5 : Option Addr} {x0 x1 x2 : ByteArray} {r : List ByteArray} {u : Nat → Value}
    (hr : W.heap[w.heap.size]? = some (.cells #[.string ⟨#[]⟩, .int .i64 0, .string ⟨#[]⟩, .string ⟨#[]⟩, .int .i64 0, .int .i64 0, .slice none 0 0] 44 (0, 0))) (hb : W.heap[w.heap.size + 1]? = some (.cells #[.string x0, .int .i64 0, .string ⟨#[]⟩, .string ⟨#[]⟩, .int .i64 0, .int .i64 0, .slice none 0 0] 44 (0, 0)))
    (hT : TextsAt w (.slice a5 r.length c5) r) (K0 : Kept (fun _ => False) w W) (hs : ∀ s ∈ r, s.size ≤ 1000000) (hl : r.length ≤ 1000000) (c1 : w.cell? ⟨b, o + 1, none⟩ = some (.string x1)) (c2 : w.cell? ⟨b, o + 2, none⟩ = some (.string x2)) (h2 : 2 < n) (hx2 : x2.size ≤ 1000000)
    {v : Int} {ok : Bool} (hk : x1 = timB) (hq : numR x2 = (v, ok)) :
    nodeMid.wp Tryd.prog (bodyPost Tryd.prog Tryd.f18 (RNodePost w (if ok then (aftR r).map (fun t => ⟨x0, 2, ⟨#[]⟩, ⟨#[]⟩, v, 0, t⟩) else none))) { tmps := #[.slice (some ⟨b, o, none⟩) n c, u 1, .pointer (some ⟨w.heap.size, 0, none⟩), .bool false, .pointer (some ⟨w.heap.size + 1, 0, none⟩), .slice a5 r.length c5, undef, undef, undef, undef, undef, undef, undef, undef, undef, undef, u 16, u 17, u 18, u 19, u 20, u 21, u 22, u 23, u 24, u 25, u 26, u 27, u 28, u 29, u 30, u 31, u 32, undef, undef, undef, undef, undef, undef, undef, undef, undef, undef, undef, undef, undef, undef, undef, undef, undef, undef, undef, undef, undef, undef, undef, undef, undef, undef, undef, undef, undef, undef, undef, undef, undef, undef, undef, undef, undef, undef, undef, undef, undef, undef, undef, undef, undef, undef, undef, undef, undef, undef, undef, undef, undef, undef, undef, undef, undef, undef, undef, undef, undef, undef, undef, undef, undef, undef, undef, undef, undef, undef, undef, undef, undef, undef, undef, undef, undef, undef, undef, undef, undef, undef, undef, undef, undef, undef, undef, undef, undef, undef, undef, undef, undef, undef, undef, undef, undef, undef, undef, undef, undef, undef, undef, undef, undef, undef, undef, undef, undef, undef, undef, undef, undef, undef, undef, undef, undef, undef, undef, undef, undef, undef, undef, undef, undef, undef, undef, undef, undef, undef, undef, undef, undef, undef, undef, undef, undef, undef, undef, undef, undef, undef, undef, undef], defers := [] } W := by
  have _u : True := (fun _ _ _ => trivial : r.length ≤ 1000000 → x2.size ≤ 1000000 → 2 < n → True) hl hx2 h2
  clear _u
  have y1 := keepC K0 c1 (fun _ _ h => h)
  have y2 := keepC K0 c2 (fun _ _ h => h)
  have hbw : b < w.heap.size := World.block_lt_of_cell? w _ c1
  have n1 : (1 : Int) < (n : Int) := by omega
  have n2 : (2 : Int) < (n : Int) := by omega
  have sact : (x1.toList == [97, 99, 116, 105, 118, 105, 116, 121]) = false := by rw [str_lit]; subst hk; decide
  have stim : (x1.toList == [116, 105, 109, 101, 114]) = true := by rw [str_lit]; exact decide_eq_true hk
  have schi : (x1.toList == [99, 104, 105, 108, 100]) = false := by rw [str_lit]; subst hk; decide
  have swai : (x1.toList == [119, 97, 105, 116]) = false := by rw [str_lit]; subst hk; decide
  have ssen : (x1.toList == [115, 101, 110, 100]) = false := by rw [str_lit]; subst hk; decide
  have HR : Hid (W.heap[w.heap.size]? = some (.cells #[.string ⟨#[]⟩, .int .i64 0, .string ⟨#[]⟩, .string ⟨#[]⟩, .int .i64 0, .int .i64 0, .slice none 0 0] 44 (0, 0))) := hr
  have HB : Hid (W.heap[w.heap.size + 1]? = some (.cells #[.string x0, .int .i64 0, .string ⟨#[]⟩, .string ⟨#[]⟩, .int .i64 0, .int .i64 0, .slice none 0 0] 44 (0, 0))) := hb
  have HT : Hid (TextsAt w (.slice a5 r.length c5) r) := hT
  have HS : Hid (∀ s ∈ r, s.size ≤ 1000000) := hs
  have HC2 : Hid (w.cell? ⟨b, o + 2, none⟩ = some (.string x2)) := c2
  have HK0 : Hid (Kept (fun _ => False) w W) := K0
  have hne : ¬ b = w.heap.size + 1 := by omega
  have hne2 : ¬ w.heap.size + 1 = b := by omega
  have hWs := (Array.getElem?_eq_some_iff.1 hb).1
  have hN := fun V => refNum_any V x2 hx2
  obtain ⟨⟨_, b1, _, _, b4, _, _⟩, _, z1, _, _, z4, _, _⟩ := seven hb
  rw [hq] at hN
  clear hx2 hk hq
  generalize hQ : bodyPost Tryd.prog Tryd.f18 (RNodePost w (if ok then (aftR r).map (fun t => ⟨x0, 2, ⟨#[]⟩, ⟨#[]⟩, v, 0, t⟩) else none)) = Q
  have HQ : Hid _ := hQ
  clear hQ hr hb hT K0 hs c1 c2
  dsimp only [nodeMid, dropS, Tryd.f18, Option.getD]
  refine wp_seq_k (fun K1 h1 => ?_)
  have H1 : Hid _ := h1
  clear h1
  go_wp2_with fail
  refine H1.out _ _ ?_
  clear H1 K1
  refine wp_seq_k (fun K2 h2 => ?_)
  have H2 : Hid (∀ a w, nodeTail.wp Tryd.prog Q a w → K2 a w) := h2
  clear h2
  go_wp2_with (first
    | (go_at_call 38; refine (hN _).mono ?_; rintro e w5 ⟨rfl, hw⟩; subst w5; clear hN)
    | fail)
  refine H2.out _ _ ?_
  rw [← HQ.out]
  have KS : Kept (fun j => j = w.heap.size + 1) W ((W.setCell ⟨w.heap.size + 1, 1, none⟩ (.int .i64 2)).setCell ⟨w.heap.size + 1, 4, none⟩ (.int .i64 v)) := (Kept.setCell (S := fun j => j = w.heap.size + 1) _ _ _ rfl).and (Kept.setCell _ _ _ rfl)
  exact tail_at rfl ((KS.block _ (by omega) (by omega)).trans HR.out) (by simp [World.setCell, Array.getElem?_modify, HB.out]) (by omega) HT.out (HK0.out.trans KS (fun j h => .inr (by omega))) HS.out hl
set_option maxRecDepth 100000 in
set_option maxHeartbeats 8000000 in
theorem mid_def {w W : World} {b o n c c5 : Nat} {a5 : Option Addr} {x0 x1 x2 : ByteArray} {r : List ByteArray} {u : Nat → Value}
    (hr : W.heap[w.heap.size]? = some (.cells #[.string ⟨#[]⟩, .int .i64 0, .string ⟨#[]⟩, .string ⟨#[]⟩, .int .i64 0, .int .i64 0, .slice none 0 0] 44 (0, 0))) (hb : W.heap[w.heap.size + 1]? = some (.cells #[.string x0, .int .i64 0, .string ⟨#[]⟩, .string ⟨#[]⟩, .int .i64 0, .int .i64 0, .slice none 0 0] 44 (0, 0)))
    (hT : TextsAt w (.slice a5 r.length c5) r) (K0 : Kept (fun _ => False) w W) (hs : ∀ s ∈ r, s.size ≤ 1000000) (hl : r.length ≤ 1000000) (c1 : w.cell? ⟨b, o + 1, none⟩ = some (.string x1)) (c2 : w.cell? ⟨b, o + 2, none⟩ = some (.string x2)) (h2 : 2 < n) (hx2 : x2.size ≤ 1000000)
    (kact : x1 ≠ actB) (ktim : x1 ≠ timB) (kchi : x1 ≠ chiB) (kwai : x1 ≠ waiB) (ksen : x1 ≠ senB) :
    nodeMid.wp Tryd.prog (bodyPost Tryd.prog Tryd.f18 (RNodePost w (none))) { tmps := #[.slice (some ⟨b, o, none⟩) n c, u 1, .pointer (some ⟨w.heap.size, 0, none⟩), .bool false, .pointer (some ⟨w.heap.size + 1, 0, none⟩), .slice a5 r.length c5, undef, undef, undef, undef, undef, undef, undef, undef, undef, undef, u 16, u 17, u 18, u 19, u 20, u 21, u 22, u 23, u 24, u 25, u 26, u 27, u 28, u 29, u 30, u 31, u 32, undef, undef, undef, undef, undef, undef, undef, undef, undef, undef, undef, undef, undef, undef, undef, undef, undef, undef, undef, undef, undef, undef, undef, undef, undef, undef, undef, undef, undef, undef, undef, undef, undef, undef, undef, undef, undef, undef, undef, undef, undef, undef, undef, undef, undef, undef, undef, undef, undef, undef, undef, undef, undef, undef, undef, undef, undef, undef, undef, undef, undef, undef, undef, undef, undef, undef, undef, undef, undef, undef, undef, undef, undef, undef, undef, undef, undef, undef, undef, undef, undef, undef, undef, undef, undef, undef, undef, undef, undef, undef, undef, undef, undef, undef, undef, undef, undef, undef, undef, undef, undef, undef, undef, undef, undef, undef, undef, undef, undef, undef, undef, undef, undef, undef, undef, undef, undef, undef, undef, undef, undef, undef, undef, undef, undef, undef, undef, undef, undef, undef, undef, undef, undef, undef, undef, undef, undef, undef, undef, undef, undef, undef, undef, undef], defers := [] } W := by
  have _u : True := (fun _ _ _ => trivial : r.length ≤ 1000000 → x2.size ≤ 1000000 → 2 < n → True) hl hx2 h2
  clear _u
  have y1 := keepC K0 c1 (fun _ _ h => h)
  have y2 := keepC K0 c2 (fun _ _ h => h)
  have hbw : b < w.heap.size := World.block_lt_of_cell? w _ c1
  have n1 : (1 : Int) < (n : Int) := by omega
  have n2 : (2 : Int) < (n : Int) := by omega
  have sact : (x1.toList == [97, 99, 116, 105, 118, 105, 116, 121]) = false := by rw [str_lit]; exact decide_eq_false kact
  have stim : (x1.toList == [116, 105, 109, 101, 114]) = false := by rw [str_lit]; exact decide_eq_false ktim
  have schi : (x1.toList == [99, 104, 105, 108, 100]) = false := by rw [str_lit]; exact decide_eq_false kchi
  have swai : (x1.toList == [119, 97, 105, 116]) = false := by rw [str_lit]; exact decide_eq_false kwai
  have ssen : (x1.toList == [115, 101, 110, 100]) = false := by rw [str_lit]; exact decide_eq_false ksen
  have HR : Hid (W.heap[w.heap.size]? = some (.cells #[.string ⟨#[]⟩, .int .i64 0, .string ⟨#[]⟩, .string ⟨#[]⟩, .int .i64 0, .int .i64 0, .slice none 0 0] 44 (0, 0))) := hr
  have HB : Hid (W.heap[w.heap.size + 1]? = some (.cells #[.string x0, .int .i64 0, .string ⟨#[]⟩, .string ⟨#[]⟩, .int .i64 0, .int .i64 0, .slice none 0 0] 44 (0, 0))) := hb
  have HT : Hid (TextsAt w (.slice a5 r.length c5) r) := hT
  have HS : Hid (∀ s ∈ r, s.size ≤ 1000000) := hs
  have HC2 : Hid (w.cell? ⟨b, o + 2, none⟩ = some (.string x2)) := c2
  have HK0 : Hid (Kept (fun _ => False) w W) := K0
  have hne : ¬ b = w.heap.size + 1 := by omega
  have hne2 : ¬ w.heap.size + 1 = b := by omega
  have hWs := (Array.getElem?_eq_some_iff.1 hb).1
  obtain ⟨⟨r0, r1, r2, r3, r4, r5, r6⟩, z0, z1, z2, z3, z4, z5, z6⟩ := seven hr
  clear hx2 kact ktim kchi kwai ksen HT HS HC2 hl
  generalize hQ : bodyPost Tryd.prog Tryd.f18 (RNodePost w (none)) = Q
  have HQ : Hid _ := hQ
  clear hQ hr hb hT K0 hs c1 c2
  dsimp only [nodeMid, dropS, Tryd.f18, Option.getD]
  refine wp_seq_k (fun K1 h1 => ?_)
  have H1 : Hid _ := h1
  clear h1
  go_wp2_with fail
  refine H1.out _ _ ?_
  clear H1 K1
  refine wp_seq_k (fun K2 h2 => ?_)
  have H2 : Hid (∀ a w, nodeTail.wp Tryd.prog Q a w → K2 a w) := h2
  clear h2
  go_wp2_with fail
  rw [← HQ.out]
  exact tail_ret HR.out rfl rfl rfl (fun k => tail_none (HK0.out.trans k (fun j h => .inr (by omega))) rfl)
set_option maxRecDepth 100000 in
set_option maxHeartbeats 8000000 in
theorem mid_sen0 {w W : World} {b o n c c5 : Nat} {a5 : Option Addr} {x0 x1 x2 : ByteArray} {r : List ByteArray} {u : Nat → Value}
    (hr : W.heap[w.heap.size]? = some (.cells #[.string ⟨#[]⟩, .int .i64 0, .string ⟨#[]⟩, .string ⟨#[]⟩, .int .i64 0, .int .i64 0, .slice none 0 0] 44 (0, 0))) (hb : W.heap[w.heap.size + 1]? = some (.cells #[.string x0, .int .i64 0, .string ⟨#[]⟩, .string ⟨#[]⟩, .int .i64 0, .int .i64 0, .slice none 0 0] 44 (0, 0)))
    (hT : TextsAt w (.slice a5 r.length c5) r) (K0 : Kept (fun _ => False) w W) (hs : ∀ s ∈ r, s.size ≤ 1000000) (hl : r.length ≤ 1000000) (c1 : w.cell? ⟨b, o + 1, none⟩ = some (.string x1)) (c2 : w.cell? ⟨b, o + 2, none⟩ = some (.string x2)) (h2 : 2 < n) (hx2 : x2.size ≤ 1000000)
    (hk : x1 = senB) (h3 : n = 3) :
    nodeMid.wp Tryd.prog (bodyPost Tryd.prog Tryd.f18 (RNodePost w (none))) { tmps := #[.slice (some ⟨b, o, none⟩) n c, u 1, .pointer (some ⟨w.heap.size, 0, none⟩), .bool false, .pointer (some ⟨w.heap.size + 1, 0, none⟩), .slice a5 r.length c5, undef, undef, undef, undef, undef, undef, undef, undef, undef, undef, u 16, u 17, u 18, u 19, u 20, u 21, u 22, u 23, u 24, u 25, u 26, u 27, u 28, u 29, u 30, u 31, u 32, undef, undef, undef, undef, undef, undef, undef, undef, undef, undef, undef, undef, undef, undef, undef, undef, undef, undef, undef, undef, undef, undef, undef, undef, undef, undef, undef, undef, undef, undef, undef, undef, undef, undef, undef, undef, undef, undef, undef, undef, undef, undef, undef, undef, undef, undef, undef, undef, undef, undef, undef, undef, undef, undef, undef, undef, undef, undef, undef, undef, undef, undef, undef, undef, undef, undef, undef, undef, undef, undef, undef, undef, undef, undef, undef, undef, undef, undef, undef, undef, undef, undef, undef, undef, undef, undef, undef, undef, undef, undef, undef, undef, undef, undef, undef, undef, undef, undef, undef, undef, undef, undef, undef, undef, undef, undef, undef, undef, undef, undef, undef, undef, undef, undef, undef, undef, undef, undef, undef, undef, undef, undef, undef, undef, undef, undef, undef, undef, undef, undef, undef, undef, undef, undef, undef, undef, undef, undef, undef, undef, undef, undef, undef, undef], defers := [] } W := by
  have _u : True := (fun _ _ _ => trivial : r.length ≤ 1000000 → x2.size ≤ 1000000 → 2 < n → True) hl hx2 h2
  clear _u
  have y1 := keepC K0 c1 (fun _ _ h => h)
  have y2 := keepC K0 c2 (fun _ _ h => h)
  have hbw : b < w.heap.size := World.block_lt_of_cell? w _ c1
  have n1 : (1 : Int) < (n : Int) := by omega
  have n2 : (2 : Int) < (n : Int) := by omega
  have sact : (x1.toList == [97, 99, 116, 105, 118, 105, 116, 121]) = false := by rw [str_lit]; subst hk; decide
  have stim : (x1.toList == [116, 105, 109, 101, 114]) = false := by rw [str_lit]; subst hk; decide
  have schi : (x1.toList == [99, 104, 105, 108, 100]) = false := by rw [str_lit]; subst hk; decide
  have swai : (x1.toList == [119, 97, 105, 116]) = false := by rw [str_lit]; subst hk; decide
  have ssen : (x1.toList == [115, 101, 110, 100]) = true := by rw [str_lit]; exact decide_eq_true hk
  have HR : Hid (W.heap[w.heap.size]? = some (.cells #[.string ⟨#[]⟩, .int .i64 0, .string ⟨#[]⟩, .string ⟨#[]⟩, .int .i64 0, .int .i64 0, .slice none 0 0] 44 (0, 0))) := hr
  have HB : Hid (W.heap[w.heap.size + 1]? = some (.cells #[.string x0, .int .i64 0, .string ⟨#[]⟩, .string ⟨#[]⟩, .int .i64 0, .int .i64 0, .slice none 0 0] 44 (0, 0))) := hb
  have HT : Hid (TextsAt w (.slice a5 r.length c5) r) := hT
  have HS : Hid (∀ s ∈ r, s.size ≤ 1000000) := hs
  have HC2 : Hid (w.cell? ⟨b, o + 2, none⟩ = some (.string x2)) := c2
  have HK0 : Hid (Kept (fun _ => False) w W) := K0
  have hne : ¬ b = w.heap.size + 1 := by omega
  have hne2 : ¬ w.heap.size + 1 = b := by omega
  have hWs := (Array.getElem?_eq_some_iff.1 hb).1
  obtain ⟨⟨r0, r1, r2, r3, r4, r5, r6⟩, z0, z1, z2, z3, z4, z5, z6⟩ := seven hr
  have n4 : (n : Int) < 4 := by omega
  clear hx2 hk HT HS HC2 hl h3
  generalize hQ : bodyPost Tryd.prog Tryd.f18 (RNodePost w (none)) = Q
  have HQ : Hid _ := hQ
  clear hQ hr hb hT K0 hs c1 c2
  dsimp only [nodeMid, dropS, Tryd.f18, Option.getD]
  refine wp_seq_k (fun K1 h1 => ?_)
  have H1 : Hid _ := h1
  clear h1
  go_wp2_with fail
  refine H1.out _ _ ?_
  clear H1 K1
  refine wp_seq_k (fun K2 h2 => ?_)
  have H2 : Hid (∀ a w, nodeTail.wp Tryd.prog Q a w → K2 a w) := h2
  clear h2
  go_wp2_with fail
  rw [← HQ.out]
  exact tail_ret HR.out rfl rfl rfl (fun k => tail_none (HK0.out.trans k (fun j h => .inr (by omega))) rfl)
set_option maxRecDepth 100000 in
set_option maxHeartbeats 8000000 in
theorem mid_sen {w W : World} {b o n c c5 : Nat} {a5 : Option Addr} {x0 x1 x2 x3 : ByteArray} {r t : List ByteArray} {u : Nat → Value}
    (hr : W.heap[w.heap.size]? = some (.cells #[.string ⟨#[]⟩, .int .i64 0, .string ⟨#[]⟩, .string ⟨#[]⟩, .int .i64 0, .int .i64 0, .slice none 0 0] 44 (0, 0))) (hb : W.heap[w.heap.size + 1]? = some (.cells #[.string x0, .int .i64 0, .string ⟨#[]⟩, .string ⟨#[]⟩, .int .i64 0, .int .i64 0, .slice none 0 0] 44 (0, 0)))
    (hT : TextsAt w (.slice a5 r.length c5) r) (K0 : Kept (fun _ => False) w W) (hs : ∀ s ∈ r, s.size ≤ 1000000) (hl : r.length ≤ 1000000) (c1 : w.cell? ⟨b, o + 1, none⟩ = some (.string x1)) (c2 : w.cell? ⟨b, o + 2, none⟩ = some (.string x2)) (h2 : 2 < n) (hx2 : x2.size ≤ 1000000)
    {bn bf : Bool} (hk : x1 = senB) (hbn : nameP x3 = bn) (hbf : flowP x2 = bf) (h4 : n = t.length + 4) (hc : n ≤ c) (c3 : w.cell? ⟨b, o + 3, none⟩ = some (.string x3)) (hD : TextsAt w (.slice (some ⟨b, o + 4, none⟩) t.length (c - 4)) t) (ht : ∀ s ∈ t, s.size ≤ 1000000) (hl4 : n ≤ 1000000) (hx3 : x3.size ≤ 1000000) :
    nodeMid.wp Tryd.prog (bodyPost Tryd.prog Tryd.f18 (RNodePost w (if bf && bn then (aftR t).map (fun l => ⟨x0, 5, x3, x2, 0, 0, l⟩) else none))) { tmps := #[.slice (some ⟨b, o, none⟩) n c, u 1, .pointer (some ⟨w.heap.size, 0, none⟩), .bool false, .pointer (some ⟨w.heap.size + 1, 0, none⟩), .slice a5 r.length c5, undef, undef, undef, undef, undef, undef, undef, undef, undef, undef, u 16, u 17, u 18, u 19, u 20, u 21, u 22, u 23, u 24, u 25, u 26, u 27, u 28, u 29, u 30, u 31, u 32, undef, undef, undef, undef, undef, undef, undef, undef, undef, undef, undef, undef, undef, undef, undef, undef, undef, undef, undef, undef, undef, undef, undef, undef, undef, undef, undef, undef, undef, undef, undef, undef, undef, undef, undef, undef, undef, undef, undef, undef, undef, undef, undef, undef, undef, undef, undef, undef, undef, undef, undef, undef, undef, undef, undef, undef, undef, undef, undef, undef, undef, undef, undef, undef, undef, undef, undef, undef, undef, undef, undef, undef, undef, undef, undef, undef, undef, undef, undef, undef, undef, undef, undef, undef, undef, undef, undef, undef, undef, undef, undef, undef, undef, undef, undef, undef, undef, undef, undef, undef, undef, undef, undef, undef, undef, undef, undef, undef, undef, undef, undef, undef, undef, undef, undef, undef, undef, undef, undef, undef, undef, undef, undef, undef, undef, undef, undef, undef, undef, undef, undef, undef, undef, undef, undef, undef, undef, undef, undef, undef, undef, undef, undef, undef], defers := [] } W := by
  have _u : True := (fun _ _ _ => trivial : r.length ≤ 1000000 → x2.size ≤ 1000000 → 2 < n → True) hl hx2 h2
  clear _u
  have y1 := keepC K0 c1 (fun _ _ h => h)
  have y2 := keepC K0 c2 (fun _ _ h => h)
  have hbw : b < w.heap.size := World.block_lt_of_cell? w _ c1
  have n1 : (1 : Int) < (n : Int) := by omega
  have n2 : (2 : Int) < (n : Int) := by omega
  have sact : (x1.toList == [97, 99, 116, 105, 118, 105, 116, 121]) = false := by rw [str_lit]; subst hk; decide
  have stim : (x1.toList == [116, 105, 109, 101, 114]) = false := by rw [str_lit]; subst hk; decide
  have schi : (x1.toList == [99, 104, 105, 108, 100]) = false := by rw [str_lit]; subst hk; decide
  have swai : (x1.toList == [119, 97, 105, 116]) = false := by rw [str_lit]; subst hk; decide
  have ssen : (x1.toList == [115, 101, 110, 100]) = true := by rw [str_lit]; exact decide_eq_true hk
  have HR : Hid (W.heap[w.heap.size]? = some (.cells #[.string ⟨#[]⟩, .int .i64 0, .string ⟨#[]⟩, .string ⟨#[]⟩, .int .i64 0, .int .i64 0, .slice none 0 0] 44 (0, 0))) := hr
  have HB : Hid (W.heap[w.heap.size + 1]? = some (.cells #[.string x0, .int .i64 0, .string ⟨#[]⟩, .string ⟨#[]⟩, .int .i64 0, .int .i64 0, .slice none 0 0] 44 (0, 0))) := hb
  have HT : Hid (TextsAt w (.slice a5 r.length c5) r) := hT
  have HS : Hid (∀ s ∈ r, s.size ≤ 1000000) := hs
  have HC2 : Hid (w.cell? ⟨b, o + 2, none⟩ = some (.string x2)) := c2
  have HK0 : Hid (Kept (fun _ => False) w W) := K0
  have hne : ¬ b = w.heap.size + 1 := by omega
  have hne2 : ¬ w.heap.size + 1 = b := by omega
  have hWs := (Array.getElem?_eq_some_iff.1 hb).1
  have hN := fun V => refName_any V x3 (Nat.le_trans hx3 (by decide))
  have hF := fun V => refFlow_any V x2 (Nat.le_trans hx2 (by decide))
  have y3 := keepC K0 c3 (fun _ _ h => h)
  have HC3 : Hid (w.cell? ⟨b, o + 3, none⟩ = some (.string x3)) := c3
  have HD : Hid (TextsAt w (.slice (some ⟨b, o + 4, none⟩) t.length (c - 4)) t) := hD
  have HTt : Hid (∀ s ∈ t, s.size ≤ 1000000) := ht
  have H4 : Hid (n = t.length + 4) := h4
  have h3 : 3 < n := by omega
  have n3 : (3 : Int) < (n : Int) := by omega
  have n4 : ¬ (n : Int) < 4 := by omega
  have n5 : (4 : Int) ≤ (n : Int) := by omega
  have n6 : (n : Int) ≤ (c : Int) := by omega
  rw [hbn] at hN
  rw [hbf] at hF
  clear hbn hbf hx2 hk hx3 c3 hD ht h4 HT HS hl
  generalize hQ : bodyPost Tryd.prog Tryd.f18 (RNodePost w (if bf && bn then (aftR t).map (fun l => ⟨x0, 5, x3, x2, 0, 0, l⟩) else none)) = Q
  have HQ : Hid _ := hQ
  clear hQ hr hb hT K0 hs c1 c2
  dsimp only [nodeMid, dropS, Tryd.f18, Option.getD]
  refine wp_seq_k (fun K1 h1 => ?_)
  have H1 : Hid _ := h1
  clear h1
  go_wp2_with fail
  refine H1.out _ _ ?_
  clear H1 K1
  refine wp_seq_k (fun K2 h2 => ?_)
  have H2 : Hid (∀ a w, nodeTail.wp Tryd.prog Q a w → K2 a w) := h2
  clear h2
  go_wp2_with fail
  refine wp_onlyN (rn29 (s2 := x2) (s3 := x3) _ HB.out y2 y3 hne h3 ?_)
  intro k114 k115 k116 k117 k118 k119 k120 k121 k122 W3 HB3 K3
  have HBX : Hid _ := HB3
  have HK3 : Hid (Kept (fun j => j = w.heap.size + 1) W W3) := K3
  have g2 := keepC (HK0.out.trans K3 (fun j h => .inr (by omega))) HC2.out (fun _ _ h => h)
  have g3 := keepC (HK0.out.trans K3 (fun j h => .inr (by omega))) HC3.out (fun _ _ h => h)
  clear HB3 K3 y1 y2 y3
  dsimp only
  have HE : Hid (∀ (al : Option Addr) (cl : Nat), (c = 4 → cl = 0) → (c ≠ 4 → al = some ⟨b, o + 4, none⟩ ∧ cl = c - 4) → TextsAt w (.slice al t.length cl) t) := fun al cl e1 e2 => by
    have h4 := H4.out
    by_cases e : c = 4
    · have : t = [] := List.length_eq_zero_iff.1 (by omega)
      subst this
      rw [e1 e]
      exact texts_nil _ _ _ (Nat.zero_le _)
    · obtain ⟨rfl, rfl⟩ := e2 e
      exact HD.out
  cases bf
  all_goals
    go_wp2_with (first
      | (go_at_call 39; refine (hF _).mono ?_; rintro e w5 ⟨rfl, hw⟩; subst w5; clear hF)
      | (go_at_call 17; refine (hN _).mono ?_; rintro e w5 ⟨rfl, hw⟩; subst w5; clear hN)
      | fail)
    all_goals
      rw [show n - 4 = t.length by have := H4.out; omega]
      refine H2.out _ _ ?_
      rw [← HQ.out]
      refine tail_at rfl ((HK3.out.block _ (by omega) (by omega)).trans HR.out) HBX.out (by omega) (HE.out _ _ ?_ ?_) (HK0.out.trans HK3.out (fun j h => .inr (by omega))) HTt.out (by have := H4.out; omega)
      all_goals (intro e; first | omega | exact ⟨rfl, rfl⟩)
set_option maxRecDepth 100000 in
set_option maxHeartbeats 8000000 in
theorem mid_act0 {w W : World} {b o n c c5 : Nat} {a5 : Option Addr} {x0 x1 x2 : ByteArray} {r : List ByteArray} {u : Nat → Value}
    (hr : W.heap[w.heap.size]? = some (.cells #[.string ⟨#[]⟩, .int .i64 0, .string ⟨#[]⟩, .string ⟨#[]⟩, .int .i64 0, .int .i64 0, .slice none 0 0] 44 (0, 0))) (hb : W.heap[w.heap.size + 1]? = some (.cells #[.string x0, .int .i64 0, .string ⟨#[]⟩, .string ⟨#[]⟩, .int .i64 0, .int .i64 0, .slice none 0 0] 44 (0, 0)))
    (hT : TextsAt w (.slice a5 r.length c5) r) (K0 : Kept (fun _ => False) w W) (hs : ∀ s ∈ r, s.size ≤ 1000000) (hl : r.length ≤ 1000000) (c1 : w.cell? ⟨b, o + 1, none⟩ = some (.string x1)) (c2 : w.cell? ⟨b, o + 2, none⟩ = some (.string x2)) (h2 : 2 < n) (hx2 : x2.size ≤ 1000000)
    {t1 t2 : Int} {is2 f1 f2 : Bool} {l1 l2 : List ByteArray} (hk : x1 = actB) (hA : optR r triB = (t1, false, l1, f1)) (hB : optR l1 tmoB = (t2, is2, l2, f2)) :
    nodeMid.wp Tryd.prog (bodyPost Tryd.prog Tryd.f18 (RNodePost w (if f1 && f2 && nameP x2 then (aftR l2).map (fun t => ⟨x0, 1, x2, ⟨#[]⟩, t2, 1, t⟩) else none))) { tmps := #[.slice (some ⟨b, o, none⟩) n c, u 1, .pointer (some ⟨w.heap.size, 0, none⟩), .bool false, .pointer (some ⟨w.heap.size + 1, 0, none⟩), .slice a5 r.length c5, undef, undef, undef, undef, undef, undef, undef, undef, undef, undef, u 16, u 17, u 18, u 19, u 20, u 21, u 22, u 23, u 24, u 25, u 26, u 27, u 28, u 29, u 30, u 31, u 32, undef, undef, undef, undef, undef, undef, undef, undef, undef, undef, undef, undef, undef, undef, undef, undef, undef, undef, undef, undef, undef, undef, undef, undef, undef, undef, undef, undef, undef, undef, undef, undef, undef, undef, undef, undef, undef, undef, undef, undef, undef, undef, undef, undef, undef, undef, undef, undef, undef, undef, undef, undef, undef, undef, undef, undef, undef, undef, undef, undef, undef, undef, undef, undef, undef, undef, undef, undef, undef, undef, undef, undef, undef, undef, undef, undef, undef, undef, undef, undef, undef, undef, undef, undef, undef, undef, undef, undef, undef, undef, undef, undef, undef, undef, undef, undef, undef, undef, undef, undef, undef, undef, undef, undef, undef, undef, undef, undef, undef, undef, undef, undef, undef, undef, undef, undef, undef, undef, undef, undef, undef, undef, undef, undef, undef, undef, undef, undef, undef, undef, undef, undef, undef, undef, undef, undef, undef, undef, undef, undef, undef, undef, undef, undef], defers := [] } W := by
  have _u : True := (fun _ _ _ => trivial : r.length ≤ 1000000 → x2.size ≤ 1000000 → 2 < n → True) hl hx2 h2
  clear _u
  have y1 := keepC K0 c1 (fun _ _ h => h)
  have y2 := keepC K0 c2 (fun _ _ h => h)
  have hbw : b < w.heap.size := World.block_lt_of_cell? w _ c1
  have n1 : (1 : Int) < (n : Int) := by omega
  have n2 : (2 : Int) < (n : Int) := by omega
  have sact : (x1.toList == [97, 99, 116, 105, 118, 105, 116, 121]) = true := by rw [str_lit]; exact decide_eq_true hk
  have stim : (x1.toList == [116, 105, 109, 101, 114]) = false := by rw [str_lit]; subst hk; decide
  have schi : (x1.toList == [99, 104, 105, 108, 100]) = false := by rw [str_lit]; subst hk; decide
  have swai : (x1.toList == [119, 97, 105, 116]) = false := by rw [str_lit]; subst hk; decide
  have ssen : (x1.toList == [115, 101, 110, 100]) = false := by rw [str_lit]; subst hk; decide
  have HR : Hid (W.heap[w.heap.size]? = some (.cells #[.string ⟨#[]⟩, .int .i64 0, .string ⟨#[]⟩, .string ⟨#[]⟩, .int .i64 0, .int .i64 0, .slice none 0 0] 44 (0, 0))) := hr
  have HB : Hid (W.heap[w.heap.size + 1]? = some (.cells #[.string x0, .int .i64 0, .string ⟨#[]⟩, .string ⟨#[]⟩, .int .i64 0, .int .i64 0, .slice none 0 0] 44 (0, 0))) := hb
  have HT : Hid (TextsAt w (.slice a5 r.length c5) r) := hT
  have HS : Hid (∀ s ∈ r, s.size ≤ 1000000) := hs
  have HC2 : Hid (w.cell? ⟨b, o + 2, none⟩ = some (.string x2)) := c2
  have HK0 : Hid (Kept (fun _ => False) w W) := K0
  have hne : ¬ b = w.heap.size + 1 := by omega
  have hne2 : ¬ w.heap.size + 1 = b := by omega
  have hWs := (Array.getElem?_eq_some_iff.1 hb).1
  have hN := fun V => refName_any V x2 (Nat.le_trans hx2 (by decide))
  have hO1 : ∀ V, Kept (fun _ => False) w V → Calls Tryd.prog 37 #[.slice a5 r.length c5, .string triB] V (fun e w' => OptPost V a5 c5 r triB e w') := fun V K => refOpt_any V a5 c5 r triB (hT.kept K (fun _ _ h => h)) hs hl
  have hl1 : l1.length ≤ r.length := by have := optR_len r triB; rw [hA] at this; exact this
  have hs1 : ∀ s ∈ l1, s.size ≤ 1000000 := fun s h => hs s (optR_mem r triB (by rw [hA]; exact h))
  have hl2 : l2.length ≤ l1.length := by have := optR_len l1 tmoB; rw [hB] at this; exact this
  have hs2 : ∀ s ∈ l2, s.size ≤ 1000000 := fun s h => hs1 s (optR_mem l1 tmoB (by rw [hB]; exact h))
  have hO2 : ∀ (a6 : Option Addr) (c6 : Nat), TextsAt w (.slice a6 l1.length c6) l1 → ∀ V, Kept (fun _ => False) w V → Calls Tryd.prog 37 #[.slice a6 l1.length c6, .string tmoB] V (fun e w' => OptPost V a6 c6 l1 tmoB e w') := fun a6 c6 h6 V K => refOpt_any V a6 c6 l1 tmoB (h6.kept K (fun _ _ h => h)) hs1 (by omega)
  have HS2 : Hid (∀ s ∈ l2, s.size ≤ 1000000) := hs2
  have hl3 : l2.length ≤ 1000000 := by omega
  simp only [OptPost, hA] at hO1
  simp only [OptPost, hB] at hO2
  unfold triB at hO1
  unfold tmoB at hO2
  have HO2 : Hid _ := hO2
  clear hO2
  clear hx2 hk hA hB hs1 hs2 hl1 hl2
  generalize hQ : bodyPost Tryd.prog Tryd.f18 (RNodePost w (if f1 && f2 && nameP x2 then (aftR l2).map (fun t => ⟨x0, 1, x2, ⟨#[]⟩, t2, 1, t⟩) else none)) = Q
  have HQ : Hid _ := hQ
  clear hQ hr hb hT K0 hs c1 c2
  dsimp only [nodeMid, dropS, Tryd.f18, Option.getD]
  refine wp_seq_k (fun K1 h1 => ?_)
  have H1 : Hid _ := h1
  clear h1
  go_wp2_with fail
  refine H1.out _ _ ?_
  clear H1 K1
  refine wp_seq_k (fun K2 h2 => ?_)
  have H2 : Hid (∀ a w, nodeTail.wp Tryd.prog Q a w → K2 a w) := h2
  clear h2
  go_wp2_with fail
  refine wp_onlyN (rn9 (s2 := x2) _ HB.out y2 hne h2 ?_)
  intro k39 k40 k41 k42 k43 k44 W3 HB3 K3
  have HBX : Hid (W3.heap[w.heap.size + 1]? = some (.cells #[.string x0, .int .i64 1, .string x2, .string ⟨#[]⟩, .int .i64 0, .int .i64 1, .slice none 0 0] 44 (0, 0))) := HB3
  have hz3 := K3.size
  have HK3 : Hid (Kept (fun _ => False) w W3) := HK0.out.trans K3 (fun j h => .inr (by omega))
  have HR3 : Hid (W3.heap[w.heap.size]? = some (.cells #[.string ⟨#[]⟩, .int .i64 0, .string ⟨#[]⟩, .string ⟨#[]⟩, .int .i64 0, .int .i64 0, .slice none 0 0] 44 (0, 0))) := (K3.block _ (by omega) (by omega)).trans HR.out
  clear HB3 K3 y1 y2 HB HR HK0
  dsimp only
  cases f1 <;> cases f2
  all_goals
    go_wp2_with (first
      | (go_at_call 37; refine (hO1 _ HK3.out).mono ?_; rintro e w4 ⟨a6, c6, rfl, hT6, K6⟩; clear hO1; have hz4 := K6.size; have HK4 : Hid (Kept (fun _ => False) w w4) := HK3.out.and K6; have hb4 : w4.heap[w.heap.size + 1]? = some (.cells #[.string x0, .int .i64 1, .string x2, .string ⟨#[]⟩, .int .i64 0, .int .i64 1, .slice none 0 0] 44 (0, 0)) := (K6.block _ (by omega) (fun h => h)).trans HBX.out; have HR4 : Hid (w4.heap[w.heap.size]? = some (.cells #[.string ⟨#[]⟩, .int .i64 0, .string ⟨#[]⟩, .string ⟨#[]⟩, .int .i64 0, .int .i64 0, .slice none 0 0] 44 (0, 0))) := (K6.block _ (by omega) (fun h => h)).trans HR3.out; have hO2 := HO2.out a6 c6 (hT6 _ HT.out); have HT6 : Hid (TextsAt w (.slice a6 l1.length c6) l1) := hT6 _ HT.out; obtain ⟨⟨_, _, _, _, _, b5, _⟩, _, _, _, _, _, z5, _⟩ := seven hb4; have HB4 : Hid (w4.heap[w.heap.size + 1]? = some (.cells #[.string x0, .int .i64 1, .string x2, .string ⟨#[]⟩, .int .i64 0, .int .i64 1, .slice none 0 0] 44 (0, 0))) := hb4; clear hb4 hT6 K6)
      | (go_at_call 37; refine (hO2 _ HK4.out).mono ?_; rintro e w6 ⟨a7, c7, rfl, hT7, K7⟩; clear hO2; have hz6 := K7.size; have hz5 : w4.heap.size ≤ w4.heap.size := (by simp); have HK6 : Hid (Kept (fun _ => False) w w6) := (HK4.out).and K7; have hb6 : w6.heap[w.heap.size + 1]? = some (.cells #[.string x0, .int .i64 1, .string x2, .string ⟨#[]⟩, .int .i64 0, .int .i64 1, .slice none 0 0] 44 (0, 0)) := (K7.block _ (by omega) (fun h => h)).trans (by have := HB4.out; exact this); have HR6 : Hid (w6.heap[w.heap.size]? = some (.cells #[.string ⟨#[]⟩, .int .i64 0, .string ⟨#[]⟩, .string ⟨#[]⟩, .int .i64 0, .int .i64 0, .slice none 0 0] 44 (0, 0))) := (K7.block _ (by omega) (fun h => h)).trans (by have := HR4.out; exact this); have HT7 : Hid (TextsAt w (.slice a7 l2.length c7) l2) := hT7 _ HT6.out; obtain ⟨⟨_, _, _, _, b4, _, _⟩, _, _, _, _, z4, _, _⟩ := seven hb6; have HB6 : Hid (w6.heap[w.heap.size + 1]? = some (.cells #[.string x0, .int .i64 1, .string x2, .string ⟨#[]⟩, .int .i64 0, .int .i64 1, .slice none 0 0] 44 (0, 0))) := hb6; have g2 := keepC HK6.out HC2.out (fun _ _ h => h); clear hb6 hT7 K7)
      | (go_at_call 17; refine (hN _).mono ?_; rintro e w7 ⟨rfl, hw⟩; subst w7; clear hN)
      | fail)
    refine H2.out _ _ ?_
    rw [← HQ.out]
    have KS : Kept (fun j => j = w.heap.size + 1) w6 (w6.setCell ⟨w.heap.size + 1, 4, none⟩ (.int .i64 t2)) := Kept.setCell _ _ _ rfl
    exact tail_at rfl ((KS.block _ (by omega) (by omega)).trans HR6.out) (by have := HB6.out; simp [World.setCell, Array.getElem?_modify, this]) (by omega) HT7.out (HK6.out.trans KS (fun j h => .inr (by omega))) HS2.out hl3
set_option maxRecDepth 100000 in
set_option maxHeartbeats 8000000 in
theorem mid_act1 {w W : World} {b o n c c5 : Nat} {a5 : Option Addr} {x0 x1 x2 : ByteArray} {r : List ByteArray} {u : Nat → Value}
    (hr : W.heap[w.heap.size]? = some (.cells #[.string ⟨#[]⟩, .int .i64 0, .string ⟨#[]⟩, .string ⟨#[]⟩, .int .i64 0, .int .i64 0, .slice none 0 0] 44 (0, 0))) (hb : W.heap[w.heap.size + 1]? = some (.cells #[.string x0, .int .i64 0, .string ⟨#[]⟩, .string ⟨#[]⟩, .int .i64 0, .int .i64 0, .slice none 0 0] 44 (0, 0)))
    (hT : TextsAt w (.slice a5 r.length c5) r) (K0 : Kept (fun _ => False) w W) (hs : ∀ s ∈ r, s.size ≤ 1000000) (hl : r.length ≤ 1000000) (c1 : w.cell? ⟨b, o + 1, none⟩ = some (.string x1)) (c2 : w.cell? ⟨b, o + 2, none⟩ = some (.string x2)) (h2 : 2 < n) (hx2 : x2.size ≤ 1000000)
    {t1 t2 : Int} {is2 f1 f2 : Bool} {l1 l2 : List ByteArray} (hk : x1 = actB) (hA : optR r triB = (t1, true, l1, f1)) (hB : optR l1 tmoB = (t2, is2, l2, f2)) :
    nodeMid.wp Tryd.prog (bodyPost Tryd.prog Tryd.f18 (RNodePost w (if f1 && f2 && nameP x2 then (aftR l2).map (fun t => ⟨x0, 1, x2, ⟨#[]⟩, t2, t1, t⟩) else none))) { tmps := #[.slice (some ⟨b, o, none⟩) n c, u 1, .pointer (some ⟨w.heap.size, 0, none⟩), .bool false, .pointer (some ⟨w.heap.size + 1, 0, none⟩), .slice a5 r.length c5, undef, undef, undef, undef, undef, undef, undef, undef, undef, undef, u 16, u 17, u 18, u 19, u 20, u 21, u 22, u 23, u 24, u 25, u 26, u 27, u 28, u 29, u 30, u 31, u 32, undef, undef, undef, undef, undef, undef, undef, undef, undef, undef, undef, undef, undef, undef, undef, undef, undef, undef, undef, undef, undef, undef, undef, undef, undef, undef, undef, undef, undef, undef, undef, undef, undef, undef, undef, undef, undef, undef, undef, undef, undef, undef, undef, undef, undef, undef, undef, undef, undef, undef, undef, undef, undef, undef, undef, undef, undef, undef, undef, undef, undef, undef, undef, undef, undef, undef, undef, undef, undef, undef, undef, undef, undef, undef, undef, undef, undef, undef, undef, undef, undef, undef, undef, undef, undef, undef, undef, undef, undef, undef, undef, undef, undef, undef, undef, undef, undef, undef, undef, undef, undef, undef, undef, undef, undef, undef, undef, undef, undef, undef, undef, undef, undef, undef, undef, undef, undef, undef, undef, undef, undef, undef, undef, undef, undef, undef, undef, undef, undef, undef, undef, undef, undef, undef, undef, undef, undef, undef, undef, undef, undef, undef, undef, undef], defers := [] } W := by
  have _u : True := (fun _ _ _ => trivial : r.length ≤ 1000000 → x2.size ≤ 1000000 → 2 < n → True) hl hx2 h2
  clear _u
  have y1 := keepC K0 c1 (fun _ _ h => h)
  have y2 := keepC K0 c2 (fun _ _ h => h)
  have hbw : b < w.heap.size := World.block_lt_of_cell? w _ c1
  have n1 : (1 : Int) < (n : Int) := by omega
  have n2 : (2 : Int) < (n : Int) := by omega
  have sact : (x1.toList == [97, 99, 116, 105, 118, 105, 116, 121]) = true := by rw [str_lit]; exact decide_eq_true hk
  have stim : (x1.toList == [116, 105, 109, 101, 114]) = false := by rw [str_lit]; subst hk; decide
  have schi : (x1.toList == [99, 104, 105, 108, 100]) = false := by rw [str_lit]; subst hk; decide
  have swai : (x1.toList == [119, 97, 105, 116]) = false := by rw [str_lit]; subst hk; decide
  have ssen : (x1.toList == [115, 101, 110, 100]) = false := by rw [str_lit]; subst hk; decide
  have HR : Hid (W.heap[w.heap.size]? = some (.cells #[.string ⟨#[]⟩, .int .i64 0, .string ⟨#[]⟩, .string ⟨#[]⟩, .int .i64 0, .int .i64 0, .slice none 0 0] 44 (0, 0))) := hr
  have HB : Hid (W.heap[w.heap.size + 1]? = some (.cells #[.string x0, .int .i64 0, .string ⟨#[]⟩, .string ⟨#[]⟩, .int .i64 0, .int .i64 0, .slice none 0 0] 44 (0, 0))) := hb
  have HT : Hid (TextsAt w (.slice a5 r.length c5) r) := hT
  have HS : Hid (∀ s ∈ r, s.size ≤ 1000000) := hs
  have HC2 : Hid (w.cell? ⟨b, o + 2, none⟩ = some (.string x2)) := c2
  have HK0 : Hid (Kept (fun _ => False) w W) := K0
  have hne : ¬ b = w.heap.size + 1 := by omega
  have hne2 : ¬ w.heap.size + 1 = b := by omega
  have hWs := (Array.getElem?_eq_some_iff.1 hb).1
  have hN := fun V => refName_any V x2 (Nat.le_trans hx2 (by decide))
  have hO1 : ∀ V, Kept (fun _ => False) w V → Calls Tryd.prog 37 #[.slice a5 r.length c5, .string triB] V (fun e w' => OptPost V a5 c5 r triB e w') := fun V K => refOpt_any V a5 c5 r triB (hT.kept K (fun _ _ h => h)) hs hl
  have hl1 : l1.length ≤ r.length := by have := optR_len r triB; rw [hA] at this; exact this
  have hs1 : ∀ s ∈ l1, s.size ≤ 1000000 := fun s h => hs s (optR_mem r triB (by rw [hA]; exact h))
  have hl2 : l2.length ≤ l1.length := by have := optR_len l1 tmoB; rw [hB] at this; exact this
  have hs2 : ∀ s ∈ l2, s.size ≤ 1000000 := fun s h => hs1 s (optR_mem l1 tmoB (by rw [hB]; exact h))
  have hO2 : ∀ (a6 : Option Addr) (c6 : Nat), TextsAt w (.slice a6 l1.length c6) l1 → ∀ V, Kept (fun _ => False) w V → Calls Tryd.prog 37 #[.slice a6 l1.length c6, .string tmoB] V (fun e w' => OptPost V a6 c6 l1 tmoB e w') := fun a6 c6 h6 V K => refOpt_any V a6 c6 l1 tmoB (h6.kept K (fun _ _ h => h)) hs1 (by omega)
  have HS2 : Hid (∀ s ∈ l2, s.size ≤ 1000000) := hs2
  have hl3 : l2.length ≤ 1000000 := by omega
  simp only [OptPost, hA] at hO1
  simp only [OptPost, hB] at hO2
  unfold triB at hO1
  unfold tmoB at hO2
  have HO2 : Hid _ := hO2
  clear hO2
  clear hx2 hk hA hB hs1 hs2 hl1 hl2
  generalize hQ : bodyPost Tryd.prog Tryd.f18 (RNodePost w (if f1 && f2 && nameP x2 then (aftR l2).map (fun t => ⟨x0, 1, x2, ⟨#[]⟩, t2, t1, t⟩) else none)) = Q
  have HQ : Hid _ := hQ
  clear hQ hr hb hT K0 hs c1 c2
  dsimp only [nodeMid, dropS, Tryd.f18, Option.getD]
  refine wp_seq_k (fun K1 h1 => ?_)
  have H1 : Hid _ := h1
  clear h1
  go_wp2_with fail
  refine H1.out _ _ ?_
  clear H1 K1
  refine wp_seq_k (fun K2 h2 => ?_)
  have H2 : Hid (∀ a w, nodeTail.wp Tryd.prog Q a w → K2 a w) := h2
  clear h2
  go_wp2_with fail
  refine wp_onlyN (rn9 (s2 := x2) _ HB.out y2 hne h2 ?_)
  intro k39 k40 k41 k42 k43 k44 W3 HB3 K3
  have HBX : Hid (W3.heap[w.heap.size + 1]? = some (.cells #[.string x0, .int .i64 1, .string x2, .string ⟨#[]⟩, .int .i64 0, .int .i64 1, .slice none 0 0] 44 (0, 0))) := HB3
  have hz3 := K3.size
  have HK3 : Hid (Kept (fun _ => False) w W3) := HK0.out.trans K3 (fun j h => .inr (by omega))
  have HR3 : Hid (W3.heap[w.heap.size]? = some (.cells #[.string ⟨#[]⟩, .int .i64 0, .string ⟨#[]⟩, .string ⟨#[]⟩, .int .i64 0, .int .i64 0, .slice none 0 0] 44 (0, 0))) := (K3.block _ (by omega) (by omega)).trans HR.out
  clear HB3 K3 y1 y2 HB HR HK0
  dsimp only
  cases f1 <;> cases f2
  all_goals
    go_wp2_with (first
      | (go_at_call 37; refine (hO1 _ HK3.out).mono ?_; rintro e w4 ⟨a6, c6, rfl, hT6, K6⟩; clear hO1; have hz4 := K6.size; have HK4 : Hid (Kept (fun _ => False) w w4) := HK3.out.and K6; have hb4 : w4.heap[w.heap.size + 1]? = some (.cells #[.string x0, .int .i64 1, .string x2, .string ⟨#[]⟩, .int .i64 0, .int .i64 1, .slice none 0 0] 44 (0, 0)) := (K6.block _ (by omega) (fun h => h)).trans HBX.out; have HR4 : Hid (w4.heap[w.heap.size]? = some (.cells #[.string ⟨#[]⟩, .int .i64 0, .string ⟨#[]⟩, .string ⟨#[]⟩, .int .i64 0, .int .i64 0, .slice none 0 0] 44 (0, 0))) := (K6.block _ (by omega) (fun h => h)).trans HR3.out; have hO2 := HO2.out a6 c6 (hT6 _ HT.out); have HT6 : Hid (TextsAt w (.slice a6 l1.length c6) l1) := hT6 _ HT.out; obtain ⟨⟨_, _, _, _, _, b5, _⟩, _, _, _, _, _, z5, _⟩ := seven hb4; have HB4 : Hid (w4.heap[w.heap.size + 1]? = some (.cells #[.string x0, .int .i64 1, .string x2, .string ⟨#[]⟩, .int .i64 0, .int .i64 1, .slice none 0 0] 44 (0, 0))) := hb4; clear hb4 hT6 K6)
      | (go_at_call 37; refine (hO2 _ (HK4.out.trans (Kept.setCell (S := fun j => j = w.heap.size + 1) w4 ⟨w.heap.size + 1, 5, none⟩ (.int .i64 t1) rfl) (fun j h => .inr (by omega)))).mono ?_; rintro e w6 ⟨a7, c7, rfl, hT7, K7⟩; clear hO2; have hz6 := K7.size; have hz5 : w4.heap.size ≤ (w4.setCell ⟨w.heap.size + 1, 5, none⟩ (.int .i64 t1)).heap.size := (by simp); have HK6 : Hid (Kept (fun _ => False) w w6) := ((HK4.out.trans (Kept.setCell (S := fun j => j = w.heap.size + 1) w4 ⟨w.heap.size + 1, 5, none⟩ (.int .i64 t1) rfl) (fun j h => .inr (by omega)))).and K7; have hb6 : w6.heap[w.heap.size + 1]? = some (.cells #[.string x0, .int .i64 1, .string x2, .string ⟨#[]⟩, .int .i64 0, .int .i64 t1, .slice none 0 0] 44 (0, 0)) := (K7.block _ (by omega) (fun h => h)).trans (by have := HB4.out; simp [World.setCell, Array.getElem?_modify, this]); have HR6 : Hid (w6.heap[w.heap.size]? = some (.cells #[.string ⟨#[]⟩, .int .i64 0, .string ⟨#[]⟩, .string ⟨#[]⟩, .int .i64 0, .int .i64 0, .slice none 0 0] 44 (0, 0))) := (K7.block _ (by omega) (fun h => h)).trans (by have := HR4.out; simp [World.setCell, Array.getElem?_modify, this]); have HT7 : Hid (TextsAt w (.slice a7 l2.length c7) l2) := hT7 _ HT6.out; obtain ⟨⟨_, _, _, _, b4, _, _⟩, _, _, _, _, z4, _, _⟩ := seven hb6; have HB6 : Hid (w6.heap[w.heap.size + 1]? = some (.cells #[.string x0, .int .i64 1, .string x2, .string ⟨#[]⟩, .int .i64 0, .int .i64 t1, .slice none 0 0] 44 (0, 0))) := hb6; have g2 := keepC HK6.out HC2.out (fun _ _ h => h); clear hb6 hT7 K7)
      | (go_at_call 17; refine (hN _).mono ?_; rintro e w7 ⟨rfl, hw⟩; subst w7; clear hN)
      | fail)
    refine H2.out _ _ ?_
    rw [← HQ.out]
    have KS : Kept (fun j => j = w.heap.size + 1) w6 (w6.setCell ⟨w.heap.size + 1, 4, none⟩ (.int .i64 t2)) := Kept.setCell _ _ _ rfl
    exact tail_at rfl ((KS.block _ (by omega) (by omega)).trans HR6.out) (by have := HB6.out; simp [World.setCell, Array.getElem?_modify, this]) (by omega) HT7.out (HK6.out.trans KS (fun j h => .inr (by omega))) HS2.out hl3
end Go.Proofs.YtlholgpenpfpbaaDoor
