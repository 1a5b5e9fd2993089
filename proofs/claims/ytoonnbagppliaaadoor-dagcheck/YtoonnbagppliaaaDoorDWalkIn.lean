/-
  The function that Walk makes: it tells the nodes in order, each a copy.
-/
import Derived.Test.YtoonnbagppliaaaDoorDWalk
import Derived.Test.YtoonnbagppliaaaDoorTold
namespace Go.Proofs.YtoonnbagppliaaaDoor
open Go.RowKit Go.Shelf
attribute [local go_sem] Oper.semAt_some

/-- Nodes of memory are fine. -/
theorem NodesAt.fine {w : World} {a : Option Addr} {ns : List Nd} (C : NodesAt w a ns) : ∀ n ∈ ns, NdOk n ∧ ∀ s ∈ n.after, s.size ≤ maxLen := by
  intro n hn
  refine ⟨C.1 n hn, ?_⟩
  rcases C.2 with h | ⟨b, o, h, hc⟩
  · subst h; simp at hn
  · obtain ⟨i, hi, rfl⟩ := List.mem_iff_getElem.1 hn
    obtain ⟨v, ⟨_, _, _, _, _, _, h5⟩, _⟩ := hc i hi
    exact h5

set_option maxRecDepth 100000 in
set_option maxHeartbeats 2000000 in
theorem walk_in (n : Nat) (lp pb qb B : Nat) (od : List Nat) (ns : List Nd) (J : Nat → World → Prop) (Jx : World → Prop) (W : World) (T : WalkAt B W pb qb od ns) (hod : ∀ i ∈ od, i < ns.length) (hfine : ∀ n ∈ ns, NdOk n ∧ ∀ s ∈ n.after, s.size ≤ maxLen) (hlen : od.length ≤ 1000000) (hJ : ∀ k A C, J k A → Kept (fun _ => False) A C → J k C)
    (hY : ∀ (k i : Nat) (nd : Nd) (W1 : World) (a' : Option Addr) (c' : Nat), J k W1 → od[k]? = some i → ns[i]? = some nd → TextsAt W1 (.slice a' nd.after.length c') nd.after → YieldAt Fence.wide n Tryd.prog lp #[.int .i64 (i : Nat), .agg #[.string nd.name, .int .i64 nd.kind, .string nd.arg, .string nd.to, .int .i64 nd.delay, .int .i64 nd.tries, .slice a' nd.after.length c']] W1 fun e W' => (e = .returned (.bool true) ∧ J (k + 1) W' ∧ W1.heap.size ≤ W'.heap.size ∧ ∀ g, B ≤ g → g < W.heap.size → W'.heap[g]? = W1.heap[g]?) ∨ (e = .returned (.bool false) ∧ Jx W'))
    (h0 : J 0 W) :
    CallsIn Fence.wide n Tryd.prog 40 #[.func (.yield lp) #[] #[], .pointer (some ⟨pb, 0, none⟩), .pointer (some ⟨qb, 0, none⟩)] W fun e W' => (∃ v, e = .returned v) ∧ (J od.length W' ∨ Jx W') := by
  have HY : Hid _ := hY
  have HT : Hid (WalkAt B W pb qb od ns) := T
  obtain ⟨ao, co, hp, O⟩ := T.po
  have HO : Hid (W.ownsRow B 3 1 (.slice ao od.length co) od.length (natsV od)) := O
  have hp0 := (oneC hp).1
  clear hY T O hp
  refine callsIn_of_wp Tryd.func40 rfl trivial ?_ rfl
  simp only [Tryd.ntmps40, List.size_toArray, List.length_cons, List.length_nil, Nat.reduceAdd, Nat.reduceSub, Array.replicate_succ, Array.replicate_zero, List.push_toArray, List.append_toArray, List.nil_append, List.cons_append]
  gi_wp2
  gi_loopw [8] (fun p wr => ∃ (k : Nat), p = .int .i64 (k : Nat) ∧ k ≤ od.length ∧ J k wr ∧ W.heap.size ≤ wr.heap.size ∧ ∀ g, B ≤ g → g < W.heap.size → wr.heap[g]? = W.heap[g]?) (fun p _ => od.length - (Go.RowKit.intOf p).toNat)
  case atStart => exact ⟨0, rfl, Nat.zero_le _, h0, Nat.le_refl _, fun _ _ _ => rfl⟩
  case round =>
    clear h0 hp0
    obtain ⟨k, rfl, hk, hJs, hsz, hsame⟩ := hrel
    by_cases hlt : k < od.length
    · have T2 := HT.out.keep hsame
      have HS : Hid (∀ g, B ≤ g → g < W.heap.size → wr.heap[g]? = W.heap[g]?) := hsame
      have hik := hod _ (List.getElem_mem hlt)
      have ho2 := ownsRow_keep (w' := wr) HO.out (fun g hg => hsame g (HO.out.lt g hg).1 (HO.out.lt g hg).2)
      obtain ⟨g0, rfl⟩ : ∃ g, ao = some ⟨g, 0, none⟩ := by
        rcases ho2.2 with ⟨e, h0⟩ | ⟨g, _, _, e, _⟩
        · omega
        · simp only [Value.slice.injEq] at e
          exact ⟨g, e.1⟩
      have hcl := ho2.cellAt k (by omega)
      rw [show (natsV od)[k]? = some (.int .i64 ((od[k] : Nat) : Int)) by simp [natsV, hlt]] at hcl
      obtain ⟨an, cn, hq, N⟩ := T2.qo
      have NA := N.at hfine
      have hq0 := (oneC hq).1
      obtain ⟨b, o, av, cv, rfl, hT, c0, c1, c2, c3, c4, c5, c6⟩ := NA.at hik
      have hx := List.getElem?_eq_getElem hik
      have hko := List.getElem?_eq_getElem hlt
      have hok := (hfine _ (List.getElem_mem hik))
      have hCp := copied_any wr (ns[od[k]]).name (ns[od[k]]).kind (ns[od[k]]).arg (ns[od[k]]).to (ns[od[k]]).delay (ns[od[k]]).tries (ns[od[k]]).after av cv hT hok.1.few
      have g1 : (k : Int) < (od.length : Int) := by omega
      have g2 : ((od[k] : Nat) : Int) < (ns.length : Int) := by omega
      have HYk : Hid (∀ W1 a' c', J k W1 → TextsAt W1 (.slice a' (ns[od[k]]).after.length c') (ns[od[k]]).after → _) := fun W1 a' c' h1 h2 => HY.out k od[k] ns[od[k]] W1 a' c' h1 hko hx h2
      have HSm : Hid (∀ s ∈ (ns[od[k]]).after, s.size ≤ maxLen) := hok.2
      clear hT NA N hq T2 ho2 hx hko hok hsame
      generalize ns[od[k]] = x at *
      generalize od[k] = i at *
      gi_wp2
      refine ⟨trivial, fun h => (by simp [Fence.wide] at h), ?_⟩
      refine (callsIn_wide.2 hCp).mono ?_
      rintro e w5 ⟨a5, c5', rfl, O5, K5⟩
      clear hCp
      obtain ⟨fn, tmps, assign, body, hy, hR⟩ := YieldAt.wide (m' := n - 1) (HYk.out w5 a5 c5' (hJ k wr w5 hJs K5) (texts_of_row O5 HSm.out))
      have hz5 := K5.size
      have HK5 : Hid (∀ g, g < wr.heap.size → w5.heap[g]? = wr.heap[g]?) := fun g hg => K5.block g hg (fun h => h)
      clear O5 K5 hcl hq0 c0 c1 c2 c3 c4 c5 c6 HYk HSm
      simp only []
      gi_wp2
      refine ⟨fun h => (by simp [Fence.wide] at h), ?_⟩
      refine hR.mono ?_
      rintro e W3 (⟨rfl, hJ3, hsz3, hk3⟩ | ⟨rfl, hJx3⟩)
      · have HS3 : Hid (∀ g, B ≤ g → g < W.heap.size → W3.heap[g]? = W.heap[g]?) := fun g h1 h2 => (hk3 g h1 h2).trans ((HK5.out g (by omega)).trans (HS.out g h1 h2))
        have hz3 : W.heap.size ≤ W3.heap.size := by omega
        clear hk3 hsz3
        gi_wp2
        go_roundw
        case rel => exact ⟨k + 1, by simp, by omega, hJ3, hz3, HS3.out⟩
        case measure => simp [Go.RowKit.intOf]; omega
      · gi_wp2
        refine bodyPost_ret (results_none rfl _ _ _) rfl ?_
        exact ⟨⟨_, rfl⟩, .inr hJx3⟩
    · obtain rfl : k = od.length := by omega
      gi_wp2
      go_end0
      exact ⟨⟨_, rfl⟩, .inl hJs⟩

end Go.Proofs.YtoonnbagppliaaaDoor
