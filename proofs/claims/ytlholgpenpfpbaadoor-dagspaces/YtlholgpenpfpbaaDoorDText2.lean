/-
  Text: what is written of a definition, whole.
-/
import Derived.Test.YtlholgpenpfpbaaDoorDText
namespace Go.Proofs.YtlholgpenpfpbaaDoor
open Go.RowKit

theorem BSt.new {w w1 : World} {C : Array Value} (K : Kept (fun _ => False) (w.alloc (.cells C 26)) w1) : BSt w (w1.alloc (.cells #[.pointer none, .slice none 0 0] 56)) C w1.heap.size [] := by
  have hs := K.size
  rw [World.size_alloc] at hs
  have hb : w1.heap[w.heap.size]? = some (.cells C 26 (0, 0)) := (K.block _ (by rw [World.size_alloc]; omega) (fun h => h)).trans (heap_alloc_new _ _)
  refine ⟨.inl ⟨Nat.le_refl _, .slice none 0 0, heap_alloc_new _ _, World.ownsRowF_nil _ _ _ _, by simp [Value.ownBlock]⟩, ?_, ((Kept.alloc _ _ _).and K).and (Kept.alloc _ _ _), by omega, by rw [World.size_alloc]; omega⟩
  rw [Below.heap_alloc _ _ _ (by omega)]
  exact hb

theorem BSt.cells {w W : World} {u0 u1 : Value} {b : Nat} {l : List UInt8} (S : BSt w W #[u0, u1] b l) : W.cell? ⟨w.heap.size, 0, none⟩ = some u0 ∧ W.cell? ⟨w.heap.size, 1, none⟩ = some u1 := by
  constructor <;> simp [World.cell?, S.box]

theorem name_small64 {s : ByteArray} (h : nameP s = true) : s.size ≤ 64 := by
  unfold nameP madeP at h
  simp only [Bool.and_eq_true, decide_eq_true_eq] at h
  omega

theorem flow_small256 {s : ByteArray} (h : flowP s = true) : s.size ≤ 256 := by
  unfold flowP madeP at h
  simp only [Bool.and_eq_true, decide_eq_true_eq] at h
  omega

/-- The bytes of words. -/
def lenW (ws : List ByteArray) : Nat := (ws.map (fun s => s.size + 1)).sum

theorem joinTail_len (ws : List ByteArray) : (Lib.joinTail [32] (bytesW ws)).length = lenW ws := by
  induction ws with
  | nil => rfl
  | cons x t ih =>
    have e : Lib.joinTail [32] (bytesW (x :: t)) = [32] ++ (x.data.toList ++ Lib.joinTail [32] (bytesW t)) := by simp [Lib.joinTail, bytesW]
    rw [e, List.length_append, List.length_append, ih]
    simp [lenW]
    omega

theorem line_len (ws : List ByteArray) : (lineL [32] ws).length ≤ lenW ws := by
  unfold lineL
  cases ws with
  | nil => simp [bytesW, Lib.join_nil]
  | cons x t =>
    have e : bytesW (x :: t) = x.data.toList :: bytesW t := rfl
    rw [e, Lib.join_cons, List.length_append, joinTail_len]
    simp [lenW]

theorem itB_small {z : Int} (h0 : 0 ≤ z) (h1 : z ≤ 1000000) : (itB z).size ≤ 15 := by
  have h := (num_back h0 h1).1
  unfold numP madeP at h
  simp only [Bool.and_eq_true, decide_eq_true_eq] at h
  omega

theorem lenW_le {ws : List ByteArray} (h : ∀ s ∈ ws, s.size ≤ 256) : lenW ws ≤ 257 * ws.length := by
  induction ws with
  | nil => simp [lenW]
  | cons x t ih =>
    have := ih (fun s hs => h s (by simp [hs]))
    have hx := h x (by simp)
    have e : lenW (x :: t) = x.size + 1 + lenW t := by simp [lenW]
    rw [e, List.length_cons]
    omega

theorem words_small {n : Nd} (R : NdRight n) : ∀ s ∈ wordsW n, s.size ≤ 256 := by
  have hf := R.fits
  have hnm := R.named
  unfold namedP at hnm
  simp only [Bool.and_eq_true, Bool.or_eq_true, beq_iff_eq, bne_iff_ne] at hnm
  obtain ⟨⟨hn, ha⟩, ht⟩ := hnm
  have hdel : 0 ≤ n.delay ∧ n.delay ≤ 1000000 := by
    unfold fitsP at hf
    by_cases hd : (n.delay < 0 || n.delay > 1000000) = true
    · rw [if_pos hd] at hf; cases hf
    · simp at hd; exact ⟨hd.1, hd.2⟩
  have htr : n.kind = 1 → 0 ≤ n.tries ∧ n.tries ≤ 10 := by
    intro k1
    unfold fitsP at hf
    by_cases hd : (n.delay < 0 || n.delay > 1000000) = true
    · rw [if_pos hd] at hf; cases hf
    · rw [if_neg hd] at hf
      simp [k1] at hf
      omega
  have dw := itB_small hdel.1 hdel.2
  have lits : actB.size ≤ 256 ∧ timB.size ≤ 256 ∧ chiB.size ≤ 256 ∧ waiB.size ≤ 256 ∧ senB.size ≤ 256 ∧ triB.size ≤ 256 ∧ tmoB.size ≤ 256 ∧ aftB.size ≤ 256 := by decide
  obtain ⟨l1, l2, l3, l4, l5, l6, l7, l8⟩ := lits
  have nme : ∀ {s : ByteArray}, nameP s = true → s.size ≤ 256 := fun h => Nat.le_trans (name_small64 h) (by omega)
  intro s hs
  unfold wordsW at hs
  rw [List.mem_cons, List.mem_append] at hs
  rcases hs with rfl | hs | hs
  · exact nme hn
  · unfold kindW at hs
    by_cases k1 : n.kind = 1
    · have tw := itB_small (htr k1).1 (by have := (htr k1).2; omega)
      have harg : nameP n.arg = true := by rcases ha with h | h; · omega
                                           · exact h
      rw [if_pos k1] at hs
      simp only [List.cons_append, List.nil_append, List.mem_cons, List.mem_append] at hs
      rcases hs with rfl | rfl | hs | hs
      · exact l1
      · exact nme harg
      · split at hs
        · cases hs
        · simp only [List.mem_cons, List.not_mem_nil, or_false] at hs
          rcases hs with rfl | rfl
          · exact l6
          · omega
      · split at hs
        · cases hs
        · simp only [List.mem_cons, List.not_mem_nil, or_false] at hs
          rcases hs with rfl | rfl
          · exact l7
          · omega
    · rw [if_neg k1] at hs
      by_cases k2 : n.kind = 2
      · rw [if_pos k2] at hs
        simp only [List.mem_cons, List.not_mem_nil, or_false] at hs
        rcases hs with rfl | rfl
        · exact l2
        · omega
      · rw [if_neg k2] at hs
        have harg : nameP n.arg = true := by rcases ha with h | h; · exact absurd h k2
                                             · exact h
        by_cases k3 : n.kind = 3
        · rw [if_pos k3] at hs
          simp only [List.mem_cons, List.not_mem_nil, or_false] at hs
          rcases hs with rfl | rfl
          · exact l3
          · exact nme harg
        · rw [if_neg k3] at hs
          by_cases k4 : n.kind = 4
          · rw [if_pos k4] at hs
            simp only [List.mem_cons, List.not_mem_nil, or_false] at hs
            rcases hs with rfl | rfl
            · exact l4
            · exact nme harg
          · rw [if_neg k4] at hs
            by_cases k5 : n.kind = 5
            · rw [if_pos k5] at hs
              have hto : flowP n.to = true := by rcases ht with h | h; · exact absurd k5 h
                                                 · exact h
              simp only [List.mem_cons, List.not_mem_nil, or_false] at hs
              rcases hs with rfl | rfl | rfl
              · exact l5
              · exact flow_small256 hto
              · exact nme harg
            · rw [if_neg k5] at hs; cases hs
  · unfold aftW at hs
    split at hs
    · cases hs
    · rw [List.mem_cons] at hs
      rcases hs with rfl | hs
      · exact l8
      · exact nme (R.after s hs)

theorem words_few {n : Nd} (h : n.after.length ≤ 32) : (wordsW n).length ≤ 40 := by
  have h1 : (kindW n).length ≤ 6 := by
    unfold kindW
    repeat' split
    all_goals simp
  have h2 : (aftW n.after).length ≤ 33 := by
    unfold aftW
    split
    · simp
    · simp; omega
  unfold wordsW
  rw [List.length_cons, List.length_append]
  omega

/-- A node's line is short. -/
theorem node_line {n : Nd} (R : NdRight n) (h : n.after.length ≤ 32) : (lineL [32] (wordsW n)).length ≤ 10280 := by
  have h1 := line_len (wordsW n)
  have h2 := lenW_le (words_small R)
  have h3 := words_few h
  omega

/-- The text of the first nodes is not long. -/
theorem text_len {nm : ByteArray} (hnm : nameP nm = true) : ∀ (ns : List Nd), (∀ n ∈ ns, NdRight n ∧ n.after.length ≤ 32) → (textL [32] (linesW nm ns)).length ≤ 100 + 10281 * ns.length := by
  intro ns h
  have h0 : ∀ (ns : List Nd), (∀ n ∈ ns, NdRight n ∧ n.after.length ≤ 32) → (textL [32] (ns.map wordsW)).length ≤ 10281 * ns.length := by
    intro ns
    induction ns with
    | nil => intro _; simp [textL]
    | cons n t ih =>
      intro h
      have h1 := ih (fun x hx => h x (by simp [hx]))
      have h2 := node_line (h n (by simp)).1 (h n (by simp)).2
      rw [List.map_cons, textL_cons, List.length_append, List.length_cons, List.length_cons]
      omega
  have h1 := h0 ns h
  have h2 := line_len [wfB, nm]
  have h3 := name_small64 hnm
  have h4 : lenW [wfB, nm] = wfB.size + 1 + (nm.size + 1) := by simp [lenW]
  have h5 : wfB.size = 8 := rfl
  unfold linesW
  rw [textL_cons, List.length_append, List.length_cons]
  omega

theorem textL_snoc (sep : List UInt8) (ls : List (List ByteArray)) (ws : List ByteArray) : textL sep (ls ++ [ws]) = textL sep ls ++ (lineL sep ws ++ [10]) := by simp [textL]

theorem bytes_add (x y : ByteArray) : (x ++ y).data.toList = x.data.toList ++ y.data.toList := by
  rw [ByteArray.data_append]
  simp

theorem add_small {L : List UInt8} {J : ByteArray} (h : L.length ≤ 400000) (hJ : J.size ≤ 10280) : L.length + (J ++ ⟨#[10]⟩).size ≤ 100000000 := by
  rw [ByteArray.size_append]
  have : (⟨#[10]⟩ : ByteArray).size = 1 := rfl
  omega

set_option maxRecDepth 100000 in
set_option maxHeartbeats 4000000 in
theorem text_any (w : World) (name : ByteArray) (a : Option Addr) (n c : Nat) (ns : List Nd) (hN : NodesAt w a ns) (hl : ns.length = n) (T10 : Pow10 w) :
    Calls Tryd.prog 12 #[.agg #[.string name, .slice a n c]] w fun e w' => e = .returned (.string (textP name ns)) ∧ Kept (fun _ => False) w w' := by
  subst hl
  have K0 : Kept (fun _ => False) w (w.alloc (.cells #[.string name, .slice a ns.length c] 26)) := Kept.alloc _ _ _
  have hck := check_any (w.alloc (.cells #[.string name, .slice a ns.length c] 26)) name a ns.length c ns (hN.kept K0 (fun _ _ h => h)) rfl
  by_cases hc : (checkP name ns).2 = 0
  · obtain ⟨hnm, h32, h1, hns⟩ := check_right hc
    have hlen : ∀ k, k ≤ ns.length → (textL [32] (linesW name (ns.take k))).length ≤ 400000 := fun k hk => by
      have := text_len hnm (ns.take k) (fun x hx => hns x (List.mem_of_mem_take hx))
      rw [List.length_take] at this
      omega
    have hTP : textP name ns = mkB (textL [32] (linesW name ns)) := if_pos hc
    rw [hc] at hck
    generalize (checkP name ns).1 = y at *
    have HTP : Hid (textP name ns = mkB (textL [32] (linesW name ns))) := hTP
    have HLen : Hid (∀ k, k ≤ ns.length → (textL [32] (linesW name (ns.take k))).length ≤ 400000) := hlen
    have HNs : Hid (∀ n ∈ ns, NdRight n ∧ n.after.length ≤ 32) := hns
    have HN : Hid (NodesAt w a ns) := hN
    have HP : Hid (Pow10 w) := T10
    have hn64 := name_small64 hnm
    have hfirst : ((⟨#[119, 111, 114, 107, 102, 108, 111, 119, 32]⟩ : ByteArray) ++ name ++ ⟨#[10]⟩).data.toList = textL [32] (linesW name (ns.take 0)) := by
      rw [bytes_add, bytes_add]
      simp [textL, linesW, lineL, bytesW, Lib.join, List.intercalate, wfB]
    have HF : Hid (((⟨#[119, 111, 114, 107, 102, 108, 111, 119, 32]⟩ : ByteArray) ++ name ++ ⟨#[10]⟩).data.toList = textL [32] (linesW name (ns.take 0))) := hfirst
    have hsz0 : ((⟨#[119, 111, 114, 107, 102, 108, 111, 119, 32]⟩ : ByteArray) ++ name ++ ⟨#[10]⟩).size ≤ 100 := by
      rw [ByteArray.size_append, ByteArray.size_append]
      show 9 + name.size + 1 ≤ 100
      omega
    have HS0 : Hid (((⟨#[119, 111, 114, 107, 102, 108, 111, 119, 32]⟩ : ByteArray) ++ name ++ ⟨#[10]⟩).size ≤ 100) := hsz0
    clear hc hTP hlen hns hN T10 hfirst hsz0 hnm K0 h1
    go_enter Tryd.func12, Tryd.ntmps12
    go_wp2_with (first
      | (go_at_call 9; refine hck.mono ?_; rintro e w1 ⟨rfl, K1⟩; clear hck; have S : Hid (BSt w (w1.alloc (.cells #[.pointer none, .slice none 0 0] 56)) #[.string name, .slice a ns.length c] w1.heap.size []) := BSt.new K1; obtain ⟨d0, d1⟩ := S.out.cells)
      | (go_at_call 27; refine (write_any S.out _ (by have := HS0.out; simp only [List.length_nil]; omega)).mono ?_; rintro e w2 ⟨rfl, S2⟩; rw [List.nil_append, HF.out] at S2; clear S d0 d1; have S : Hid (BSt w w2 #[.string name, .slice a ns.length c] w1.heap.size (textL [32] (linesW name (ns.take 0)))) := S2; clear S2; obtain ⟨d0, d1⟩ := S.out.cells)
      | fail)
    go_loopw [23] (fun q wr => ∃ (k : Nat), k ≤ ns.length ∧ q = .int .i64 k ∧ BSt w wr #[.string name, .slice a ns.length c] w1.heap.size (textL [32] (linesW name (ns.take k)))) (fun q _ => ns.length - (intOf q).toNat)
    case atStart => exact ⟨0, Nat.zero_le _, rfl, S.out⟩
    case round =>
      obtain ⟨k, hk, rfl, S1⟩ := hrel
      clear S d0 d1
      by_cases hlt : k < ns.length
      · obtain ⟨b, o, av, cv, hae, hT, c0, c1, c2, c3, c4, c5, c6⟩ := (HN.out.kept S1.kept (fun _ _ h => h)).at hlt
        have R := HNs.out _ (List.getElem_mem hlt)
        have hok := HN.out.1 _ (List.getElem_mem hlt)
        have hlen := HLen.out k hk
        have hnx : textL [32] (linesW name (ns.take (k + 1))) = textL [32] (linesW name (ns.take k)) ++ (lineL [32] (wordsW ns[k]) ++ [10]) := by
          rw [← textL_snoc, take_snoc hlt]
          unfold linesW
          rw [List.map_append]
          rfl
        have hln := node_line R.1 R.2
        have hfw := words_few R.2
        have e0 : (k : Int) < (ns.length : Int) := by omega
        have hW := written_any (wr.alloc (.cells #[.string (ns[k]).name, .int .i64 (ns[k]).kind, .string (ns[k]).arg, .string (ns[k]).to, .int .i64 (ns[k]).delay, .int .i64 (ns[k]).tries, .slice av (ns[k]).after.length cv] 44)) ns[k] av cv (hT.kept (Kept.alloc (fun _ => False) _ _) (fun _ _ h => h)) hok.few (HP.out.kept (S1.kept.and (Kept.alloc _ _ _))) hok.delay hok.tries R.1
        have S : Hid (BSt w wr #[.string name, .slice a ns.length c] w1.heap.size (textL [32] (linesW name (ns.take k)))) := S1
        have HX : Hid (textL [32] (linesW name (ns.take (k + 1))) = textL [32] (linesW name (ns.take k)) ++ (lineL [32] (wordsW ns[k]) ++ [10])) := hnx
        clear S1 hnx hok R hT
        generalize ns[k] = x at *
        generalize hws : wordsW x = ws at *
        have hne : ws ≠ [] := by rw [← hws]; simp [wordsW]
        have hsz : (mkB (lineL [32] ws)).size ≤ 10280 := by rw [mkB_size]; exact hln
        have HL : Hid ((textL [32] (linesW name (ns.take k))).length ≤ 400000) := hlen
        have HLn : Hid ((lineL [32] ws).length ≤ 10280) := hln
        have HFw : Hid (ws.length ≤ 40) := hfw
        have HNe : Hid (ws ≠ []) := hne
        have hjm := mkB_list (lineL [32] ws)
        clear hws hne hlen hln hfw
        generalize hL : textL [32] (linesW name (ns.take k)) = L at *
        clear hL
        subst hae
        go_wp2_with (first
          | (go_at_call 29; refine hW.mono ?_; rintro e w3 ⟨aw, cw, rfl, ow, Kw⟩; have S3 : Hid (BSt w w3 #[.string name, .slice (some ⟨b, o, none⟩) ns.length c] w1.heap.size L) := S.out.call ((Kept.alloc _ _ _).and Kw); have hJ := join_any w3 ws aw cw _ HNe.out ow (Nat.le_trans HFw.out (by omega)) (Nat.le_trans HLn.out (by omega)); clear hW ow Kw S; generalize mkB (lineL [32] ws) = J at *; have HJm : Hid (J.data.toList = lineL [32] ws) := hjm; have HJs : Hid (J.size ≤ 10280) := hsz; clear hjm)
          | (go_at_call 28; refine hJ.mono ?_; rintro e w4 ⟨rfl, K4⟩; have S4 : Hid (BSt w w4 #[.string name, .slice (some ⟨b, o, none⟩) ns.length c] w1.heap.size L) := S3.out.call K4; clear hJ K4 S3)
          | (go_at_call 27; have hS2 := write_any S4.out (J ++ ⟨#[10]⟩) (add_small HL.out HJs.out); refine hS2.mono ?_; clear hS2; rintro e w5 ⟨rfl, S5⟩; rw [bytes_add, HJm.out] at S5; clear S4)
          | fail)
        go_roundw
        case rel =>
          refine ⟨k + 1, by omega, by go_num, ?_⟩
          rw [HX.out]
          exact S5
        case measure => simp [intOf]; omega
      · have hke : k = ns.length := by omega
        subst hke
        have e0 : ¬ (ns.length : Int) < (ns.length : Int) := by omega
        have S : Hid (BSt w wr #[.string name, .slice a ns.length c] w1.heap.size (textL [32] (linesW name (ns.take ns.length)))) := S1
        clear S1
        go_wp2_with (first
          | (go_at_call 30; refine (string_any S.out).mono ?_; rintro e w5 ⟨rfl, K5⟩)
          | fail)
        go_ret
        refine ⟨?_, K5⟩
        rw [HTP.out]
        rfl
  · have e1 : ((checkP name ns).2 != 0) = true := by simp [hc]
    have HT : Hid (textP name ns = ⟨#[]⟩) := if_neg hc
    generalize (checkP name ns).2 = z at *
    generalize (checkP name ns).1 = y at *
    clear hc hN T10
    go_enter Tryd.func12, Tryd.ntmps12
    go_wp2_with (first
      | (go_at_call 9; refine hck.mono ?_; rintro e w1 ⟨rfl, K1⟩; clear hck)
      | fail)
    go_ret
    exact ⟨by rw [HT.out]; rfl, K0.and K1⟩

end Go.Proofs.YtlholgpenpfpbaaDoor
