/-
  The regions of the laws' eqHomeS, eqLinkS, eqGramS, eqParkedS, eqStringSS that draw their order. No condition.
-/
import Derived.Test.YtfeodlbpnghakaaGreatDoorLinkM
import Derived.Test.YtfeodlbpnghakaaGreatDoorMRgM
set_option maxRecDepth 100000
set_option maxHeartbeats 6400000
namespace Go.Proofs.YtfeodlbpnghakaaGreatDoor
open Go.RowKit
theorem ZlY {U R M X S P T k p l q m s o I J H G v L u t y z:Value}{N:List Deferred}(b g c d n D C j:Nat)(cs ds:List Value)(w:World)(Q:Exit -> Act -> World -> Prop)(hj:j < n)(x:cs.length=12)(F:ds.length=12)(E:b < w.heap.size)(A:c < w.heap.size)(ra:w.rangeAt b (g+j * 12) cs)(rb:w.rangeAt c (d+j * 12) ds)(Z:∀ W,Below w.heap.size w W -> Calls Tryz.prog 64 #[.agg cs.toArray,.agg ds.toArray] W fun e i=>e=.returned (.bool true)/\Below W.heap.size W i)(Y:∀ u17 u18 u19 u20 u21 u22 u23 u24 u25 (W:World),Below w.heap.size w W -> Q .normal ⟨#[.slice (some ⟨b,g,none⟩) n D,.slice (some ⟨c,d,none⟩) n C,U,R,M,.int .i64 (j:Nat),X,S,P,T,k,p,l,q,m,s,o,u17,u18,u19,u20,u21,u22,u23,u24,u25,.bool false],N⟩ W) :
  (Code.region 6 (List.toArray (⟨some 17,.move (.tmp 0),45, "exact.go:1304", #[],none⟩ :: ⟨some 18,.move (.tmp 5),3, "exact.go:1304", #[],none⟩ :: ⟨some 19,.indexAddr 45 (.tmp 17) (.tmp 18),0, "exact.go:1304", #[⟨0,.data⟩,⟨1,.data⟩],none⟩ :: ⟨some 20,.load 66 (.tmp 19),66, "exact.go:1304", #[⟨2,.data⟩],none⟩ :: ⟨some 21,.move (.tmp 1),45, "exact.go:1304", #[],none⟩ :: ⟨some 22,.move (.tmp 5),3, "exact.go:1304", #[],none⟩ :: ⟨some 23,.indexAddr 45 (.tmp 21) (.tmp 22),0, "exact.go:1304", #[⟨4,.data⟩,⟨5,.data⟩],none⟩ :: ⟨some 24,.load 66 (.tmp 23),66, "exact.go:1304", #[⟨6,.data⟩],none⟩ :: ⟨some 25,.call { callee:=.value (.func 64),args:=#[.tmp 20,.tmp 24],argTypes:=#[66,66] },4, "exact.go:1304", #[⟨3,.data⟩,⟨7,.data⟩],none⟩ :: ⟨some 26,.unOp .not 4 (.tmp 25),4, "exact.go:1304", #[⟨8,.data⟩],none⟩ :: [])) true).wp Tryz.prog Q ⟨#[.slice (some ⟨b,g,none⟩) n D,.slice (some ⟨c,d,none⟩) n C,U,R,M,.int .i64 (j:Nat),X,S,P,T,k,p,l,q,m,s,o,I,J,H,G,v,L,u,t,y,z],N⟩ w:=by
 have O:∀ i,Below w.heap.size w i -> (i.rangeAt b (g+j * 12) cs/\i.rangeAt c (d+j * 12) ds):=fun i r=>⟨Zaf ra r E,Zaf rb r A⟩
 have aa:(j:Int) < (n:Int):=by omega
 have B:Below w.heap.size w w.drew:=Zaw w
 refine rg O B (by kernel_rfl) fun f=>?_
 refine tk 0 (.slice (some ⟨b,g,none⟩) n D) nz (by kernel_rfl) (Or.inl ⟨by rfl,by intro w a;go_simp⟩) ‹_› ?_
 simp only [Act.put,sit,sc0,scs]
 refine tk 1 (.int .i64 (j:Nat)) (n1 nz) (by kernel_rfl) (Or.inl ⟨by rfl,by intro w a;go_simp⟩) ‹_› ?_
 simp only [Act.put,sit,sc0,scs]
 refine tk 2 (.pointer (some ⟨b,g+j * 12,none⟩)) (n2 nz) (by kernel_rfl) (Or.inl ⟨by rfl,by intro w a;go_simp⟩) ‹_› ?_
 simp only [Act.put,sit,sc0,scs]
 refine tk 3 (.agg cs.toArray) (n2 (n1 nz)) (by kernel_rfl) (yieldsIf_load_mid (by rfl) 66 _ rfl b (g+j * 12) rfl cs _ (fun _ h=>h.1) Tryz.underlying66 rfl (by rw [x];exact Zm4)) ‹_› ?_
 simp only [Act.put,sit,sc0,scs]
 refine tk 4 (.slice (some ⟨c,d,none⟩) n C) (n4 nz) (by kernel_rfl) (Or.inl ⟨by rfl,by intro w a;go_simp⟩) ‹_› ?_
 simp only [Act.put,sit,sc0,scs]
 refine tk 5 (.int .i64 (j:Nat)) (n4 (n1 nz)) (by kernel_rfl) (Or.inl ⟨by rfl,by intro w a;go_simp⟩) ‹_› ?_
 simp only [Act.put,sit,sc0,scs]
 refine tk 6 (.pointer (some ⟨c,d+j * 12,none⟩)) (n4 (n2 nz)) (by kernel_rfl) (Or.inl ⟨by rfl,by intro w a;go_simp⟩) ‹_› ?_
 simp only [Act.put,sit,sc0,scs]
 refine tk 7 (.agg ds.toArray) (n4 (n2 (n1 nz))) (by kernel_rfl) (yieldsIf_load_mid (by rfl) 66 _ rfl c (d+j * 12) rfl ds _ (fun _ h=>h.2) Tryz.underlying66 rfl (by rw [F];exact Zm4)) ‹_› ?_
 simp only [Act.put,sit,sc0,scs]
 refine wpAnyH_ready (rs:=[8]) (by kernel_rfl) (by simp) ?_
 refine AllReadyH.cons rfl (fun K V=>?_) AllReadyH.nil
 go_simp
 go_wp2_with (go_at_call 64;with_reducible refine (Z _ B).mono ?_;rintro e wE ⟨rfl,r⟩)
 replace B:=B.trans (r.mono B.size)
 clear r
 refine V.out _ _ (O _ B) (fun f=>?_)
 clear V
 refine tk 9 (.bool false) (n8 (n1 nz)) (by kernel_rfl) (Or.inl ⟨by rfl,by intro w a;go_simp⟩) ‹_› ?_
 simp only [Act.put,sit,sc0,scs]
 refine wpAnyH_done (by kernel_rfl) ?_ _
 exact NoPanic.normal (Y _ _ _ _ _ _ _ _ _ _ B)
theorem Zme {U R M X S P T k p l q m s o I J H G v L u t y z:Value}{N:List Deferred}(b g c d n D C j:Nat)(cs ds:List Value)(w:World)(Q:Exit -> Act -> World -> Prop)(hj:j < n)(x:cs.length=5)(F:ds.length=5)(E:b < w.heap.size)(A:c < w.heap.size)(ra:w.rangeAt b (g+j * 5) cs)(rb:w.rangeAt c (d+j * 5) ds)(Z:∀ W,Below w.heap.size w W -> Calls Tryz.prog 65 #[.agg cs.toArray,.agg ds.toArray] W fun e i=>e=.returned (.bool true)/\Below W.heap.size W i)(Y:∀ u17 u18 u19 u20 u21 u22 u23 u24 u25 (W:World),Below w.heap.size w W -> Q .normal ⟨#[.slice (some ⟨b,g,none⟩) n D,.slice (some ⟨c,d,none⟩) n C,U,R,M,.int .i64 (j:Nat),X,S,P,T,k,p,l,q,m,s,o,u17,u18,u19,u20,u21,u22,u23,u24,u25,.bool false],N⟩ W) :
  (Code.region 6 (List.toArray (⟨some 17,.move (.tmp 0),46, "exact.go:1316", #[],none⟩ :: ⟨some 18,.move (.tmp 5),3, "exact.go:1316", #[],none⟩ :: ⟨some 19,.indexAddr 46 (.tmp 17) (.tmp 18),0, "exact.go:1316", #[⟨0,.data⟩,⟨1,.data⟩],none⟩ :: ⟨some 20,.load 70 (.tmp 19),70, "exact.go:1316", #[⟨2,.data⟩],none⟩ :: ⟨some 21,.move (.tmp 1),46, "exact.go:1316", #[],none⟩ :: ⟨some 22,.move (.tmp 5),3, "exact.go:1316", #[],none⟩ :: ⟨some 23,.indexAddr 46 (.tmp 21) (.tmp 22),0, "exact.go:1316", #[⟨4,.data⟩,⟨5,.data⟩],none⟩ :: ⟨some 24,.load 70 (.tmp 23),70, "exact.go:1316", #[⟨6,.data⟩],none⟩ :: ⟨some 25,.call { callee:=.value (.func 65),args:=#[.tmp 20,.tmp 24],argTypes:=#[70,70] },4, "exact.go:1316", #[⟨3,.data⟩,⟨7,.data⟩],none⟩ :: ⟨some 26,.unOp .not 4 (.tmp 25),4, "exact.go:1316", #[⟨8,.data⟩],none⟩ :: [])) true).wp Tryz.prog Q ⟨#[.slice (some ⟨b,g,none⟩) n D,.slice (some ⟨c,d,none⟩) n C,U,R,M,.int .i64 (j:Nat),X,S,P,T,k,p,l,q,m,s,o,I,J,H,G,v,L,u,t,y,z],N⟩ w:=by
 have O:∀ i,Below w.heap.size w i -> (i.rangeAt b (g+j * 5) cs/\i.rangeAt c (d+j * 5) ds):=fun i r=>⟨Zaf ra r E,Zaf rb r A⟩
 have aa:(j:Int) < (n:Int):=by omega
 have B:Below w.heap.size w w.drew:=Zaw w
 refine rg O B (by kernel_rfl) fun f=>?_
 refine tk 0 (.slice (some ⟨b,g,none⟩) n D) nz (by kernel_rfl) (Or.inl ⟨by rfl,by intro w a;go_simp⟩) ‹_› ?_
 simp only [Act.put,sit,sc0,scs]
 refine tk 1 (.int .i64 (j:Nat)) (n1 nz) (by kernel_rfl) (Or.inl ⟨by rfl,by intro w a;go_simp⟩) ‹_› ?_
 simp only [Act.put,sit,sc0,scs]
 refine tk 2 (.pointer (some ⟨b,g+j * 5,none⟩)) (n2 nz) (by kernel_rfl) (Or.inl ⟨by rfl,by intro w a;go_simp⟩) ‹_› ?_
 simp only [Act.put,sit,sc0,scs]
 refine tk 3 (.agg cs.toArray) (n2 (n1 nz)) (by kernel_rfl) (yieldsIf_load_mid (by rfl) 70 _ rfl b (g+j * 5) rfl cs _ (fun _ h=>h.1) Tryz.underlying70 rfl (by rw [x];exact Zng)) ‹_› ?_
 simp only [Act.put,sit,sc0,scs]
 refine tk 4 (.slice (some ⟨c,d,none⟩) n C) (n4 nz) (by kernel_rfl) (Or.inl ⟨by rfl,by intro w a;go_simp⟩) ‹_› ?_
 simp only [Act.put,sit,sc0,scs]
 refine tk 5 (.int .i64 (j:Nat)) (n4 (n1 nz)) (by kernel_rfl) (Or.inl ⟨by rfl,by intro w a;go_simp⟩) ‹_› ?_
 simp only [Act.put,sit,sc0,scs]
 refine tk 6 (.pointer (some ⟨c,d+j * 5,none⟩)) (n4 (n2 nz)) (by kernel_rfl) (Or.inl ⟨by rfl,by intro w a;go_simp⟩) ‹_› ?_
 simp only [Act.put,sit,sc0,scs]
 refine tk 7 (.agg ds.toArray) (n4 (n2 (n1 nz))) (by kernel_rfl) (yieldsIf_load_mid (by rfl) 70 _ rfl c (d+j * 5) rfl ds _ (fun _ h=>h.2) Tryz.underlying70 rfl (by rw [F];exact Zng)) ‹_› ?_
 simp only [Act.put,sit,sc0,scs]
 refine wpAnyH_ready (rs:=[8]) (by kernel_rfl) (by simp) ?_
 refine AllReadyH.cons rfl (fun K V=>?_) AllReadyH.nil
 go_simp
 go_wp2_with (go_at_call 65;with_reducible refine (Z _ B).mono ?_;rintro e wE ⟨rfl,r⟩)
 replace B:=B.trans (r.mono B.size)
 clear r
 refine V.out _ _ (O _ B) (fun f=>?_)
 clear V
 refine tk 9 (.bool false) (n8 (n1 nz)) (by kernel_rfl) (Or.inl ⟨by rfl,by intro w a;go_simp⟩) ‹_› ?_
 simp only [Act.put,sit,sc0,scs]
 refine wpAnyH_done (by kernel_rfl) ?_ _
 exact NoPanic.normal (Y _ _ _ _ _ _ _ _ _ _ B)
theorem Zmd {U R M X S P T k p l q m s o I J H G v L u t y z:Value}{N:List Deferred}(b g c d n D C j:Nat)(cs ds:List Value)(w:World)(Q:Exit -> Act -> World -> Prop)(hj:j < n)(x:cs.length=5)(F:ds.length=5)(E:b < w.heap.size)(A:c < w.heap.size)(ra:w.rangeAt b (g+j * 5) cs)(rb:w.rangeAt c (d+j * 5) ds)(Z:∀ W,Below w.heap.size w W -> Calls Tryz.prog 66 #[.agg cs.toArray,.agg ds.toArray] W fun e i=>e=.returned (.bool true)/\Below W.heap.size W i)(Y:∀ u17 u18 u19 u20 u21 u22 u23 u24 u25 (W:World),Below w.heap.size w W -> Q .normal ⟨#[.slice (some ⟨b,g,none⟩) n D,.slice (some ⟨c,d,none⟩) n C,U,R,M,.int .i64 (j:Nat),X,S,P,T,k,p,l,q,m,s,o,u17,u18,u19,u20,u21,u22,u23,u24,u25,.bool false],N⟩ W) :
  (Code.region 6 (List.toArray (⟨some 17,.move (.tmp 0),47, "exact.go:1344", #[],none⟩ :: ⟨some 18,.move (.tmp 5),3, "exact.go:1344", #[],none⟩ :: ⟨some 19,.indexAddr 47 (.tmp 17) (.tmp 18),0, "exact.go:1344", #[⟨0,.data⟩,⟨1,.data⟩],none⟩ :: ⟨some 20,.load 122 (.tmp 19),122, "exact.go:1344", #[⟨2,.data⟩],none⟩ :: ⟨some 21,.move (.tmp 1),47, "exact.go:1344", #[],none⟩ :: ⟨some 22,.move (.tmp 5),3, "exact.go:1344", #[],none⟩ :: ⟨some 23,.indexAddr 47 (.tmp 21) (.tmp 22),0, "exact.go:1344", #[⟨4,.data⟩,⟨5,.data⟩],none⟩ :: ⟨some 24,.load 122 (.tmp 23),122, "exact.go:1344", #[⟨6,.data⟩],none⟩ :: ⟨some 25,.call { callee:=.value (.func 66),args:=#[.tmp 20,.tmp 24],argTypes:=#[122,122] },4, "exact.go:1344", #[⟨3,.data⟩,⟨7,.data⟩],none⟩ :: ⟨some 26,.unOp .not 4 (.tmp 25),4, "exact.go:1344", #[⟨8,.data⟩],none⟩ :: [])) true).wp Tryz.prog Q ⟨#[.slice (some ⟨b,g,none⟩) n D,.slice (some ⟨c,d,none⟩) n C,U,R,M,.int .i64 (j:Nat),X,S,P,T,k,p,l,q,m,s,o,I,J,H,G,v,L,u,t,y,z],N⟩ w:=by
 have O:∀ i,Below w.heap.size w i -> (i.rangeAt b (g+j * 5) cs/\i.rangeAt c (d+j * 5) ds):=fun i r=>⟨Zaf ra r E,Zaf rb r A⟩
 have aa:(j:Int) < (n:Int):=by omega
 have B:Below w.heap.size w w.drew:=Zaw w
 refine rg O B (by kernel_rfl) fun f=>?_
 refine tk 0 (.slice (some ⟨b,g,none⟩) n D) nz (by kernel_rfl) (Or.inl ⟨by rfl,by intro w a;go_simp⟩) ‹_› ?_
 simp only [Act.put,sit,sc0,scs]
 refine tk 1 (.int .i64 (j:Nat)) (n1 nz) (by kernel_rfl) (Or.inl ⟨by rfl,by intro w a;go_simp⟩) ‹_› ?_
 simp only [Act.put,sit,sc0,scs]
 refine tk 2 (.pointer (some ⟨b,g+j * 5,none⟩)) (n2 nz) (by kernel_rfl) (Or.inl ⟨by rfl,by intro w a;go_simp⟩) ‹_› ?_
 simp only [Act.put,sit,sc0,scs]
 refine tk 3 (.agg cs.toArray) (n2 (n1 nz)) (by kernel_rfl) (yieldsIf_load_mid (by rfl) 122 _ rfl b (g+j * 5) rfl cs _ (fun _ h=>h.1) Tryz.underlying122 rfl (by rw [x];exact Znb)) ‹_› ?_
 simp only [Act.put,sit,sc0,scs]
 refine tk 4 (.slice (some ⟨c,d,none⟩) n C) (n4 nz) (by kernel_rfl) (Or.inl ⟨by rfl,by intro w a;go_simp⟩) ‹_› ?_
 simp only [Act.put,sit,sc0,scs]
 refine tk 5 (.int .i64 (j:Nat)) (n4 (n1 nz)) (by kernel_rfl) (Or.inl ⟨by rfl,by intro w a;go_simp⟩) ‹_› ?_
 simp only [Act.put,sit,sc0,scs]
 refine tk 6 (.pointer (some ⟨c,d+j * 5,none⟩)) (n4 (n2 nz)) (by kernel_rfl) (Or.inl ⟨by rfl,by intro w a;go_simp⟩) ‹_› ?_
 simp only [Act.put,sit,sc0,scs]
 refine tk 7 (.agg ds.toArray) (n4 (n2 (n1 nz))) (by kernel_rfl) (yieldsIf_load_mid (by rfl) 122 _ rfl c (d+j * 5) rfl ds _ (fun _ h=>h.2) Tryz.underlying122 rfl (by rw [F];exact Znb)) ‹_› ?_
 simp only [Act.put,sit,sc0,scs]
 refine wpAnyH_ready (rs:=[8]) (by kernel_rfl) (by simp) ?_
 refine AllReadyH.cons rfl (fun K V=>?_) AllReadyH.nil
 go_simp
 go_wp2_with (go_at_call 66;with_reducible refine (Z _ B).mono ?_;rintro e wE ⟨rfl,r⟩)
 replace B:=B.trans (r.mono B.size)
 clear r
 refine V.out _ _ (O _ B) (fun f=>?_)
 clear V
 refine tk 9 (.bool false) (n8 (n1 nz)) (by kernel_rfl) (Or.inl ⟨by rfl,by intro w a;go_simp⟩) ‹_› ?_
 simp only [Act.put,sit,sc0,scs]
 refine wpAnyH_done (by kernel_rfl) ?_ _
 exact NoPanic.normal (Y _ _ _ _ _ _ _ _ _ _ B)
theorem Zl1 {U R M X S P T k p l q m s o I J H G v L u t y z:Value}{N:List Deferred}(b g c d n D C j:Nat)(cs ds:List Value)(w:World)(Q:Exit -> Act -> World -> Prop)(hj:j < n)(x:cs.length=3)(F:ds.length=3)(E:b < w.heap.size)(A:c < w.heap.size)(ra:w.rangeAt b (g+j * 3) cs)(rb:w.rangeAt c (d+j * 3) ds)(Z:∀ W,Below w.heap.size w W -> Calls Tryz.prog 67 #[.agg cs.toArray,.agg ds.toArray] W fun e i=>e=.returned (.bool true)/\Below W.heap.size W i)(Y:∀ u17 u18 u19 u20 u21 u22 u23 u24 u25 (W:World),Below w.heap.size w W -> Q .normal ⟨#[.slice (some ⟨b,g,none⟩) n D,.slice (some ⟨c,d,none⟩) n C,U,R,M,.int .i64 (j:Nat),X,S,P,T,k,p,l,q,m,s,o,u17,u18,u19,u20,u21,u22,u23,u24,u25,.bool false],N⟩ W) :
  (Code.region 6 (List.toArray (⟨some 17,.move (.tmp 0),48, "exact.go:1369", #[],none⟩ :: ⟨some 18,.move (.tmp 5),3, "exact.go:1369", #[],none⟩ :: ⟨some 19,.indexAddr 48 (.tmp 17) (.tmp 18),0, "exact.go:1369", #[⟨0,.data⟩,⟨1,.data⟩],none⟩ :: ⟨some 20,.load 124 (.tmp 19),124, "exact.go:1369", #[⟨2,.data⟩],none⟩ :: ⟨some 21,.move (.tmp 1),48, "exact.go:1369", #[],none⟩ :: ⟨some 22,.move (.tmp 5),3, "exact.go:1369", #[],none⟩ :: ⟨some 23,.indexAddr 48 (.tmp 21) (.tmp 22),0, "exact.go:1369", #[⟨4,.data⟩,⟨5,.data⟩],none⟩ :: ⟨some 24,.load 124 (.tmp 23),124, "exact.go:1369", #[⟨6,.data⟩],none⟩ :: ⟨some 25,.call { callee:=.value (.func 67),args:=#[.tmp 20,.tmp 24],argTypes:=#[124,124] },4, "exact.go:1369", #[⟨3,.data⟩,⟨7,.data⟩],none⟩ :: ⟨some 26,.unOp .not 4 (.tmp 25),4, "exact.go:1369", #[⟨8,.data⟩],none⟩ :: [])) true).wp Tryz.prog Q ⟨#[.slice (some ⟨b,g,none⟩) n D,.slice (some ⟨c,d,none⟩) n C,U,R,M,.int .i64 (j:Nat),X,S,P,T,k,p,l,q,m,s,o,I,J,H,G,v,L,u,t,y,z],N⟩ w:=by
 have O:∀ i,Below w.heap.size w i -> (i.rangeAt b (g+j * 3) cs/\i.rangeAt c (d+j * 3) ds):=fun i r=>⟨Zaf ra r E,Zaf rb r A⟩
 have aa:(j:Int) < (n:Int):=by omega
 have B:Below w.heap.size w w.drew:=Zaw w
 refine rg O B (by kernel_rfl) fun f=>?_
 refine tk 0 (.slice (some ⟨b,g,none⟩) n D) nz (by kernel_rfl) (Or.inl ⟨by rfl,by intro w a;go_simp⟩) ‹_› ?_
 simp only [Act.put,sit,sc0,scs]
 refine tk 1 (.int .i64 (j:Nat)) (n1 nz) (by kernel_rfl) (Or.inl ⟨by rfl,by intro w a;go_simp⟩) ‹_› ?_
 simp only [Act.put,sit,sc0,scs]
 refine tk 2 (.pointer (some ⟨b,g+j * 3,none⟩)) (n2 nz) (by kernel_rfl) (Or.inl ⟨by rfl,by intro w a;go_simp⟩) ‹_› ?_
 simp only [Act.put,sit,sc0,scs]
 refine tk 3 (.agg cs.toArray) (n2 (n1 nz)) (by kernel_rfl) (yieldsIf_load_mid (by rfl) 124 _ rfl b (g+j * 3) rfl cs _ (fun _ h=>h.1) Tryz.underlying124 rfl (by rw [x];exact Zm7)) ‹_› ?_
 simp only [Act.put,sit,sc0,scs]
 refine tk 4 (.slice (some ⟨c,d,none⟩) n C) (n4 nz) (by kernel_rfl) (Or.inl ⟨by rfl,by intro w a;go_simp⟩) ‹_› ?_
 simp only [Act.put,sit,sc0,scs]
 refine tk 5 (.int .i64 (j:Nat)) (n4 (n1 nz)) (by kernel_rfl) (Or.inl ⟨by rfl,by intro w a;go_simp⟩) ‹_› ?_
 simp only [Act.put,sit,sc0,scs]
 refine tk 6 (.pointer (some ⟨c,d+j * 3,none⟩)) (n4 (n2 nz)) (by kernel_rfl) (Or.inl ⟨by rfl,by intro w a;go_simp⟩) ‹_› ?_
 simp only [Act.put,sit,sc0,scs]
 refine tk 7 (.agg ds.toArray) (n4 (n2 (n1 nz))) (by kernel_rfl) (yieldsIf_load_mid (by rfl) 124 _ rfl c (d+j * 3) rfl ds _ (fun _ h=>h.2) Tryz.underlying124 rfl (by rw [F];exact Zm7)) ‹_› ?_
 simp only [Act.put,sit,sc0,scs]
 refine wpAnyH_ready (rs:=[8]) (by kernel_rfl) (by simp) ?_
 refine AllReadyH.cons rfl (fun K V=>?_) AllReadyH.nil
 go_simp
 go_wp2_with (go_at_call 67;with_reducible refine (Z _ B).mono ?_;rintro e wE ⟨rfl,r⟩)
 replace B:=B.trans (r.mono B.size)
 clear r
 refine V.out _ _ (O _ B) (fun f=>?_)
 clear V
 refine tk 9 (.bool false) (n8 (n1 nz)) (by kernel_rfl) (Or.inl ⟨by rfl,by intro w a;go_simp⟩) ‹_› ?_
 simp only [Act.put,sit,sc0,scs]
 refine wpAnyH_done (by kernel_rfl) ?_ _
 exact NoPanic.normal (Y _ _ _ _ _ _ _ _ _ _ B)
theorem Zl8 {U R M X S P T k q l r m t o I J H G y L x v z A:Value}{N:List Deferred}(b i d g n E D j:Nat)(u vb:Value)(w:World)(Q:Exit -> Act -> World -> Prop)(hj:j < n)(F:b < w.heap.size)(C:d < w.heap.size)(ra:w.cell? ⟨b,i+j,none⟩=some u)(rb:w.cell? ⟨d,g+j,none⟩=some vb)(HC:∀ W,Below w.heap.size w W -> Calls Tryz.prog 68 #[u,vb] W fun e f=>e=.returned (.bool true)/\Below W.heap.size W f)(Y:∀ u17 u18 u19 u20 u21 u22 u23 u24 u25 (W:World),Below w.heap.size w W -> Q .normal ⟨#[.slice (some ⟨b,i,none⟩) n E,.slice (some ⟨d,g,none⟩) n D,U,R,M,.int .i64 (j:Nat),X,S,P,T,k,q,l,r,m,t,o,u17,u18,u19,u20,u21,u22,u23,u24,u25,.bool false],N⟩ W) :
  (Code.region 6 (List.toArray (⟨some 17,.move (.tmp 0),33, "exact.go:1381", #[],none⟩ :: ⟨some 18,.move (.tmp 5),3, "exact.go:1381", #[],none⟩ :: ⟨some 19,.indexAddr 33 (.tmp 17) (.tmp 18),0, "exact.go:1381", #[⟨0,.data⟩,⟨1,.data⟩],none⟩ :: ⟨some 20,.load 62 (.tmp 19),62, "exact.go:1381", #[⟨2,.data⟩],none⟩ :: ⟨some 21,.move (.tmp 1),33, "exact.go:1381", #[],none⟩ :: ⟨some 22,.move (.tmp 5),3, "exact.go:1381", #[],none⟩ :: ⟨some 23,.indexAddr 33 (.tmp 21) (.tmp 22),0, "exact.go:1381", #[⟨4,.data⟩,⟨5,.data⟩],none⟩ :: ⟨some 24,.load 62 (.tmp 23),62, "exact.go:1381", #[⟨6,.data⟩],none⟩ :: ⟨some 25,.call { callee:=.value (.func 68),args:=#[.tmp 20,.tmp 24],argTypes:=#[62,62] },4, "exact.go:1381", #[⟨3,.data⟩,⟨7,.data⟩],none⟩ :: ⟨some 26,.unOp .not 4 (.tmp 25),4, "exact.go:1381", #[⟨8,.data⟩],none⟩ :: [])) true).wp Tryz.prog Q ⟨#[.slice (some ⟨b,i,none⟩) n E,.slice (some ⟨d,g,none⟩) n D,U,R,M,.int .i64 (j:Nat),X,S,P,T,k,q,l,r,m,t,o,I,J,H,G,y,L,x,v,z,A],N⟩ w:=by
 have O:∀ f,Below w.heap.size w f -> (f.cell? ⟨b,i+j,none⟩=some u/\f.cell? ⟨d,g+j,none⟩=some vb):=fun f s=>⟨(s.cell (p:=⟨b,i+j,none⟩) F).trans ra,(s.cell (p:=⟨d,g+j,none⟩) C).trans rb⟩
 have Z:(j:Int) < (n:Int):=by omega
 have B:Below w.heap.size w w.drew:=Zaw w
 refine rg O B (by kernel_rfl) fun h=>?_
 refine tk 0 (.slice (some ⟨b,i,none⟩) n E) nz (by kernel_rfl) (Or.inl ⟨by rfl,by intro w a;go_simp⟩) ‹_› ?_
 simp only [Act.put,sit,sc0,scs]
 refine tk 1 (.int .i64 (j:Nat)) (n1 nz) (by kernel_rfl) (Or.inl ⟨by rfl,by intro w a;go_simp⟩) ‹_› ?_
 simp only [Act.put,sit,sc0,scs]
 refine tk 2 (.pointer (some ⟨b,i+j,none⟩)) (n2 nz) (by kernel_rfl) (Or.inl ⟨by rfl,by intro w a;go_simp⟩) ‹_› ?_
 simp only [Act.put,sit,sc0,scs]
 refine tk 3 (u) (n2 (n1 nz)) (by kernel_rfl) (Or.inl ⟨by rfl,by intro f a;have c:=a.1;go_simp⟩) ‹_› ?_
 simp only [Act.put,sit,sc0,scs]
 refine tk 4 (.slice (some ⟨d,g,none⟩) n D) (n4 nz) (by kernel_rfl) (Or.inl ⟨by rfl,by intro w a;go_simp⟩) ‹_› ?_
 simp only [Act.put,sit,sc0,scs]
 refine tk 5 (.int .i64 (j:Nat)) (n4 (n1 nz)) (by kernel_rfl) (Or.inl ⟨by rfl,by intro w a;go_simp⟩) ‹_› ?_
 simp only [Act.put,sit,sc0,scs]
 refine tk 6 (.pointer (some ⟨d,g+j,none⟩)) (n4 (n2 nz)) (by kernel_rfl) (Or.inl ⟨by rfl,by intro w a;go_simp⟩) ‹_› ?_
 simp only [Act.put,sit,sc0,scs]
 refine tk 7 (vb) (n4 (n2 (n1 nz))) (by kernel_rfl) (Or.inl ⟨by rfl,by intro f a;have c:=a.2;go_simp⟩) ‹_› ?_
 simp only [Act.put,sit,sc0,scs]
 refine wpAnyH_ready (rs:=[8]) (by kernel_rfl) (by simp) ?_
 refine AllReadyH.cons rfl (fun K V=>?_) AllReadyH.nil
 go_simp
 go_wp2_with (go_at_call 68;with_reducible refine (HC _ B).mono ?_;rintro e wE ⟨rfl,s⟩)
 replace B:=B.trans (s.mono B.size)
 clear s
 refine V.out _ _ (O _ B) (fun h=>?_)
 clear V
 refine tk 9 (.bool false) (n8 (n1 nz)) (by kernel_rfl) (Or.inl ⟨by rfl,by intro w a;go_simp⟩) ‹_› ?_
 simp only [Act.put,sit,sc0,scs]
 refine wpAnyH_done (by kernel_rfl) ?_ _
 exact NoPanic.normal (Y _ _ _ _ _ _ _ _ _ _ B)
end Go.Proofs.YtfeodlbpnghakaaGreatDoor
