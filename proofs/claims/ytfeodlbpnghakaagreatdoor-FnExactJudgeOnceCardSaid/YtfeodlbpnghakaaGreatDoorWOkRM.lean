/-
  The regions of impl's linksFit and of spec's l13Homes, l13Links, l13Grams that draw their order. No condition.
-/
import Derived.Test.YtfeodlbpnghakaaGreatDoorWOkMM
import Derived.Test.YtfeodlbpnghakaaGreatDoorMRgM
set_option maxRecDepth 100000
set_option maxHeartbeats 6400000
namespace Go.Proofs.YtfeodlbpnghakaaGreatDoor
open Go.RowKit
abbrev opr7:List Oper:=⟨some 38,.load 70 (.tmp 5),70, "l13_world.go:199", #[],none⟩ :: ⟨some 39,.call { callee:=.value (.func 128),args:=#[.tmp 38],argTypes:=#[70] },4, "l13_world.go:199", #[⟨0,.data⟩],none⟩ :: ⟨some 40,.unOp .not 4 (.tmp 39),4, "l13_world.go:199", #[⟨1,.data⟩],none⟩ :: ⟨some 41,.move (.tmp 40),4, "l13_world.go:199", #[⟨2,.data⟩,⟨1,.chain⟩],none⟩ :: ⟨some 42,.fieldAddr 50 (.tmp 1) 7,0, "l13_world.go:199", #[⟨3,.guard⟩],some (3,false)⟩ :: ⟨some 43,.load 33 (.tmp 42),33, "l13_world.go:199", #[⟨4,.data⟩,⟨3,.guard⟩],some (3,false)⟩ :: ⟨some 44,.move (.tmp 4),3, "l13_world.go:199", #[⟨3,.guard⟩],some (3,false)⟩ :: ⟨some 45,.indexAddr 33 (.tmp 43) (.tmp 44),0, "l13_world.go:199", #[⟨5,.data⟩,⟨6,.data⟩,⟨3,.guard⟩],some (3,false)⟩ :: ⟨some 46,.load 62 (.tmp 45),62, "l13_world.go:199", #[⟨7,.data⟩,⟨3,.guard⟩],some (3,false)⟩ :: ⟨some 47,.call { callee:=.builtin .len,args:=#[.tmp 46],argTypes:=#[62] },3, "l13_world.go:199", #[⟨8,.data⟩,⟨3,.guard⟩],some (3,false)⟩ :: ⟨some 48,.fieldAddr 70 (.tmp 5) 0,0, "l13_world.go:199", #[⟨3,.guard⟩],some (3,false)⟩ :: ⟨some 49,.load 3 (.tmp 48),3, "l13_world.go:199", #[⟨10,.data⟩,⟨3,.guard⟩],some (3,false)⟩ :: ⟨some 50,.binOp .neq 3 (.tmp 47) (.tmp 49) 3,4, "l13_world.go:199", #[⟨9,.data⟩,⟨11,.data⟩,⟨3,.guard⟩],some (3,false)⟩ :: ⟨some 51,.pick (.tmp 41) (.const (.bool true)) (.tmp 50),4, "l13_world.go:199", #[⟨3,.data⟩,⟨12,.data⟩],none⟩ :: ⟨some 52,.move (.tmp 51),4, "l13_world.go:199", #[⟨13,.data⟩,⟨3,.chain⟩],none⟩ :: ⟨some 53,.fieldAddr 50 (.tmp 1) 8,0, "l13_world.go:199", #[⟨14,.guard⟩],some (14,false)⟩ :: ⟨some 54,.load 33 (.tmp 53),33, "l13_world.go:199", #[⟨15,.data⟩,⟨14,.guard⟩],some (14,false)⟩ :: ⟨some 55,.move (.tmp 4),3, "l13_world.go:199", #[⟨14,.guard⟩],some (14,false)⟩ :: ⟨some 56,.indexAddr 33 (.tmp 54) (.tmp 55),0, "l13_world.go:199", #[⟨16,.data⟩,⟨17,.data⟩,⟨14,.guard⟩],some (14,false)⟩ :: ⟨some 57,.load 62 (.tmp 56),62, "l13_world.go:199", #[⟨18,.data⟩,⟨14,.guard⟩],some (14,false)⟩ :: ⟨some 58,.call { callee:=.builtin .len,args:=#[.tmp 57],argTypes:=#[62] },3, "l13_world.go:199", #[⟨19,.data⟩,⟨14,.guard⟩],some (14,false)⟩ :: ⟨some 59,.fieldAddr 70 (.tmp 5) 3,0, "l13_world.go:199", #[⟨14,.guard⟩],some (14,false)⟩ :: ⟨some 60,.load 3 (.tmp 59),3, "l13_world.go:199", #[⟨21,.data⟩,⟨14,.guard⟩],some (14,false)⟩ :: ⟨some 61,.binOp .neq 3 (.tmp 58) (.tmp 60) 3,4, "l13_world.go:199", #[⟨20,.data⟩,⟨22,.data⟩,⟨14,.guard⟩],some (14,false)⟩ :: ⟨some 62,.pick (.tmp 52) (.const (.bool true)) (.tmp 61),4, "l13_world.go:199", #[⟨14,.data⟩,⟨23,.data⟩],none⟩ :: []
theorem ZlG {t0 t2 t3 t6 t7 t8 t9 j I P V af A G X C v u Y an m M n R ai ae o S J L s ak N ag U aH az av aF aD aC ar aI aG aA ax aK au aB aL aq aP ay ao aM aE aJ aN aO aQ T:Value}{fs:List Deferred}(b0 D g y i ot:Nat)(k la lt:Nat)(pa pt:Option Addr)(qa qt:Nat)(x ab O z aa Z aj:Option Addr)(E q ac am t al ad ah r:Nat)(d:Wd)(l:Lk)(F H:Value)(w:World)(Q:Exit -> Act -> World -> Prop)(hx:w.heap[b0]? = some (.cells #[.slice x d.ns.length E,.slice ab d.is.length q,.slice O d.ds.length ac,.int .i64 d.pl,.slice z d.hs.length am,.slice aa d.ls.length t,.slice Z d.gs.length al,.slice aj d.ps.length ad,.int .i64 d.nx,.slice (some ⟨g,y,none⟩) d.ga.length ah,.slice (some ⟨i,ot,none⟩) d.tk.length r] 50 (0,0)))(hl:w.heap[D]? = some (.cells #[.int .i64 l.sent,.int .i64 l.acked,F,.int .i64 l.got,H] 70 (0,0)))(ap:g < w.heap.size)(aw:i < w.heap.size)(ha:w.cell? ⟨g,y+k,none⟩=some (.slice pa la qa))(ht:w.cell? ⟨i,ot+k,none⟩=some (.slice pt lt qt))(aR:k < d.ga.length)(aU:k < d.tk.length)(HC:∀ W,Below w.heap.size w W -> Calls Tryz.prog 128 #[.agg #[.int .i64 l.sent,.int .i64 l.acked,F,.int .i64 l.got,H]] W fun e b=>e=.returned (.bool false)/\Below W.heap.size W b)(hQ:∀ u38 u39 u40 u41 u42 u43 u44 u45 u46 u47 u48 u49 u50 u51 u52 u53 u54 u55 u56 u57 u58 u59 u60 u61 (W:World),Below w.heap.size w W -> Q .normal ⟨#[t0,.pointer (some ⟨b0,0,none⟩),t2,t3,.int .i64 (k:Nat),.pointer (some ⟨D,0,none⟩),t6,t7,t8,t9,j,I,P,V,af,A,G,X,C,v,u,Y,an,m,M,n,R,ai,ae,o,S,J,L,s,ak,N,ag,U,u38,u39,u40,u41,u42,u43,u44,u45,u46,u47,u48,u49,u50,u51,u52,u53,u54,u55,u56,u57,u58,u59,u60,u61,.bool true,T],fs⟩ W) :
  (Code.region 7 opr7.toArray true).wp Tryz.prog Q ⟨#[t0,.pointer (some ⟨b0,0,none⟩),t2,t3,.int .i64 (k:Nat),.pointer (some ⟨D,0,none⟩),t6,t7,t8,t9,j,I,P,V,af,A,G,X,C,v,u,Y,an,m,M,n,R,ai,ae,o,S,J,L,s,ak,N,ag,U,aH,az,av,aF,aD,aC,ar,aI,aG,aA,ax,aK,au,aB,aL,aq,aP,ay,ao,aM,aE,aJ,aN,aO,aQ,T],fs⟩ w:=by
 have hS:∀ b,Below w.heap.size w b -> (b.heap[b0]? = some (.cells #[.slice x d.ns.length E,.slice ab d.is.length q,.slice O d.ds.length ac,.int .i64 d.pl,.slice z d.hs.length am,.slice aa d.ls.length t,.slice Z d.gs.length al,.slice aj d.ps.length ad,.int .i64 d.nx,.slice (some ⟨g,y,none⟩) d.ga.length ah,.slice (some ⟨i,ot,none⟩) d.tk.length r] 50 (0,0))/\b.heap[D]? = some (.cells #[.int .i64 l.sent,.int .i64 l.acked,F,.int .i64 l.got,H] 70 (0,0))/\b.cell? ⟨g,y+k,none⟩=some (.slice pa la qa)/\b.cell? ⟨i,ot+k,none⟩=some (.slice pt lt qt)):=fun b c=>⟨Zae hx c,Zae hl c,(c.cell (p:=⟨g,y+k,none⟩) ap).trans ha,(c.cell (p:=⟨i,ot+k,none⟩) aw).trans ht⟩
 have aS:(k:Int) < (d.ga.length:Int):=by omega
 have aT:(k:Int) < (d.tk.length:Int):=by omega
 have B:Below w.heap.size w w.drew:=Zaw w
 refine rg hS B (by kernel_rfl) fun f=>?_
 refine tk 0 (.agg #[.int .i64 l.sent,.int .i64 l.acked,F,.int .i64 l.got,H]) nz (by kernel_rfl) (ZaI (by rfl) 70 _ rfl D rfl #[.int .i64 l.sent,.int .i64 l.acked,F,.int .i64 l.got,H] 70 _ (fun _ h=>h.2.1) Tryz.underlying70 rfl Zng) ‹_› ?_
 simp only [Act.put,sit,sc0,scs]
 refine wpAnyH_ready (rs:=[1]) (by kernel_rfl) (by simp) ?_
 refine AllReadyH.cons rfl (fun K hK=>?_) AllReadyH.nil
 go_simp
 go_wp2_with (go_at_call 128;with_reducible refine (HC _ B).mono ?_;rintro e wE ⟨rfl,c⟩)
 replace B:=B.trans (c.mono B.size)
 clear c
 refine hK.out _ _ (hS _ B) (fun f=>?_)
 clear hK
 refine tk 2 (.bool true) (n2 nz) (by kernel_rfl) (Or.inl ⟨by rfl,by intro w a;go_simp⟩) ‹_› ?_
 simp only [Act.put,sit,sc0,scs]
 refine tk 3 (.bool true) (n2 (n1 nz)) (by kernel_rfl) (Or.inl ⟨by rfl,by intro w a;go_simp⟩) ‹_› ?_
 simp only [Act.put,sit,sc0,scs]
 refine tk 4 (undef) (n4 nz) (by kernel_rfl) (Or.inr ⟨by rfl,rfl⟩) ‹_› ?_
 simp only [Act.put,sit,sc0,scs]
 refine tk 5 (undef) (n4 (n1 nz)) (by kernel_rfl) (Or.inr ⟨by rfl,rfl⟩) ‹_› ?_
 simp only [Act.put,sit,sc0,scs]
 refine tk 6 (undef) (n4 (n2 nz)) (by kernel_rfl) (Or.inr ⟨by rfl,rfl⟩) ‹_› ?_
 simp only [Act.put,sit,sc0,scs]
 refine tk 7 (undef) (n4 (n2 (n1 nz))) (by kernel_rfl) (Or.inr ⟨by rfl,rfl⟩) ‹_› ?_
 simp only [Act.put,sit,sc0,scs]
 refine tk 8 (undef) (n8 nz) (by kernel_rfl) (Or.inr ⟨by rfl,rfl⟩) ‹_› ?_
 simp only [Act.put,sit,sc0,scs]
 refine tk 9 (undef) (n8 (n1 nz)) (by kernel_rfl) (Or.inr ⟨by rfl,rfl⟩) ‹_› ?_
 simp only [Act.put,sit,sc0,scs]
 refine tk 10 (undef) (n8 (n2 nz)) (by kernel_rfl) (Or.inr ⟨by rfl,rfl⟩) ‹_› ?_
 simp only [Act.put,sit,sc0,scs]
 refine tk 11 (undef) (n8 (n2 (n1 nz))) (by kernel_rfl) (Or.inr ⟨by rfl,rfl⟩) ‹_› ?_
 simp only [Act.put,sit,sc0,scs]
 refine tk 12 (undef) (n8 (n4 nz)) (by kernel_rfl) (Or.inr ⟨by rfl,rfl⟩) ‹_› ?_
 simp only [Act.put,sit,sc0,scs]
 refine tk 13 (.bool true) (n8 (n4 (n1 nz))) (by kernel_rfl) (Or.inl ⟨by rfl,by intro w a;go_simp⟩) ‹_› ?_
 simp only [Act.put,sit,sc0,scs]
 refine tk 14 (.bool true) (n8 (n4 (n2 nz))) (by kernel_rfl) (Or.inl ⟨by rfl,by intro w a;go_simp⟩) ‹_› ?_
 simp only [Act.put,sit,sc0,scs]
 refine tk 15 (undef) (n8 (n4 (n2 (n1 nz)))) (by kernel_rfl) (Or.inr ⟨by rfl,rfl⟩) ‹_› ?_
 simp only [Act.put,sit,sc0,scs]
 refine tk 16 (undef) (n8 (n8 nz)) (by kernel_rfl) (Or.inr ⟨by rfl,rfl⟩) ‹_› ?_
 simp only [Act.put,sit,sc0,scs]
 refine tk 17 (undef) (n8 (n8 (n1 nz))) (by kernel_rfl) (Or.inr ⟨by rfl,rfl⟩) ‹_› ?_
 simp only [Act.put,sit,sc0,scs]
 refine tk 18 (undef) (n8 (n8 (n2 nz))) (by kernel_rfl) (Or.inr ⟨by rfl,rfl⟩) ‹_› ?_
 simp only [Act.put,sit,sc0,scs]
 refine tk 19 (undef) (n8 (n8 (n2 (n1 nz)))) (by kernel_rfl) (Or.inr ⟨by rfl,rfl⟩) ‹_› ?_
 simp only [Act.put,sit,sc0,scs]
 refine tk 20 (undef) (n8 (n8 (n4 nz))) (by kernel_rfl) (Or.inr ⟨by rfl,rfl⟩) ‹_› ?_
 simp only [Act.put,sit,sc0,scs]
 refine tk 21 (undef) (n8 (n8 (n4 (n1 nz)))) (by kernel_rfl) (Or.inr ⟨by rfl,rfl⟩) ‹_› ?_
 simp only [Act.put,sit,sc0,scs]
 refine tk 22 (undef) (n8 (n8 (n4 (n2 nz)))) (by kernel_rfl) (Or.inr ⟨by rfl,rfl⟩) ‹_› ?_
 simp only [Act.put,sit,sc0,scs]
 refine tk 23 (undef) (n8 (n8 (n4 (n2 (n1 nz))))) (by kernel_rfl) (Or.inr ⟨by rfl,rfl⟩) ‹_› ?_
 simp only [Act.put,sit,sc0,scs]
 refine tk 24 (.bool true) (n8 (n8 (n8 nz))) (by kernel_rfl) (Or.inl ⟨by rfl,by intro w a;go_simp⟩) ‹_› ?_
 simp only [Act.put,sit,sc0,scs]
 refine wpAnyH_done (by kernel_rfl) ?_ _
 exact NoPanic.normal (hQ _ _ _ _ _ _ _ _ _ _ _ _ _ _ _ _ _ _ _ _ _ _ _ _ _ B)
theorem Zlt {t0 t2 t3 t6 t7 t8 t9 r M U aa aj F J ab G C A ac aq s P t V al ai u X N O y an R ak Z aK aC ay aI aG aF aw aL aJ aD aA aN ax aE aO av aS aB ar aP aH aM aQ aR aT Y:Value}{fs:List Deferred}(q i f g o ot:Nat)(k S lt:Nat)(pa pt:Option Addr)(qa qt:Nat)(D af T E ae ad am:Option Addr)(H v ag ap z ao ah n x:Nat)(d:Wd)(l:Lk)(I L:Value)(w:World)(Q:Exit -> Act -> World -> Prop)(hx:w.heap[q]? = some (.cells #[.slice D d.ns.length H,.slice af d.is.length v,.slice T d.ds.length ag,.int .i64 d.pl,.slice E d.hs.length ap,.slice ae d.ls.length z,.slice ad d.gs.length ao,.slice am d.ps.length ah,.int .i64 d.nx,.slice (some ⟨f,g,none⟩) d.ga.length n,.slice (some ⟨o,ot,none⟩) d.tk.length x] 50 (0,0)))(hl:w.heap[i]? = some (.cells #[.int .i64 l.sent,.int .i64 l.acked,I,.int .i64 l.got,L] 70 (0,0)))(au:f < w.heap.size)(az:o < w.heap.size)(ha:w.cell? ⟨f,g+k,none⟩=some (.slice pa S qa))(ht:w.cell? ⟨o,ot+k,none⟩=some (.slice pt lt qt))(aU:k < d.ga.length)(aX:k < d.tk.length)(HC:∀ W,Below w.heap.size w W -> Calls Tryz.prog 128 #[.agg #[.int .i64 l.sent,.int .i64 l.acked,I,.int .i64 l.got,L]] W fun e b=>e=.returned (.bool true)/\Below W.heap.size W b)(e1:((S:Int) != l.sent)=true)(hQ:∀ u38 u39 u40 u41 u42 u43 u44 u45 u46 u47 u48 u49 u50 u51 u52 u53 u54 u55 u56 u57 u58 u59 u60 u61 (W:World),Below w.heap.size w W -> Q .normal ⟨#[t0,.pointer (some ⟨q,0,none⟩),t2,t3,.int .i64 (k:Nat),.pointer (some ⟨i,0,none⟩),t6,t7,t8,t9,r,M,U,aa,aj,F,J,ab,G,C,A,ac,aq,s,P,t,V,al,ai,u,X,N,O,y,an,R,ak,Z,u38,u39,u40,u41,u42,u43,u44,u45,u46,u47,u48,u49,u50,u51,u52,u53,u54,u55,u56,u57,u58,u59,u60,u61,.bool true,Y],fs⟩ W) :
  (Code.region 7 opr7.toArray true).wp Tryz.prog Q ⟨#[t0,.pointer (some ⟨q,0,none⟩),t2,t3,.int .i64 (k:Nat),.pointer (some ⟨i,0,none⟩),t6,t7,t8,t9,r,M,U,aa,aj,F,J,ab,G,C,A,ac,aq,s,P,t,V,al,ai,u,X,N,O,y,an,R,ak,Z,aK,aC,ay,aI,aG,aF,aw,aL,aJ,aD,aA,aN,ax,aE,aO,av,aS,aB,ar,aP,aH,aM,aQ,aR,aT,Y],fs⟩ w:=by
 have hS:∀ b,Below w.heap.size w b -> (b.heap[q]? = some (.cells #[.slice D d.ns.length H,.slice af d.is.length v,.slice T d.ds.length ag,.int .i64 d.pl,.slice E d.hs.length ap,.slice ae d.ls.length z,.slice ad d.gs.length ao,.slice am d.ps.length ah,.int .i64 d.nx,.slice (some ⟨f,g,none⟩) d.ga.length n,.slice (some ⟨o,ot,none⟩) d.tk.length x] 50 (0,0))/\b.heap[i]? = some (.cells #[.int .i64 l.sent,.int .i64 l.acked,I,.int .i64 l.got,L] 70 (0,0))/\b.cell? ⟨f,g+k,none⟩=some (.slice pa S qa)/\b.cell? ⟨o,ot+k,none⟩=some (.slice pt lt qt)):=fun b j=>⟨Zae hx j,Zae hl j,(j.cell (p:=⟨f,g+k,none⟩) au).trans ha,(j.cell (p:=⟨o,ot+k,none⟩) az).trans ht⟩
 have aV:(k:Int) < (d.ga.length:Int):=by omega
 have aW:(k:Int) < (d.tk.length:Int):=by omega
 have B:Below w.heap.size w w.drew:=Zaw w
 refine rg hS B (by kernel_rfl) fun m=>?_
 refine tk 0 (.agg #[.int .i64 l.sent,.int .i64 l.acked,I,.int .i64 l.got,L]) nz (by kernel_rfl) (ZaI (by rfl) 70 _ rfl i rfl #[.int .i64 l.sent,.int .i64 l.acked,I,.int .i64 l.got,L] 70 _ (fun _ h=>h.2.1) Tryz.underlying70 rfl Zng) ‹_› ?_
 simp only [Act.put,sit,sc0,scs]
 refine wpAnyH_ready (rs:=[1]) (by kernel_rfl) (by simp) ?_
 refine AllReadyH.cons rfl (fun K hK=>?_) AllReadyH.nil
 go_simp
 go_wp2_with (go_at_call 128;with_reducible refine (HC _ B).mono ?_;rintro e wE ⟨rfl,j⟩)
 replace B:=B.trans (j.mono B.size)
 clear j
 refine hK.out _ _ (hS _ B) (fun m=>?_)
 clear hK
 refine tk 2 (.bool false) (n2 nz) (by kernel_rfl) (Or.inl ⟨by rfl,by intro w a;go_simp⟩) ‹_› ?_
 simp only [Act.put,sit,sc0,scs]
 refine tk 3 (.bool false) (n2 (n1 nz)) (by kernel_rfl) (Or.inl ⟨by rfl,by intro w a;go_simp⟩) ‹_› ?_
 simp only [Act.put,sit,sc0,scs]
 refine tk 4 (.pointer (some ⟨q,9,none⟩)) (n4 nz) (by kernel_rfl) (Or.inl ⟨by rfl,by intro w a;go_simp⟩) ‹_› ?_
 simp only [Act.put,sit,sc0,scs]
 refine tk 5 (.slice (some ⟨f,g,none⟩) d.ga.length n) (n4 (n1 nz)) (by kernel_rfl) (Or.inl ⟨by rfl,by intro b a;have c:=cell_of_row b (q) 9 _ _ _ a.1;go_simp⟩) ‹_› ?_
 simp only [Act.put,sit,sc0,scs]
 refine tk 6 (.int .i64 (k:Nat)) (n4 (n2 nz)) (by kernel_rfl) (Or.inl ⟨by rfl,by intro w a;go_simp⟩) ‹_› ?_
 simp only [Act.put,sit,sc0,scs]
 refine tk 7 (.pointer (some ⟨f,g+k,none⟩)) (n4 (n2 (n1 nz))) (by kernel_rfl) (Or.inl ⟨by rfl,by intro w a;go_simp⟩) ‹_› ?_
 simp only [Act.put,sit,sc0,scs]
 refine tk 8 (.slice pa S qa) (n8 nz) (by kernel_rfl) (Or.inl ⟨by rfl,by intro b a;have c:=a.2.2.1;go_simp⟩) ‹_› ?_
 simp only [Act.put,sit,sc0,scs]
 refine tk 9 (.int .i64 (S:Nat)) (n8 (n1 nz)) (by kernel_rfl) (Or.inl ⟨by rfl,by intro w a;go_simp⟩) ‹_› ?_
 simp only [Act.put,sit,sc0,scs]
 refine tk 10 (.pointer (some ⟨i,0,none⟩)) (n8 (n2 nz)) (by kernel_rfl) (Or.inl ⟨by rfl,by intro w a;go_simp⟩) ‹_› ?_
 simp only [Act.put,sit,sc0,scs]
 refine tk 11 (.int .i64 l.sent) (n8 (n2 (n1 nz))) (by kernel_rfl) (Or.inl ⟨by rfl,by intro b a;have c:=cell_of_row b (i) 0 _ _ _ a.2.1;go_simp⟩) ‹_› ?_
 simp only [Act.put,sit,sc0,scs]
 refine tk 12 (.bool true) (n8 (n4 nz)) (by kernel_rfl) (Or.inl ⟨by rfl,by intro b a;first | (go_simp;done) | (go_simp;exact e1) | (go_simp;simp [e1])⟩) ‹_› ?_
 simp only [Act.put,sit,sc0,scs]
 refine tk 13 (.bool true) (n8 (n4 (n1 nz))) (by kernel_rfl) (Or.inl ⟨by rfl,by intro w a;go_simp⟩) ‹_› ?_
 simp only [Act.put,sit,sc0,scs]
 refine tk 14 (.bool true) (n8 (n4 (n2 nz))) (by kernel_rfl) (Or.inl ⟨by rfl,by intro w a;go_simp⟩) ‹_› ?_
 simp only [Act.put,sit,sc0,scs]
 refine tk 15 (undef) (n8 (n4 (n2 (n1 nz)))) (by kernel_rfl) (Or.inr ⟨by rfl,rfl⟩) ‹_› ?_
 simp only [Act.put,sit,sc0,scs]
 refine tk 16 (undef) (n8 (n8 nz)) (by kernel_rfl) (Or.inr ⟨by rfl,rfl⟩) ‹_› ?_
 simp only [Act.put,sit,sc0,scs]
 refine tk 17 (undef) (n8 (n8 (n1 nz))) (by kernel_rfl) (Or.inr ⟨by rfl,rfl⟩) ‹_› ?_
 simp only [Act.put,sit,sc0,scs]
 refine tk 18 (undef) (n8 (n8 (n2 nz))) (by kernel_rfl) (Or.inr ⟨by rfl,rfl⟩) ‹_› ?_
 simp only [Act.put,sit,sc0,scs]
 refine tk 19 (undef) (n8 (n8 (n2 (n1 nz)))) (by kernel_rfl) (Or.inr ⟨by rfl,rfl⟩) ‹_› ?_
 simp only [Act.put,sit,sc0,scs]
 refine tk 20 (undef) (n8 (n8 (n4 nz))) (by kernel_rfl) (Or.inr ⟨by rfl,rfl⟩) ‹_› ?_
 simp only [Act.put,sit,sc0,scs]
 refine tk 21 (undef) (n8 (n8 (n4 (n1 nz)))) (by kernel_rfl) (Or.inr ⟨by rfl,rfl⟩) ‹_› ?_
 simp only [Act.put,sit,sc0,scs]
 refine tk 22 (undef) (n8 (n8 (n4 (n2 nz)))) (by kernel_rfl) (Or.inr ⟨by rfl,rfl⟩) ‹_› ?_
 simp only [Act.put,sit,sc0,scs]
 refine tk 23 (undef) (n8 (n8 (n4 (n2 (n1 nz))))) (by kernel_rfl) (Or.inr ⟨by rfl,rfl⟩) ‹_› ?_
 simp only [Act.put,sit,sc0,scs]
 refine tk 24 (.bool true) (n8 (n8 (n8 nz))) (by kernel_rfl) (Or.inl ⟨by rfl,by intro w a;go_simp⟩) ‹_› ?_
 simp only [Act.put,sit,sc0,scs]
 refine wpAnyH_done (by kernel_rfl) ?_ _
 exact NoPanic.normal (hQ _ _ _ _ _ _ _ _ _ _ _ _ _ _ _ _ _ _ _ _ _ _ _ _ _ B)
theorem Zjv {t0 t2 t3 t6 t7 t8 t9 t N V ab ak G L ac H D C ad ar u R v X am aj x Y O P z ao S al aa aL aD az aJ aH aG ax aM aK aE aB aO ay aF aP aw aT aC au aQ aI aN aR aS aU Z:Value}{fs:List Deferred}(j f g n i q:Nat)(k T lt:Nat)(pa pt:Option Addr)(qa qt:Nat)(E ag U F af ae an:Option Addr)(I y ah aq A ap ai s m:Nat)(d:Wd)(l:Lk)(J M:Value)(w:World)(Q:Exit -> Act -> World -> Prop)(hx:w.heap[j]? = some (.cells #[.slice E d.ns.length I,.slice ag d.is.length y,.slice U d.ds.length ah,.int .i64 d.pl,.slice F d.hs.length aq,.slice af d.ls.length A,.slice ae d.gs.length ap,.slice an d.ps.length ai,.int .i64 d.nx,.slice (some ⟨g,n,none⟩) d.ga.length s,.slice (some ⟨i,q,none⟩) d.tk.length m] 50 (0,0)))(hl:w.heap[f]? = some (.cells #[.int .i64 l.sent,.int .i64 l.acked,J,.int .i64 l.got,M] 70 (0,0)))(av:g < w.heap.size)(aA:i < w.heap.size)(ha:w.cell? ⟨g,n+k,none⟩=some (.slice pa T qa))(ht:w.cell? ⟨i,q+k,none⟩=some (.slice pt lt qt))(aV:k < d.ga.length)(aY:k < d.tk.length)(HC:∀ W,Below w.heap.size w W -> Calls Tryz.prog 128 #[.agg #[.int .i64 l.sent,.int .i64 l.acked,J,.int .i64 l.got,M]] W fun e b=>e=.returned (.bool true)/\Below W.heap.size W b)(c2:Bool)(e1:((T:Int) != l.sent)=false)(e2:((lt:Int) != l.got)=c2)(hQ:∀ u38 u39 u40 u41 u42 u43 u44 u45 u46 u47 u48 u49 u50 u51 u52 u53 u54 u55 u56 u57 u58 u59 u60 u61 (W:World),Below w.heap.size w W -> Q .normal ⟨#[t0,.pointer (some ⟨j,0,none⟩),t2,t3,.int .i64 (k:Nat),.pointer (some ⟨f,0,none⟩),t6,t7,t8,t9,t,N,V,ab,ak,G,L,ac,H,D,C,ad,ar,u,R,v,X,am,aj,x,Y,O,P,z,ao,S,al,aa,u38,u39,u40,u41,u42,u43,u44,u45,u46,u47,u48,u49,u50,u51,u52,u53,u54,u55,u56,u57,u58,u59,u60,u61,.bool c2,Z],fs⟩ W) :
  (Code.region 7 opr7.toArray true).wp Tryz.prog Q ⟨#[t0,.pointer (some ⟨j,0,none⟩),t2,t3,.int .i64 (k:Nat),.pointer (some ⟨f,0,none⟩),t6,t7,t8,t9,t,N,V,ab,ak,G,L,ac,H,D,C,ad,ar,u,R,v,X,am,aj,x,Y,O,P,z,ao,S,al,aa,aL,aD,az,aJ,aH,aG,ax,aM,aK,aE,aB,aO,ay,aF,aP,aw,aT,aC,au,aQ,aI,aN,aR,aS,aU,Z],fs⟩ w:=by
 have hS:∀ b,Below w.heap.size w b -> (b.heap[j]? = some (.cells #[.slice E d.ns.length I,.slice ag d.is.length y,.slice U d.ds.length ah,.int .i64 d.pl,.slice F d.hs.length aq,.slice af d.ls.length A,.slice ae d.gs.length ap,.slice an d.ps.length ai,.int .i64 d.nx,.slice (some ⟨g,n,none⟩) d.ga.length s,.slice (some ⟨i,q,none⟩) d.tk.length m] 50 (0,0))/\b.heap[f]? = some (.cells #[.int .i64 l.sent,.int .i64 l.acked,J,.int .i64 l.got,M] 70 (0,0))/\b.cell? ⟨g,n+k,none⟩=some (.slice pa T qa)/\b.cell? ⟨i,q+k,none⟩=some (.slice pt lt qt)):=fun b o=>⟨Zae hx o,Zae hl o,(o.cell (p:=⟨g,n+k,none⟩) av).trans ha,(o.cell (p:=⟨i,q+k,none⟩) aA).trans ht⟩
 have aW:(k:Int) < (d.ga.length:Int):=by omega
 have aX:(k:Int) < (d.tk.length:Int):=by omega
 have B:Below w.heap.size w w.drew:=Zaw w
 refine rg hS B (by kernel_rfl) fun r=>?_
 refine tk 0 (.agg #[.int .i64 l.sent,.int .i64 l.acked,J,.int .i64 l.got,M]) nz (by kernel_rfl) (ZaI (by rfl) 70 _ rfl f rfl #[.int .i64 l.sent,.int .i64 l.acked,J,.int .i64 l.got,M] 70 _ (fun _ h=>h.2.1) Tryz.underlying70 rfl Zng) ‹_› ?_
 simp only [Act.put,sit,sc0,scs]
 refine wpAnyH_ready (rs:=[1]) (by kernel_rfl) (by simp) ?_
 refine AllReadyH.cons rfl (fun K hK=>?_) AllReadyH.nil
 go_simp
 go_wp2_with (go_at_call 128;with_reducible refine (HC _ B).mono ?_;rintro e wE ⟨rfl,o⟩)
 replace B:=B.trans (o.mono B.size)
 clear o
 refine hK.out _ _ (hS _ B) (fun r=>?_)
 clear hK
 refine tk 2 (.bool false) (n2 nz) (by kernel_rfl) (Or.inl ⟨by rfl,by intro w a;go_simp⟩) ‹_› ?_
 simp only [Act.put,sit,sc0,scs]
 refine tk 3 (.bool false) (n2 (n1 nz)) (by kernel_rfl) (Or.inl ⟨by rfl,by intro w a;go_simp⟩) ‹_› ?_
 simp only [Act.put,sit,sc0,scs]
 refine tk 4 (.pointer (some ⟨j,9,none⟩)) (n4 nz) (by kernel_rfl) (Or.inl ⟨by rfl,by intro w a;go_simp⟩) ‹_› ?_
 simp only [Act.put,sit,sc0,scs]
 refine tk 5 (.slice (some ⟨g,n,none⟩) d.ga.length s) (n4 (n1 nz)) (by kernel_rfl) (Or.inl ⟨by rfl,by intro b a;have c:=cell_of_row b (j) 9 _ _ _ a.1;go_simp⟩) ‹_› ?_
 simp only [Act.put,sit,sc0,scs]
 refine tk 6 (.int .i64 (k:Nat)) (n4 (n2 nz)) (by kernel_rfl) (Or.inl ⟨by rfl,by intro w a;go_simp⟩) ‹_› ?_
 simp only [Act.put,sit,sc0,scs]
 refine tk 7 (.pointer (some ⟨g,n+k,none⟩)) (n4 (n2 (n1 nz))) (by kernel_rfl) (Or.inl ⟨by rfl,by intro w a;go_simp⟩) ‹_› ?_
 simp only [Act.put,sit,sc0,scs]
 refine tk 8 (.slice pa T qa) (n8 nz) (by kernel_rfl) (Or.inl ⟨by rfl,by intro b a;have c:=a.2.2.1;go_simp⟩) ‹_› ?_
 simp only [Act.put,sit,sc0,scs]
 refine tk 9 (.int .i64 (T:Nat)) (n8 (n1 nz)) (by kernel_rfl) (Or.inl ⟨by rfl,by intro w a;go_simp⟩) ‹_› ?_
 simp only [Act.put,sit,sc0,scs]
 refine tk 10 (.pointer (some ⟨f,0,none⟩)) (n8 (n2 nz)) (by kernel_rfl) (Or.inl ⟨by rfl,by intro w a;go_simp⟩) ‹_› ?_
 simp only [Act.put,sit,sc0,scs]
 refine tk 11 (.int .i64 l.sent) (n8 (n2 (n1 nz))) (by kernel_rfl) (Or.inl ⟨by rfl,by intro b a;have c:=cell_of_row b (f) 0 _ _ _ a.2.1;go_simp⟩) ‹_› ?_
 simp only [Act.put,sit,sc0,scs]
 refine tk 12 (.bool false) (n8 (n4 nz)) (by kernel_rfl) (Or.inl ⟨by rfl,by intro b a;first | (go_simp;done) | (go_simp;exact e1) | (go_simp;simp [e1])⟩) ‹_› ?_
 simp only [Act.put,sit,sc0,scs]
 refine tk 13 (.bool false) (n8 (n4 (n1 nz))) (by kernel_rfl) (Or.inl ⟨by rfl,by intro w a;go_simp⟩) ‹_› ?_
 simp only [Act.put,sit,sc0,scs]
 refine tk 14 (.bool false) (n8 (n4 (n2 nz))) (by kernel_rfl) (Or.inl ⟨by rfl,by intro w a;go_simp⟩) ‹_› ?_
 simp only [Act.put,sit,sc0,scs]
 refine tk 15 (.pointer (some ⟨j,10,none⟩)) (n8 (n4 (n2 (n1 nz)))) (by kernel_rfl) (Or.inl ⟨by rfl,by intro w a;go_simp⟩) ‹_› ?_
 simp only [Act.put,sit,sc0,scs]
 refine tk 16 (.slice (some ⟨i,q,none⟩) d.tk.length m) (n8 (n8 nz)) (by kernel_rfl) (Or.inl ⟨by rfl,by intro b a;have c:=cell_of_row b (j) 10 _ _ _ a.1;go_simp⟩) ‹_› ?_
 simp only [Act.put,sit,sc0,scs]
 refine tk 17 (.int .i64 (k:Nat)) (n8 (n8 (n1 nz))) (by kernel_rfl) (Or.inl ⟨by rfl,by intro w a;go_simp⟩) ‹_› ?_
 simp only [Act.put,sit,sc0,scs]
 refine tk 18 (.pointer (some ⟨i,q+k,none⟩)) (n8 (n8 (n2 nz))) (by kernel_rfl) (Or.inl ⟨by rfl,by intro w a;go_simp⟩) ‹_› ?_
 simp only [Act.put,sit,sc0,scs]
 refine tk 19 (.slice pt lt qt) (n8 (n8 (n2 (n1 nz)))) (by kernel_rfl) (Or.inl ⟨by rfl,by intro b a;have c:=a.2.2.2;go_simp⟩) ‹_› ?_
 simp only [Act.put,sit,sc0,scs]
 refine tk 20 (.int .i64 (lt:Nat)) (n8 (n8 (n4 nz))) (by kernel_rfl) (Or.inl ⟨by rfl,by intro w a;go_simp⟩) ‹_› ?_
 simp only [Act.put,sit,sc0,scs]
 refine tk 21 (.pointer (some ⟨f,3,none⟩)) (n8 (n8 (n4 (n1 nz)))) (by kernel_rfl) (Or.inl ⟨by rfl,by intro w a;go_simp⟩) ‹_› ?_
 simp only [Act.put,sit,sc0,scs]
 refine tk 22 (.int .i64 l.got) (n8 (n8 (n4 (n2 nz)))) (by kernel_rfl) (Or.inl ⟨by rfl,by intro b a;have c:=cell_of_row b (f) 3 _ _ _ a.2.1;go_simp⟩) ‹_› ?_
 simp only [Act.put,sit,sc0,scs]
 refine tk 23 (.bool c2) (n8 (n8 (n4 (n2 (n1 nz))))) (by kernel_rfl) (Or.inl ⟨by rfl,by intro b a;first | (go_simp;done) | (go_simp;exact e2) | (go_simp;simp [e2])⟩) ‹_› ?_
 simp only [Act.put,sit,sc0,scs]
 refine tk 24 (.bool c2) (n8 (n8 (n8 nz))) (by kernel_rfl) (Or.inl ⟨by rfl,by intro w a;go_simp⟩) ‹_› ?_
 simp only [Act.put,sit,sc0,scs]
 refine wpAnyH_done (by kernel_rfl) ?_ _
 exact NoPanic.normal (hQ _ _ _ _ _ _ _ _ _ _ _ _ _ _ _ _ _ _ _ _ _ _ _ _ _ B)
abbrev opr6:List Oper:=⟨some 34,.fieldAddr 50 (.tmp 1) 3,0, "l13_world.go:43", #[],none⟩ :: ⟨some 35,.load 46 (.tmp 34),46, "l13_world.go:43", #[⟨0,.data⟩],none⟩ :: ⟨some 36,.move (.tmp 4),3, "l13_world.go:43", #[],none⟩ :: ⟨some 37,.indexAddr 46 (.tmp 35) (.tmp 36),0, "l13_world.go:43", #[⟨1,.data⟩,⟨2,.data⟩],none⟩ :: ⟨some 38,.load 70 (.tmp 37),70, "l13_world.go:43", #[⟨3,.data⟩],none⟩ :: ⟨some 39,.call { callee:=.value (.func 80),args:=#[.tmp 38],argTypes:=#[70] },4, "l13_world.go:43", #[⟨4,.data⟩],none⟩ :: ⟨some 40,.unOp .not 4 (.tmp 39),4, "l13_world.go:43", #[⟨5,.data⟩],none⟩ :: ⟨some 41,.move (.tmp 40),4, "l13_world.go:43", #[⟨6,.data⟩,⟨5,.chain⟩],none⟩ :: ⟨some 42,.fieldAddr 50 (.tmp 1) 7,0, "l13_world.go:43", #[⟨7,.guard⟩],some (7,false)⟩ :: ⟨some 43,.load 33 (.tmp 42),33, "l13_world.go:43", #[⟨8,.data⟩,⟨7,.guard⟩],some (7,false)⟩ :: ⟨some 44,.move (.tmp 4),3, "l13_world.go:43", #[⟨7,.guard⟩],some (7,false)⟩ :: ⟨some 45,.indexAddr 33 (.tmp 43) (.tmp 44),0, "l13_world.go:43", #[⟨9,.data⟩,⟨10,.data⟩,⟨7,.guard⟩],some (7,false)⟩ :: ⟨some 46,.load 62 (.tmp 45),62, "l13_world.go:43", #[⟨11,.data⟩,⟨7,.guard⟩],some (7,false)⟩ :: ⟨some 47,.call { callee:=.builtin .len,args:=#[.tmp 46],argTypes:=#[62] },3, "l13_world.go:43", #[⟨12,.data⟩,⟨7,.guard⟩],some (7,false)⟩ :: ⟨some 48,.fieldAddr 50 (.tmp 1) 3,0, "l13_world.go:43", #[⟨7,.guard⟩],some (7,false)⟩ :: ⟨some 49,.load 46 (.tmp 48),46, "l13_world.go:43", #[⟨14,.data⟩,⟨7,.guard⟩],some (7,false)⟩ :: ⟨some 50,.move (.tmp 4),3, "l13_world.go:43", #[⟨7,.guard⟩],some (7,false)⟩ :: ⟨some 51,.indexAddr 46 (.tmp 49) (.tmp 50),0, "l13_world.go:43", #[⟨15,.data⟩,⟨16,.data⟩,⟨7,.guard⟩],some (7,false)⟩ :: ⟨some 52,.fieldAddr 70 (.tmp 51) 0,0, "l13_world.go:43", #[⟨17,.data⟩,⟨7,.guard⟩],some (7,false)⟩ :: ⟨some 53,.load 3 (.tmp 52),3, "l13_world.go:43", #[⟨18,.data⟩,⟨7,.guard⟩],some (7,false)⟩ :: ⟨some 54,.binOp .neq 3 (.tmp 47) (.tmp 53) 3,4, "l13_world.go:43", #[⟨13,.data⟩,⟨19,.data⟩,⟨7,.guard⟩],some (7,false)⟩ :: ⟨some 55,.pick (.tmp 41) (.const (.bool true)) (.tmp 54),4, "l13_world.go:43", #[⟨7,.data⟩,⟨20,.data⟩],none⟩ :: ⟨some 56,.move (.tmp 55),4, "l13_world.go:43", #[⟨21,.data⟩,⟨7,.chain⟩],none⟩ :: ⟨some 57,.fieldAddr 50 (.tmp 1) 8,0, "l13_world.go:43", #[⟨22,.guard⟩],some (22,false)⟩ :: ⟨some 58,.load 33 (.tmp 57),33, "l13_world.go:43", #[⟨23,.data⟩,⟨22,.guard⟩],some (22,false)⟩ :: ⟨some 59,.move (.tmp 4),3, "l13_world.go:43", #[⟨22,.guard⟩],some (22,false)⟩ :: ⟨some 60,.indexAddr 33 (.tmp 58) (.tmp 59),0, "l13_world.go:43", #[⟨24,.data⟩,⟨25,.data⟩,⟨22,.guard⟩],some (22,false)⟩ :: ⟨some 61,.load 62 (.tmp 60),62, "l13_world.go:43", #[⟨26,.data⟩,⟨22,.guard⟩],some (22,false)⟩ :: ⟨some 62,.call { callee:=.builtin .len,args:=#[.tmp 61],argTypes:=#[62] },3, "l13_world.go:43", #[⟨27,.data⟩,⟨22,.guard⟩],some (22,false)⟩ :: ⟨some 63,.fieldAddr 50 (.tmp 1) 3,0, "l13_world.go:43", #[⟨22,.guard⟩],some (22,false)⟩ :: ⟨some 64,.load 46 (.tmp 63),46, "l13_world.go:43", #[⟨29,.data⟩,⟨22,.guard⟩],some (22,false)⟩ :: ⟨some 65,.move (.tmp 4),3, "l13_world.go:43", #[⟨22,.guard⟩],some (22,false)⟩ :: ⟨some 66,.indexAddr 46 (.tmp 64) (.tmp 65),0, "l13_world.go:43", #[⟨30,.data⟩,⟨31,.data⟩,⟨22,.guard⟩],some (22,false)⟩ :: ⟨some 67,.fieldAddr 70 (.tmp 66) 3,0, "l13_world.go:43", #[⟨32,.data⟩,⟨22,.guard⟩],some (22,false)⟩ :: ⟨some 68,.load 3 (.tmp 67),3, "l13_world.go:43", #[⟨33,.data⟩,⟨22,.guard⟩],some (22,false)⟩ :: ⟨some 69,.binOp .neq 3 (.tmp 62) (.tmp 68) 3,4, "l13_world.go:43", #[⟨28,.data⟩,⟨34,.data⟩,⟨22,.guard⟩],some (22,false)⟩ :: ⟨some 70,.pick (.tmp 56) (.const (.bool true)) (.tmp 69),4, "l13_world.go:43", #[⟨22,.data⟩,⟨35,.data⟩],none⟩ :: []
theorem ZkG {t0 t2 t3 t5 t6 t7 t8 t9 r J P T ad F I U G A z V aj s N t R af ab u S L M y aY aB aV aJ aK ay aq aH aD aC ao aL aI az au aQ ap aA aR an aX av ak aT aF aN aU aW aZ aG aO ax aw aM al aE aP:Value}{fs:List Deferred}(q f i n D o Y:Nat)(k la lt:Nat)(pa pt:Option Addr)(qa qt:Nat)(C Z O E X ag:Option Addr)(H v aa ai g ah ac ae x:Nat)(d:Wd)(l:Lk)(vq vh:Value)(w:World)(Q:Exit -> Act -> World -> Prop)(hx:w.heap[q]? = some (.cells #[.slice C d.ns.length H,.slice Z d.is.length v,.slice O d.ds.length aa,.int .i64 d.pl,.slice E d.hs.length ai,.slice (some ⟨f,i,none⟩) d.ls.length g,.slice X d.gs.length ah,.slice ag d.ps.length ac,.int .i64 d.nx,.slice (some ⟨n,D,none⟩) d.ga.length ae,.slice (some ⟨o,Y,none⟩) d.tk.length x] 50 (0,0)))(hl:w.rangeAt f (i+k * 5) [.int .i64 l.sent,.int .i64 l.acked,vq,.int .i64 l.got,vh])(aS:f < w.heap.size)(a0:k < d.ls.length)(am:n < w.heap.size)(ar:o < w.heap.size)(ha:w.cell? ⟨n,D+k,none⟩=some (.slice pa la qa))(ht:w.cell? ⟨o,Y+k,none⟩=some (.slice pt lt qt))(a1:k < d.ga.length)(a5:k < d.tk.length)(HC:∀ W,Below w.heap.size w W -> Calls Tryz.prog 80 #[.agg #[.int .i64 l.sent,.int .i64 l.acked,vq,.int .i64 l.got,vh]] W fun e b=>e=.returned (.bool false)/\Below W.heap.size W b)(hQ:∀ u34 u35 u36 u37 u38 u39 u40 u41 u42 u43 u44 u45 u46 u47 u48 u49 u50 u51 u52 u53 u54 u55 u56 u57 u58 u59 u60 u61 u62 u63 u64 u65 u66 u67 u68 u69 (W:World),Below w.heap.size w W -> Q .normal ⟨#[t0,.pointer (some ⟨q,0,none⟩),t2,t3,.int .i64 (k:Nat),t5,t6,t7,t8,t9,r,J,P,T,ad,F,I,U,G,A,z,V,aj,s,N,t,R,af,ab,u,S,L,M,y,u34,u35,u36,u37,u38,u39,u40,u41,u42,u43,u44,u45,u46,u47,u48,u49,u50,u51,u52,u53,u54,u55,u56,u57,u58,u59,u60,u61,u62,u63,u64,u65,u66,u67,u68,u69,.bool true],fs⟩ W) :
  (Code.region 7 opr6.toArray true).wp Tryz.prog Q ⟨#[t0,.pointer (some ⟨q,0,none⟩),t2,t3,.int .i64 (k:Nat),t5,t6,t7,t8,t9,r,J,P,T,ad,F,I,U,G,A,z,V,aj,s,N,t,R,af,ab,u,S,L,M,y,aY,aB,aV,aJ,aK,ay,aq,aH,aD,aC,ao,aL,aI,az,au,aQ,ap,aA,aR,an,aX,av,ak,aT,aF,aN,aU,aW,aZ,aG,aO,ax,aw,aM,al,aE,aP],fs⟩ w:=by
 have hS:∀ b,Below w.heap.size w b -> (b.heap[q]? = some (.cells #[.slice C d.ns.length H,.slice Z d.is.length v,.slice O d.ds.length aa,.int .i64 d.pl,.slice E d.hs.length ai,.slice (some ⟨f,i,none⟩) d.ls.length g,.slice X d.gs.length ah,.slice ag d.ps.length ac,.int .i64 d.nx,.slice (some ⟨n,D,none⟩) d.ga.length ae,.slice (some ⟨o,Y,none⟩) d.tk.length x] 50 (0,0))/\b.rangeAt f (i+k * 5) [.int .i64 l.sent,.int .i64 l.acked,vq,.int .i64 l.got,vh]/\b.cell? ⟨n,D+k,none⟩=some (.slice pa la qa)/\b.cell? ⟨o,Y+k,none⟩=some (.slice pt lt qt)):=fun b j=>⟨Zae hx j,Zaf hl j aS,(j.cell (p:=⟨n,D+k,none⟩) am).trans ha,(j.cell (p:=⟨o,Y+k,none⟩) ar).trans ht⟩
 have a2:(k:Int) < (d.ga.length:Int):=by omega
 have a3:(k:Int) < (d.tk.length:Int):=by omega
 have a4:(k:Int) < (d.ls.length:Int):=by omega
 have B:Below w.heap.size w w.drew:=Zaw w
 refine rg hS B (by kernel_rfl) fun m=>?_
 refine tk 0 (.pointer (some ⟨q,5,none⟩)) nz (by kernel_rfl) (Or.inl ⟨by rfl,by intro w a;go_simp⟩) ‹_› ?_
 simp only [Act.put,sit,sc0,scs]
 refine tk 1 (.slice (some ⟨f,i,none⟩) d.ls.length g) (n1 nz) (by kernel_rfl) (Or.inl ⟨by rfl,by intro b a;have c:=cell_of_row b (q) 5 _ _ _ a.1;go_simp⟩) ‹_› ?_
 simp only [Act.put,sit,sc0,scs]
 refine tk 2 (.int .i64 (k:Nat)) (n2 nz) (by kernel_rfl) (Or.inl ⟨by rfl,by intro w a;go_simp⟩) ‹_› ?_
 simp only [Act.put,sit,sc0,scs]
 refine tk 3 (.pointer (some ⟨f,i+k * 5,none⟩)) (n2 (n1 nz)) (by kernel_rfl) (Or.inl ⟨by rfl,by intro w a;go_simp⟩) ‹_› ?_
 simp only [Act.put,sit,sc0,scs]
 refine tk 4 (.agg #[.int .i64 l.sent,.int .i64 l.acked,vq,.int .i64 l.got,vh]) (n4 nz) (by kernel_rfl) (yieldsIf_load_mid (by rfl) 70 _ rfl f (i+k * 5) rfl _ _ (fun _ h=>h.2.1) Tryz.underlying70 rfl (by kernel_rfl)) ‹_› ?_
 simp only [Act.put,sit,sc0,scs]
 refine wpAnyH_ready (rs:=[5]) (by kernel_rfl) (by simp) ?_
 refine AllReadyH.cons rfl (fun K hK=>?_) AllReadyH.nil
 go_simp
 go_wp2_with (go_at_call 80;with_reducible refine (HC _ B).mono ?_;rintro e wE ⟨rfl,j⟩)
 replace B:=B.trans (j.mono B.size)
 clear j
 refine hK.out _ _ (hS _ B) (fun m=>?_)
 clear hK
 refine tk 6 (.bool true) (n4 (n2 nz)) (by kernel_rfl) (Or.inl ⟨by rfl,by intro w a;go_simp⟩) ‹_› ?_
 simp only [Act.put,sit,sc0,scs]
 refine tk 7 (.bool true) (n4 (n2 (n1 nz))) (by kernel_rfl) (Or.inl ⟨by rfl,by intro w a;go_simp⟩) ‹_› ?_
 simp only [Act.put,sit,sc0,scs]
 refine tk 8 (undef) (n8 nz) (by kernel_rfl) (Or.inr ⟨by rfl,rfl⟩) ‹_› ?_
 simp only [Act.put,sit,sc0,scs]
 refine tk 9 (undef) (n8 (n1 nz)) (by kernel_rfl) (Or.inr ⟨by rfl,rfl⟩) ‹_› ?_
 simp only [Act.put,sit,sc0,scs]
 refine tk 10 (undef) (n8 (n2 nz)) (by kernel_rfl) (Or.inr ⟨by rfl,rfl⟩) ‹_› ?_
 simp only [Act.put,sit,sc0,scs]
 refine tk 11 (undef) (n8 (n2 (n1 nz))) (by kernel_rfl) (Or.inr ⟨by rfl,rfl⟩) ‹_› ?_
 simp only [Act.put,sit,sc0,scs]
 refine tk 12 (undef) (n8 (n4 nz)) (by kernel_rfl) (Or.inr ⟨by rfl,rfl⟩) ‹_› ?_
 simp only [Act.put,sit,sc0,scs]
 refine tk 13 (undef) (n8 (n4 (n1 nz))) (by kernel_rfl) (Or.inr ⟨by rfl,rfl⟩) ‹_› ?_
 simp only [Act.put,sit,sc0,scs]
 refine tk 14 (undef) (n8 (n4 (n2 nz))) (by kernel_rfl) (Or.inr ⟨by rfl,rfl⟩) ‹_› ?_
 simp only [Act.put,sit,sc0,scs]
 refine tk 15 (undef) (n8 (n4 (n2 (n1 nz)))) (by kernel_rfl) (Or.inr ⟨by rfl,rfl⟩) ‹_› ?_
 simp only [Act.put,sit,sc0,scs]
 refine tk 16 (undef) (n8 (n8 nz)) (by kernel_rfl) (Or.inr ⟨by rfl,rfl⟩) ‹_› ?_
 simp only [Act.put,sit,sc0,scs]
 refine tk 17 (undef) (n8 (n8 (n1 nz))) (by kernel_rfl) (Or.inr ⟨by rfl,rfl⟩) ‹_› ?_
 simp only [Act.put,sit,sc0,scs]
 refine tk 18 (undef) (n8 (n8 (n2 nz))) (by kernel_rfl) (Or.inr ⟨by rfl,rfl⟩) ‹_› ?_
 simp only [Act.put,sit,sc0,scs]
 refine tk 19 (undef) (n8 (n8 (n2 (n1 nz)))) (by kernel_rfl) (Or.inr ⟨by rfl,rfl⟩) ‹_› ?_
 simp only [Act.put,sit,sc0,scs]
 refine tk 20 (undef) (n8 (n8 (n4 nz))) (by kernel_rfl) (Or.inr ⟨by rfl,rfl⟩) ‹_› ?_
 simp only [Act.put,sit,sc0,scs]
 refine tk 21 (.bool true) (n8 (n8 (n4 (n1 nz)))) (by kernel_rfl) (Or.inl ⟨by rfl,by intro w a;go_simp⟩) ‹_› ?_
 simp only [Act.put,sit,sc0,scs]
 refine tk 22 (.bool true) (n8 (n8 (n4 (n2 nz)))) (by kernel_rfl) (Or.inl ⟨by rfl,by intro w a;go_simp⟩) ‹_› ?_
 simp only [Act.put,sit,sc0,scs]
 refine tk 23 (undef) (n8 (n8 (n4 (n2 (n1 nz))))) (by kernel_rfl) (Or.inr ⟨by rfl,rfl⟩) ‹_› ?_
 simp only [Act.put,sit,sc0,scs]
 refine tk 24 (undef) (n8 (n8 (n8 nz))) (by kernel_rfl) (Or.inr ⟨by rfl,rfl⟩) ‹_› ?_
 simp only [Act.put,sit,sc0,scs]
 refine tk 25 (undef) (n8 (n8 (n8 (n1 nz)))) (by kernel_rfl) (Or.inr ⟨by rfl,rfl⟩) ‹_› ?_
 simp only [Act.put,sit,sc0,scs]
 refine tk 26 (undef) (n8 (n8 (n8 (n2 nz)))) (by kernel_rfl) (Or.inr ⟨by rfl,rfl⟩) ‹_› ?_
 simp only [Act.put,sit,sc0,scs]
 refine tk 27 (undef) (n8 (n8 (n8 (n2 (n1 nz))))) (by kernel_rfl) (Or.inr ⟨by rfl,rfl⟩) ‹_› ?_
 simp only [Act.put,sit,sc0,scs]
 refine tk 28 (undef) (n8 (n8 (n8 (n4 nz)))) (by kernel_rfl) (Or.inr ⟨by rfl,rfl⟩) ‹_› ?_
 simp only [Act.put,sit,sc0,scs]
 refine tk 29 (undef) (n8 (n8 (n8 (n4 (n1 nz))))) (by kernel_rfl) (Or.inr ⟨by rfl,rfl⟩) ‹_› ?_
 simp only [Act.put,sit,sc0,scs]
 refine tk 30 (undef) (n8 (n8 (n8 (n4 (n2 nz))))) (by kernel_rfl) (Or.inr ⟨by rfl,rfl⟩) ‹_› ?_
 simp only [Act.put,sit,sc0,scs]
 refine tk 31 (undef) (n8 (n8 (n8 (n4 (n2 (n1 nz)))))) (by kernel_rfl) (Or.inr ⟨by rfl,rfl⟩) ‹_› ?_
 simp only [Act.put,sit,sc0,scs]
 refine tk 32 (undef) (n8 (n8 (n8 (n8 nz)))) (by kernel_rfl) (Or.inr ⟨by rfl,rfl⟩) ‹_› ?_
 simp only [Act.put,sit,sc0,scs]
 refine tk 33 (undef) (n8 (n8 (n8 (n8 (n1 nz))))) (by kernel_rfl) (Or.inr ⟨by rfl,rfl⟩) ‹_› ?_
 simp only [Act.put,sit,sc0,scs]
 refine tk 34 (undef) (n8 (n8 (n8 (n8 (n2 nz))))) (by kernel_rfl) (Or.inr ⟨by rfl,rfl⟩) ‹_› ?_
 simp only [Act.put,sit,sc0,scs]
 refine tk 35 (undef) (n8 (n8 (n8 (n8 (n2 (n1 nz)))))) (by kernel_rfl) (Or.inr ⟨by rfl,rfl⟩) ‹_› ?_
 simp only [Act.put,sit,sc0,scs]
 refine tk 36 (.bool true) (n8 (n8 (n8 (n8 (n4 nz))))) (by kernel_rfl) (Or.inl ⟨by rfl,by intro w a;go_simp⟩) ‹_› ?_
 simp only [Act.put,sit,sc0,scs]
 refine wpAnyH_done (by kernel_rfl) ?_ _
 exact NoPanic.normal (hQ _ _ _ _ _ _ _ _ _ _ _ _ _ _ _ _ _ _ _ _ _ _ _ _ _ _ _ _ _ _ _ _ _ _ _ _ _ B)
theorem Zk8 {t0 t2 t3 t5 t6 t7 t8 t9 t L S V ae G J X H D C Y aj u O v T af ac x U M N A aY aB aV aJ aK ay aq aH aD aC ao aL aI az au aQ ap aA aR an aX av ak aT aF aN aU aW aZ aG aO ax aw aM al aE aP:Value}{fs:List Deferred}(i f g m n s ot:Nat)(k P lt:Nat)(pa pt:Option Addr)(qa qt:Nat)(E aa R F Z ag:Option Addr)(I y ab ai j ah ad r z:Nat)(d:Wd)(l:Lk)(vq vh:Value)(w:World)(Q:Exit -> Act -> World -> Prop)(hx:w.heap[i]? = some (.cells #[.slice E d.ns.length I,.slice aa d.is.length y,.slice R d.ds.length ab,.int .i64 d.pl,.slice F d.hs.length ai,.slice (some ⟨f,g,none⟩) d.ls.length j,.slice Z d.gs.length ah,.slice ag d.ps.length ad,.int .i64 d.nx,.slice (some ⟨m,n,none⟩) d.ga.length r,.slice (some ⟨s,ot,none⟩) d.tk.length z] 50 (0,0)))(hl:w.rangeAt f (g+k * 5) [.int .i64 l.sent,.int .i64 l.acked,vq,.int .i64 l.got,vh])(aS:f < w.heap.size)(a0:k < d.ls.length)(am:m < w.heap.size)(ar:s < w.heap.size)(ha:w.cell? ⟨m,n+k,none⟩=some (.slice pa P qa))(ht:w.cell? ⟨s,ot+k,none⟩=some (.slice pt lt qt))(a1:k < d.ga.length)(a5:k < d.tk.length)(HC:∀ W,Below w.heap.size w W -> Calls Tryz.prog 80 #[.agg #[.int .i64 l.sent,.int .i64 l.acked,vq,.int .i64 l.got,vh]] W fun e b=>e=.returned (.bool true)/\Below W.heap.size W b)(e1:((P:Int) != l.sent)=true)(hQ:∀ u34 u35 u36 u37 u38 u39 u40 u41 u42 u43 u44 u45 u46 u47 u48 u49 u50 u51 u52 u53 u54 u55 u56 u57 u58 u59 u60 u61 u62 u63 u64 u65 u66 u67 u68 u69 (W:World),Below w.heap.size w W -> Q .normal ⟨#[t0,.pointer (some ⟨i,0,none⟩),t2,t3,.int .i64 (k:Nat),t5,t6,t7,t8,t9,t,L,S,V,ae,G,J,X,H,D,C,Y,aj,u,O,v,T,af,ac,x,U,M,N,A,u34,u35,u36,u37,u38,u39,u40,u41,u42,u43,u44,u45,u46,u47,u48,u49,u50,u51,u52,u53,u54,u55,u56,u57,u58,u59,u60,u61,u62,u63,u64,u65,u66,u67,u68,u69,.bool true],fs⟩ W) :
  (Code.region 7 opr6.toArray true).wp Tryz.prog Q ⟨#[t0,.pointer (some ⟨i,0,none⟩),t2,t3,.int .i64 (k:Nat),t5,t6,t7,t8,t9,t,L,S,V,ae,G,J,X,H,D,C,Y,aj,u,O,v,T,af,ac,x,U,M,N,A,aY,aB,aV,aJ,aK,ay,aq,aH,aD,aC,ao,aL,aI,az,au,aQ,ap,aA,aR,an,aX,av,ak,aT,aF,aN,aU,aW,aZ,aG,aO,ax,aw,aM,al,aE,aP],fs⟩ w:=by
 have hS:∀ b,Below w.heap.size w b -> (b.heap[i]? = some (.cells #[.slice E d.ns.length I,.slice aa d.is.length y,.slice R d.ds.length ab,.int .i64 d.pl,.slice F d.hs.length ai,.slice (some ⟨f,g,none⟩) d.ls.length j,.slice Z d.gs.length ah,.slice ag d.ps.length ad,.int .i64 d.nx,.slice (some ⟨m,n,none⟩) d.ga.length r,.slice (some ⟨s,ot,none⟩) d.tk.length z] 50 (0,0))/\b.rangeAt f (g+k * 5) [.int .i64 l.sent,.int .i64 l.acked,vq,.int .i64 l.got,vh]/\b.cell? ⟨m,n+k,none⟩=some (.slice pa P qa)/\b.cell? ⟨s,ot+k,none⟩=some (.slice pt lt qt)):=fun b o=>⟨Zae hx o,Zaf hl o aS,(o.cell (p:=⟨m,n+k,none⟩) am).trans ha,(o.cell (p:=⟨s,ot+k,none⟩) ar).trans ht⟩
 have a2:(k:Int) < (d.ga.length:Int):=by omega
 have a3:(k:Int) < (d.tk.length:Int):=by omega
 have a4:(k:Int) < (d.ls.length:Int):=by omega
 have B:Below w.heap.size w w.drew:=Zaw w
 refine rg hS B (by kernel_rfl) fun q=>?_
 refine tk 0 (.pointer (some ⟨i,5,none⟩)) nz (by kernel_rfl) (Or.inl ⟨by rfl,by intro w a;go_simp⟩) ‹_› ?_
 simp only [Act.put,sit,sc0,scs]
 refine tk 1 (.slice (some ⟨f,g,none⟩) d.ls.length j) (n1 nz) (by kernel_rfl) (Or.inl ⟨by rfl,by intro b a;have c:=cell_of_row b (i) 5 _ _ _ a.1;go_simp⟩) ‹_› ?_
 simp only [Act.put,sit,sc0,scs]
 refine tk 2 (.int .i64 (k:Nat)) (n2 nz) (by kernel_rfl) (Or.inl ⟨by rfl,by intro w a;go_simp⟩) ‹_› ?_
 simp only [Act.put,sit,sc0,scs]
 refine tk 3 (.pointer (some ⟨f,g+k * 5,none⟩)) (n2 (n1 nz)) (by kernel_rfl) (Or.inl ⟨by rfl,by intro w a;go_simp⟩) ‹_› ?_
 simp only [Act.put,sit,sc0,scs]
 refine tk 4 (.agg #[.int .i64 l.sent,.int .i64 l.acked,vq,.int .i64 l.got,vh]) (n4 nz) (by kernel_rfl) (yieldsIf_load_mid (by rfl) 70 _ rfl f (g+k * 5) rfl _ _ (fun _ h=>h.2.1) Tryz.underlying70 rfl (by kernel_rfl)) ‹_› ?_
 simp only [Act.put,sit,sc0,scs]
 refine wpAnyH_ready (rs:=[5]) (by kernel_rfl) (by simp) ?_
 refine AllReadyH.cons rfl (fun K hK=>?_) AllReadyH.nil
 go_simp
 go_wp2_with (go_at_call 80;with_reducible refine (HC _ B).mono ?_;rintro e wE ⟨rfl,o⟩)
 replace B:=B.trans (o.mono B.size)
 clear o
 refine hK.out _ _ (hS _ B) (fun q=>?_)
 clear hK
 refine tk 6 (.bool false) (n4 (n2 nz)) (by kernel_rfl) (Or.inl ⟨by rfl,by intro w a;go_simp⟩) ‹_› ?_
 simp only [Act.put,sit,sc0,scs]
 refine tk 7 (.bool false) (n4 (n2 (n1 nz))) (by kernel_rfl) (Or.inl ⟨by rfl,by intro w a;go_simp⟩) ‹_› ?_
 simp only [Act.put,sit,sc0,scs]
 refine tk 8 (.pointer (some ⟨i,9,none⟩)) (n8 nz) (by kernel_rfl) (Or.inl ⟨by rfl,by intro w a;go_simp⟩) ‹_› ?_
 simp only [Act.put,sit,sc0,scs]
 refine tk 9 (.slice (some ⟨m,n,none⟩) d.ga.length r) (n8 (n1 nz)) (by kernel_rfl) (Or.inl ⟨by rfl,by intro b a;have c:=cell_of_row b (i) 9 _ _ _ a.1;go_simp⟩) ‹_› ?_
 simp only [Act.put,sit,sc0,scs]
 refine tk 10 (.int .i64 (k:Nat)) (n8 (n2 nz)) (by kernel_rfl) (Or.inl ⟨by rfl,by intro w a;go_simp⟩) ‹_› ?_
 simp only [Act.put,sit,sc0,scs]
 refine tk 11 (.pointer (some ⟨m,n+k,none⟩)) (n8 (n2 (n1 nz))) (by kernel_rfl) (Or.inl ⟨by rfl,by intro w a;go_simp⟩) ‹_› ?_
 simp only [Act.put,sit,sc0,scs]
 refine tk 12 (.slice pa P qa) (n8 (n4 nz)) (by kernel_rfl) (Or.inl ⟨by rfl,by intro b a;have c:=a.2.2.1;go_simp⟩) ‹_› ?_
 simp only [Act.put,sit,sc0,scs]
 refine tk 13 (.int .i64 (P:Nat)) (n8 (n4 (n1 nz))) (by kernel_rfl) (Or.inl ⟨by rfl,by intro w a;go_simp⟩) ‹_› ?_
 simp only [Act.put,sit,sc0,scs]
 refine tk 14 (.pointer (some ⟨i,5,none⟩)) (n8 (n4 (n2 nz))) (by kernel_rfl) (Or.inl ⟨by rfl,by intro w a;go_simp⟩) ‹_› ?_
 simp only [Act.put,sit,sc0,scs]
 refine tk 15 (.slice (some ⟨f,g,none⟩) d.ls.length j) (n8 (n4 (n2 (n1 nz)))) (by kernel_rfl) (Or.inl ⟨by rfl,by intro b a;have c:=cell_of_row b (i) 5 _ _ _ a.1;go_simp⟩) ‹_› ?_
 simp only [Act.put,sit,sc0,scs]
 refine tk 16 (.int .i64 (k:Nat)) (n8 (n8 nz)) (by kernel_rfl) (Or.inl ⟨by rfl,by intro w a;go_simp⟩) ‹_› ?_
 simp only [Act.put,sit,sc0,scs]
 refine tk 17 (.pointer (some ⟨f,g+k * 5,none⟩)) (n8 (n8 (n1 nz))) (by kernel_rfl) (Or.inl ⟨by rfl,by intro w a;go_simp⟩) ‹_› ?_
 simp only [Act.put,sit,sc0,scs]
 refine tk 18 (.pointer (some ⟨f,g+k * 5,none⟩)) (n8 (n8 (n2 nz))) (by kernel_rfl) (Or.inl ⟨by rfl,by intro w a;go_simp⟩) ‹_› ?_
 simp only [Act.put,sit,sc0,scs]
 refine tk 19 (.int .i64 l.sent) (n8 (n8 (n2 (n1 nz)))) (by kernel_rfl) (Or.inl ⟨by rfl,by intro b a;have c:=(show b.cell? ⟨f,g+k * 5,none⟩=some (.int .i64 l.sent) from a.2.1 0 _ rfl);go_simp⟩) ‹_› ?_
 simp only [Act.put,sit,sc0,scs]
 refine tk 20 (.bool true) (n8 (n8 (n4 nz))) (by kernel_rfl) (Or.inl ⟨by rfl,by intro b a;first | (go_simp;done) | (go_simp;exact e1) | (go_simp;simp [e1])⟩) ‹_› ?_
 simp only [Act.put,sit,sc0,scs]
 refine tk 21 (.bool true) (n8 (n8 (n4 (n1 nz)))) (by kernel_rfl) (Or.inl ⟨by rfl,by intro w a;go_simp⟩) ‹_› ?_
 simp only [Act.put,sit,sc0,scs]
 refine tk 22 (.bool true) (n8 (n8 (n4 (n2 nz)))) (by kernel_rfl) (Or.inl ⟨by rfl,by intro w a;go_simp⟩) ‹_› ?_
 simp only [Act.put,sit,sc0,scs]
 refine tk 23 (undef) (n8 (n8 (n4 (n2 (n1 nz))))) (by kernel_rfl) (Or.inr ⟨by rfl,rfl⟩) ‹_› ?_
 simp only [Act.put,sit,sc0,scs]
 refine tk 24 (undef) (n8 (n8 (n8 nz))) (by kernel_rfl) (Or.inr ⟨by rfl,rfl⟩) ‹_› ?_
 simp only [Act.put,sit,sc0,scs]
 refine tk 25 (undef) (n8 (n8 (n8 (n1 nz)))) (by kernel_rfl) (Or.inr ⟨by rfl,rfl⟩) ‹_› ?_
 simp only [Act.put,sit,sc0,scs]
 refine tk 26 (undef) (n8 (n8 (n8 (n2 nz)))) (by kernel_rfl) (Or.inr ⟨by rfl,rfl⟩) ‹_› ?_
 simp only [Act.put,sit,sc0,scs]
 refine tk 27 (undef) (n8 (n8 (n8 (n2 (n1 nz))))) (by kernel_rfl) (Or.inr ⟨by rfl,rfl⟩) ‹_› ?_
 simp only [Act.put,sit,sc0,scs]
 refine tk 28 (undef) (n8 (n8 (n8 (n4 nz)))) (by kernel_rfl) (Or.inr ⟨by rfl,rfl⟩) ‹_› ?_
 simp only [Act.put,sit,sc0,scs]
 refine tk 29 (undef) (n8 (n8 (n8 (n4 (n1 nz))))) (by kernel_rfl) (Or.inr ⟨by rfl,rfl⟩) ‹_› ?_
 simp only [Act.put,sit,sc0,scs]
 refine tk 30 (undef) (n8 (n8 (n8 (n4 (n2 nz))))) (by kernel_rfl) (Or.inr ⟨by rfl,rfl⟩) ‹_› ?_
 simp only [Act.put,sit,sc0,scs]
 refine tk 31 (undef) (n8 (n8 (n8 (n4 (n2 (n1 nz)))))) (by kernel_rfl) (Or.inr ⟨by rfl,rfl⟩) ‹_› ?_
 simp only [Act.put,sit,sc0,scs]
 refine tk 32 (undef) (n8 (n8 (n8 (n8 nz)))) (by kernel_rfl) (Or.inr ⟨by rfl,rfl⟩) ‹_› ?_
 simp only [Act.put,sit,sc0,scs]
 refine tk 33 (undef) (n8 (n8 (n8 (n8 (n1 nz))))) (by kernel_rfl) (Or.inr ⟨by rfl,rfl⟩) ‹_› ?_
 simp only [Act.put,sit,sc0,scs]
 refine tk 34 (undef) (n8 (n8 (n8 (n8 (n2 nz))))) (by kernel_rfl) (Or.inr ⟨by rfl,rfl⟩) ‹_› ?_
 simp only [Act.put,sit,sc0,scs]
 refine tk 35 (undef) (n8 (n8 (n8 (n8 (n2 (n1 nz)))))) (by kernel_rfl) (Or.inr ⟨by rfl,rfl⟩) ‹_› ?_
 simp only [Act.put,sit,sc0,scs]
 refine tk 36 (.bool true) (n8 (n8 (n8 (n8 (n4 nz))))) (by kernel_rfl) (Or.inl ⟨by rfl,by intro w a;go_simp⟩) ‹_› ?_
 simp only [Act.put,sit,sc0,scs]
 refine wpAnyH_done (by kernel_rfl) ?_ _
 exact NoPanic.normal (hQ _ _ _ _ _ _ _ _ _ _ _ _ _ _ _ _ _ _ _ _ _ _ _ _ _ _ _ _ _ _ _ _ _ _ _ _ _ B)
theorem ZgL {t0 t2 t3 t5 t6 t7 t8 t9 v M T X af H L Y I E D Z ak x P y U ag ad z V N O C aZ aC aW aK aL az ar aI aE aD ap aM aJ aA av aR aq aB aS ao aY aw al aU aG aO aV aX a0 aH aP ay ax aN am aF aQ:Value}{fs:List Deferred}(g f i m q n s:Nat)(k R lt:Nat)(pa pt:Option Addr)(qa qt:Nat)(F ab S G aa ah:Option Addr)(J A ac aj j ai ae u o:Nat)(d:Wd)(l:Lk)(vq vh:Value)(w:World)(Q:Exit -> Act -> World -> Prop)(hx:w.heap[g]? = some (.cells #[.slice F d.ns.length J,.slice ab d.is.length A,.slice S d.ds.length ac,.int .i64 d.pl,.slice G d.hs.length aj,.slice (some ⟨f,i,none⟩) d.ls.length j,.slice aa d.gs.length ai,.slice ah d.ps.length ae,.int .i64 d.nx,.slice (some ⟨m,q,none⟩) d.ga.length u,.slice (some ⟨n,s,none⟩) d.tk.length o] 50 (0,0)))(hl:w.rangeAt f (i+k * 5) [.int .i64 l.sent,.int .i64 l.acked,vq,.int .i64 l.got,vh])(aT:f < w.heap.size)(a1:k < d.ls.length)(an:m < w.heap.size)(au:n < w.heap.size)(ha:w.cell? ⟨m,q+k,none⟩=some (.slice pa R qa))(ht:w.cell? ⟨n,s+k,none⟩=some (.slice pt lt qt))(a2:k < d.ga.length)(a6:k < d.tk.length)(HC:∀ W,Below w.heap.size w W -> Calls Tryz.prog 80 #[.agg #[.int .i64 l.sent,.int .i64 l.acked,vq,.int .i64 l.got,vh]] W fun e b=>e=.returned (.bool true)/\Below W.heap.size W b)(c2:Bool)(e1:((R:Int) != l.sent)=false)(e2:((lt:Int) != l.got)=c2)(hQ:∀ u34 u35 u36 u37 u38 u39 u40 u41 u42 u43 u44 u45 u46 u47 u48 u49 u50 u51 u52 u53 u54 u55 u56 u57 u58 u59 u60 u61 u62 u63 u64 u65 u66 u67 u68 u69 (W:World),Below w.heap.size w W -> Q .normal ⟨#[t0,.pointer (some ⟨g,0,none⟩),t2,t3,.int .i64 (k:Nat),t5,t6,t7,t8,t9,v,M,T,X,af,H,L,Y,I,E,D,Z,ak,x,P,y,U,ag,ad,z,V,N,O,C,u34,u35,u36,u37,u38,u39,u40,u41,u42,u43,u44,u45,u46,u47,u48,u49,u50,u51,u52,u53,u54,u55,u56,u57,u58,u59,u60,u61,u62,u63,u64,u65,u66,u67,u68,u69,.bool c2],fs⟩ W) :
  (Code.region 7 opr6.toArray true).wp Tryz.prog Q ⟨#[t0,.pointer (some ⟨g,0,none⟩),t2,t3,.int .i64 (k:Nat),t5,t6,t7,t8,t9,v,M,T,X,af,H,L,Y,I,E,D,Z,ak,x,P,y,U,ag,ad,z,V,N,O,C,aZ,aC,aW,aK,aL,az,ar,aI,aE,aD,ap,aM,aJ,aA,av,aR,aq,aB,aS,ao,aY,aw,al,aU,aG,aO,aV,aX,a0,aH,aP,ay,ax,aN,am,aF,aQ],fs⟩ w:=by
 have hS:∀ b,Below w.heap.size w b -> (b.heap[g]? = some (.cells #[.slice F d.ns.length J,.slice ab d.is.length A,.slice S d.ds.length ac,.int .i64 d.pl,.slice G d.hs.length aj,.slice (some ⟨f,i,none⟩) d.ls.length j,.slice aa d.gs.length ai,.slice ah d.ps.length ae,.int .i64 d.nx,.slice (some ⟨m,q,none⟩) d.ga.length u,.slice (some ⟨n,s,none⟩) d.tk.length o] 50 (0,0))/\b.rangeAt f (i+k * 5) [.int .i64 l.sent,.int .i64 l.acked,vq,.int .i64 l.got,vh]/\b.cell? ⟨m,q+k,none⟩=some (.slice pa R qa)/\b.cell? ⟨n,s+k,none⟩=some (.slice pt lt qt)):=fun b r=>⟨Zae hx r,Zaf hl r aT,(r.cell (p:=⟨m,q+k,none⟩) an).trans ha,(r.cell (p:=⟨n,s+k,none⟩) au).trans ht⟩
 have a3:(k:Int) < (d.ga.length:Int):=by omega
 have a4:(k:Int) < (d.tk.length:Int):=by omega
 have a5:(k:Int) < (d.ls.length:Int):=by omega
 have B:Below w.heap.size w w.drew:=Zaw w
 refine rg hS B (by kernel_rfl) fun t=>?_
 refine tk 0 (.pointer (some ⟨g,5,none⟩)) nz (by kernel_rfl) (Or.inl ⟨by rfl,by intro w a;go_simp⟩) ‹_› ?_
 simp only [Act.put,sit,sc0,scs]
 refine tk 1 (.slice (some ⟨f,i,none⟩) d.ls.length j) (n1 nz) (by kernel_rfl) (Or.inl ⟨by rfl,by intro b a;have c:=cell_of_row b (g) 5 _ _ _ a.1;go_simp⟩) ‹_› ?_
 simp only [Act.put,sit,sc0,scs]
 refine tk 2 (.int .i64 (k:Nat)) (n2 nz) (by kernel_rfl) (Or.inl ⟨by rfl,by intro w a;go_simp⟩) ‹_› ?_
 simp only [Act.put,sit,sc0,scs]
 refine tk 3 (.pointer (some ⟨f,i+k * 5,none⟩)) (n2 (n1 nz)) (by kernel_rfl) (Or.inl ⟨by rfl,by intro w a;go_simp⟩) ‹_› ?_
 simp only [Act.put,sit,sc0,scs]
 refine tk 4 (.agg #[.int .i64 l.sent,.int .i64 l.acked,vq,.int .i64 l.got,vh]) (n4 nz) (by kernel_rfl) (yieldsIf_load_mid (by rfl) 70 _ rfl f (i+k * 5) rfl _ _ (fun _ h=>h.2.1) Tryz.underlying70 rfl (by kernel_rfl)) ‹_› ?_
 simp only [Act.put,sit,sc0,scs]
 refine wpAnyH_ready (rs:=[5]) (by kernel_rfl) (by simp) ?_
 refine AllReadyH.cons rfl (fun K hK=>?_) AllReadyH.nil
 go_simp
 go_wp2_with (go_at_call 80;with_reducible refine (HC _ B).mono ?_;rintro e wE ⟨rfl,r⟩)
 replace B:=B.trans (r.mono B.size)
 clear r
 refine hK.out _ _ (hS _ B) (fun t=>?_)
 clear hK
 refine tk 6 (.bool false) (n4 (n2 nz)) (by kernel_rfl) (Or.inl ⟨by rfl,by intro w a;go_simp⟩) ‹_› ?_
 simp only [Act.put,sit,sc0,scs]
 refine tk 7 (.bool false) (n4 (n2 (n1 nz))) (by kernel_rfl) (Or.inl ⟨by rfl,by intro w a;go_simp⟩) ‹_› ?_
 simp only [Act.put,sit,sc0,scs]
 refine tk 8 (.pointer (some ⟨g,9,none⟩)) (n8 nz) (by kernel_rfl) (Or.inl ⟨by rfl,by intro w a;go_simp⟩) ‹_› ?_
 simp only [Act.put,sit,sc0,scs]
 refine tk 9 (.slice (some ⟨m,q,none⟩) d.ga.length u) (n8 (n1 nz)) (by kernel_rfl) (Or.inl ⟨by rfl,by intro b a;have c:=cell_of_row b (g) 9 _ _ _ a.1;go_simp⟩) ‹_› ?_
 simp only [Act.put,sit,sc0,scs]
 refine tk 10 (.int .i64 (k:Nat)) (n8 (n2 nz)) (by kernel_rfl) (Or.inl ⟨by rfl,by intro w a;go_simp⟩) ‹_› ?_
 simp only [Act.put,sit,sc0,scs]
 refine tk 11 (.pointer (some ⟨m,q+k,none⟩)) (n8 (n2 (n1 nz))) (by kernel_rfl) (Or.inl ⟨by rfl,by intro w a;go_simp⟩) ‹_› ?_
 simp only [Act.put,sit,sc0,scs]
 refine tk 12 (.slice pa R qa) (n8 (n4 nz)) (by kernel_rfl) (Or.inl ⟨by rfl,by intro b a;have c:=a.2.2.1;go_simp⟩) ‹_› ?_
 simp only [Act.put,sit,sc0,scs]
 refine tk 13 (.int .i64 (R:Nat)) (n8 (n4 (n1 nz))) (by kernel_rfl) (Or.inl ⟨by rfl,by intro w a;go_simp⟩) ‹_› ?_
 simp only [Act.put,sit,sc0,scs]
 refine tk 14 (.pointer (some ⟨g,5,none⟩)) (n8 (n4 (n2 nz))) (by kernel_rfl) (Or.inl ⟨by rfl,by intro w a;go_simp⟩) ‹_› ?_
 simp only [Act.put,sit,sc0,scs]
 refine tk 15 (.slice (some ⟨f,i,none⟩) d.ls.length j) (n8 (n4 (n2 (n1 nz)))) (by kernel_rfl) (Or.inl ⟨by rfl,by intro b a;have c:=cell_of_row b (g) 5 _ _ _ a.1;go_simp⟩) ‹_› ?_
 simp only [Act.put,sit,sc0,scs]
 refine tk 16 (.int .i64 (k:Nat)) (n8 (n8 nz)) (by kernel_rfl) (Or.inl ⟨by rfl,by intro w a;go_simp⟩) ‹_› ?_
 simp only [Act.put,sit,sc0,scs]
 refine tk 17 (.pointer (some ⟨f,i+k * 5,none⟩)) (n8 (n8 (n1 nz))) (by kernel_rfl) (Or.inl ⟨by rfl,by intro w a;go_simp⟩) ‹_› ?_
 simp only [Act.put,sit,sc0,scs]
 refine tk 18 (.pointer (some ⟨f,i+k * 5,none⟩)) (n8 (n8 (n2 nz))) (by kernel_rfl) (Or.inl ⟨by rfl,by intro w a;go_simp⟩) ‹_› ?_
 simp only [Act.put,sit,sc0,scs]
 refine tk 19 (.int .i64 l.sent) (n8 (n8 (n2 (n1 nz)))) (by kernel_rfl) (Or.inl ⟨by rfl,by intro b a;have c:=(show b.cell? ⟨f,i+k * 5,none⟩=some (.int .i64 l.sent) from a.2.1 0 _ rfl);go_simp⟩) ‹_› ?_
 simp only [Act.put,sit,sc0,scs]
 refine tk 20 (.bool false) (n8 (n8 (n4 nz))) (by kernel_rfl) (Or.inl ⟨by rfl,by intro b a;first | (go_simp;done) | (go_simp;exact e1) | (go_simp;simp [e1])⟩) ‹_› ?_
 simp only [Act.put,sit,sc0,scs]
 refine tk 21 (.bool false) (n8 (n8 (n4 (n1 nz)))) (by kernel_rfl) (Or.inl ⟨by rfl,by intro w a;go_simp⟩) ‹_› ?_
 simp only [Act.put,sit,sc0,scs]
 refine tk 22 (.bool false) (n8 (n8 (n4 (n2 nz)))) (by kernel_rfl) (Or.inl ⟨by rfl,by intro w a;go_simp⟩) ‹_› ?_
 simp only [Act.put,sit,sc0,scs]
 refine tk 23 (.pointer (some ⟨g,10,none⟩)) (n8 (n8 (n4 (n2 (n1 nz))))) (by kernel_rfl) (Or.inl ⟨by rfl,by intro w a;go_simp⟩) ‹_› ?_
 simp only [Act.put,sit,sc0,scs]
 refine tk 24 (.slice (some ⟨n,s,none⟩) d.tk.length o) (n8 (n8 (n8 nz))) (by kernel_rfl) (Or.inl ⟨by rfl,by intro b a;have c:=cell_of_row b (g) 10 _ _ _ a.1;go_simp⟩) ‹_› ?_
 simp only [Act.put,sit,sc0,scs]
 refine tk 25 (.int .i64 (k:Nat)) (n8 (n8 (n8 (n1 nz)))) (by kernel_rfl) (Or.inl ⟨by rfl,by intro w a;go_simp⟩) ‹_› ?_
 simp only [Act.put,sit,sc0,scs]
 refine tk 26 (.pointer (some ⟨n,s+k,none⟩)) (n8 (n8 (n8 (n2 nz)))) (by kernel_rfl) (Or.inl ⟨by rfl,by intro w a;go_simp⟩) ‹_› ?_
 simp only [Act.put,sit,sc0,scs]
 refine tk 27 (.slice pt lt qt) (n8 (n8 (n8 (n2 (n1 nz))))) (by kernel_rfl) (Or.inl ⟨by rfl,by intro b a;have c:=a.2.2.2;go_simp⟩) ‹_› ?_
 simp only [Act.put,sit,sc0,scs]
 refine tk 28 (.int .i64 (lt:Nat)) (n8 (n8 (n8 (n4 nz)))) (by kernel_rfl) (Or.inl ⟨by rfl,by intro w a;go_simp⟩) ‹_› ?_
 simp only [Act.put,sit,sc0,scs]
 refine tk 29 (.pointer (some ⟨g,5,none⟩)) (n8 (n8 (n8 (n4 (n1 nz))))) (by kernel_rfl) (Or.inl ⟨by rfl,by intro w a;go_simp⟩) ‹_› ?_
 simp only [Act.put,sit,sc0,scs]
 refine tk 30 (.slice (some ⟨f,i,none⟩) d.ls.length j) (n8 (n8 (n8 (n4 (n2 nz))))) (by kernel_rfl) (Or.inl ⟨by rfl,by intro b a;have c:=cell_of_row b (g) 5 _ _ _ a.1;go_simp⟩) ‹_› ?_
 simp only [Act.put,sit,sc0,scs]
 refine tk 31 (.int .i64 (k:Nat)) (n8 (n8 (n8 (n4 (n2 (n1 nz)))))) (by kernel_rfl) (Or.inl ⟨by rfl,by intro w a;go_simp⟩) ‹_› ?_
 simp only [Act.put,sit,sc0,scs]
 refine tk 32 (.pointer (some ⟨f,i+k * 5,none⟩)) (n8 (n8 (n8 (n8 nz)))) (by kernel_rfl) (Or.inl ⟨by rfl,by intro w a;go_simp⟩) ‹_› ?_
 simp only [Act.put,sit,sc0,scs]
 refine tk 33 (.pointer (some ⟨f,i+k * 5+3,none⟩)) (n8 (n8 (n8 (n8 (n1 nz))))) (by kernel_rfl) (Or.inl ⟨by rfl,by intro w a;go_simp⟩) ‹_› ?_
 simp only [Act.put,sit,sc0,scs]
 refine tk 34 (.int .i64 l.got) (n8 (n8 (n8 (n8 (n2 nz))))) (by kernel_rfl) (Or.inl ⟨by rfl,by intro b a;have c:=(a.2.1 3 _ rfl);go_simp⟩) ‹_› ?_
 simp only [Act.put,sit,sc0,scs]
 refine tk 35 (.bool c2) (n8 (n8 (n8 (n8 (n2 (n1 nz)))))) (by kernel_rfl) (Or.inl ⟨by rfl,by intro b a;first | (go_simp;done) | (go_simp;exact e2) | (go_simp;simp [e2])⟩) ‹_› ?_
 simp only [Act.put,sit,sc0,scs]
 refine tk 36 (.bool c2) (n8 (n8 (n8 (n8 (n4 nz))))) (by kernel_rfl) (Or.inl ⟨by rfl,by intro w a;go_simp⟩) ‹_› ?_
 simp only [Act.put,sit,sc0,scs]
 refine wpAnyH_done (by kernel_rfl) ?_ _
 exact NoPanic.normal (hQ _ _ _ _ _ _ _ _ _ _ _ _ _ _ _ _ _ _ _ _ _ _ _ _ _ _ _ _ _ _ _ _ _ _ _ _ _ B)
theorem Zii {w:World}{g o:Nat}{c:Value}{cs:List Value}(h:w.rangeAt g o (c :: cs)):w.rangeAt g (o+1) cs:=fun j v a=>by
 have:=h (j+1) v (by simpa using a)
 rwa [show o+1+j=o+(j+1) by omega]
abbrev opr8:List Oper:=⟨some 11,.fieldAddr 50 (.tmp 1) 2,0, "l13_world.go:30", #[],none⟩ :: ⟨some 12,.load 45 (.tmp 11),45, "l13_world.go:30", #[⟨0,.data⟩],none⟩ :: ⟨some 13,.move (.tmp 3),3, "l13_world.go:30", #[],none⟩ :: ⟨some 14,.indexAddr 45 (.tmp 12) (.tmp 13),0, "l13_world.go:30", #[⟨1,.data⟩,⟨2,.data⟩],none⟩ :: ⟨some 15,.fieldAddr 66 (.tmp 14) 0,0, "l13_world.go:30", #[⟨3,.data⟩],none⟩ :: ⟨some 16,.load 3 (.tmp 15),3, "l13_world.go:30", #[⟨4,.data⟩],none⟩ :: ⟨some 17,.fieldAddr 50 (.tmp 1) 1,0, "l13_world.go:30", #[],none⟩ :: ⟨some 18,.load 3 (.tmp 17),3, "l13_world.go:30", #[⟨6,.data⟩],none⟩ :: ⟨some 19,.binOp .sub 3 (.tmp 18) (.const (.int IntKind.i64 1)) 3,3, "l13_world.go:30", #[⟨7,.data⟩],none⟩ :: ⟨some 20,.call { callee:=.value (.func 40),args:=#[.tmp 16,.const (.int IntKind.i64 0),.tmp 19],argTypes:=#[3,3,3] },4, "l13_world.go:30", #[⟨5,.data⟩,⟨8,.data⟩],none⟩ :: ⟨some 21,.unOp .not 4 (.tmp 20),4, "l13_world.go:30", #[⟨9,.data⟩],none⟩ :: ⟨some 22,.move (.tmp 21),4, "l13_world.go:30", #[⟨10,.data⟩,⟨9,.chain⟩],none⟩ :: ⟨some 23,.fieldAddr 50 (.tmp 1) 0,0, "l13_world.go:30", #[⟨11,.guard⟩],some (11,false)⟩ :: ⟨some 24,.load 44 (.tmp 23),44, "l13_world.go:30", #[⟨12,.data⟩,⟨11,.guard⟩],some (11,false)⟩ :: ⟨some 25,.fieldAddr 50 (.tmp 1) 2,0, "l13_world.go:30", #[⟨11,.guard⟩],some (11,false)⟩ :: ⟨some 26,.load 45 (.tmp 25),45, "l13_world.go:30", #[⟨14,.data⟩,⟨11,.guard⟩],some (11,false)⟩ :: ⟨some 27,.move (.tmp 3),3, "l13_world.go:30", #[⟨11,.guard⟩],some (11,false)⟩ :: ⟨some 28,.indexAddr 45 (.tmp 26) (.tmp 27),0, "l13_world.go:30", #[⟨15,.data⟩,⟨16,.data⟩,⟨11,.guard⟩],some (11,false)⟩ :: ⟨some 29,.fieldAddr 66 (.tmp 28) 1,0, "l13_world.go:30", #[⟨17,.data⟩,⟨11,.guard⟩],some (11,false)⟩ :: ⟨some 30,.load 64 (.tmp 29),64, "l13_world.go:30", #[⟨18,.data⟩,⟨11,.guard⟩],some (11,false)⟩ :: ⟨some 31,.call { callee:=.value (.func 79),args:=#[.tmp 24,.tmp 30],argTypes:=#[44,64] },4, "l13_world.go:30", #[⟨13,.data⟩,⟨19,.data⟩,⟨11,.chain⟩,⟨11,.guard⟩],some (11,false)⟩ :: ⟨some 32,.unOp .not 4 (.tmp 31),4, "l13_world.go:30", #[⟨20,.data⟩,⟨11,.guard⟩],some (11,false)⟩ :: ⟨some 33,.pick (.tmp 22) (.const (.bool true)) (.tmp 32),4, "l13_world.go:30", #[⟨11,.data⟩,⟨21,.data⟩],none⟩ :: []
theorem Zkx {t0 t2 t4 t5 t6 t7 t8 t9 x ag X ai ae ap af ao aq am al V ar U S Y aa an ab ac Z ah aj ak O v H G:Value}{fs:List Deferred}(j f g k:Nat)(M z y u R N E o:Option Addr)(C D A l J P I L F:Nat)(d:Wd)(h:Hm)(v1 v2 v3:Value)(w:World)(Q:Exit -> Act -> World -> Prop)(hx:w.heap[j]? = some (.cells #[.slice M d.ns.length C,.slice z d.is.length D,.slice y d.ds.length A,.int .i64 d.pl,.slice (some ⟨f,g,none⟩) d.hs.length l,.slice u d.ls.length J,.slice R d.gs.length P,.slice N d.ps.length I,.int .i64 d.nx,.slice E d.ga.length L,.slice o d.tk.length F] 50 (0,0)))(hl:w.rangeAt f (g+k * 12) [.int .i64 h.pl,.int .i64 h.i,v1,.int .i64 h.m.p,.int .i64 h.m.s,.int .i64 h.m.e,.int .i64 h.m.d,.int .i64 h.m.t,.int .i64 h.m.q,.int .i64 h.m.r,v2,v3])(ad:f < w.heap.size)(au:k < d.hs.length)(ax:1 <= d.pl)(av:d.pl <= 3)(T:(decide (0 <= h.pl) && decide (h.pl <= d.pl - 1))=false)(hQ:∀ u11 u12 u13 u14 u15 u16 u17 u18 u19 u20 u21 u22 u23 u24 u25 u26 u27 u28 u29 u30 u31 u32 (W:World),Below w.heap.size w W -> Q .normal ⟨#[t0,.pointer (some ⟨j,0,none⟩),t2,.int .i64 (k:Nat),t4,t5,t6,t7,t8,t9,x,u11,u12,u13,u14,u15,u16,u17,u18,u19,u20,u21,u22,u23,u24,u25,u26,u27,u28,u29,u30,u31,u32,.bool true,O,v,H,G],fs⟩ W) :
  (Code.region 4 opr8.toArray true).wp Tryz.prog Q ⟨#[t0,.pointer (some ⟨j,0,none⟩),t2,.int .i64 (k:Nat),t4,t5,t6,t7,t8,t9,x,ag,X,ai,ae,ap,af,ao,aq,am,al,V,ar,U,S,Y,aa,an,ab,ac,Z,ah,aj,ak,O,v,H,G],fs⟩ w:=by
 have hS:∀ b,Below w.heap.size w b -> (b.heap[j]? = some (.cells #[.slice M d.ns.length C,.slice z d.is.length D,.slice y d.ds.length A,.int .i64 d.pl,.slice (some ⟨f,g,none⟩) d.hs.length l,.slice u d.ls.length J,.slice R d.gs.length P,.slice N d.ps.length I,.int .i64 d.nx,.slice E d.ga.length L,.slice o d.tk.length F] 50 (0,0))/\b.rangeAt f (g+k * 12) [.int .i64 h.pl,.int .i64 h.i,v1,.int .i64 h.m.p,.int .i64 h.m.s,.int .i64 h.m.e,.int .i64 h.m.d,.int .i64 h.m.t,.int .i64 h.m.q,.int .i64 h.m.r,v2,v3]):=fun b hb=>⟨Zae hx hb,Zaf hl hb ad⟩
 have aw:(k:Int) < (d.hs.length:Int):=by omega
 have B:Below w.heap.size w w.drew:=Zaw w
 refine rg hS B (by kernel_rfl) fun n=>?_
 refine tk 0 (.pointer (some ⟨j,4,none⟩)) nz (by kernel_rfl) (Or.inl ⟨by rfl,by intro w a;go_simp⟩) ‹_› ?_
 simp only [Act.put,sit,sc0,scs]
 refine tk 1 (.slice (some ⟨f,g,none⟩) d.hs.length l) (n1 nz) (by kernel_rfl) (Or.inl ⟨by rfl,by intro b a;have c:=cell_of_row b (j) 4 _ _ _ a.1;go_simp⟩) ‹_› ?_
 simp only [Act.put,sit,sc0,scs]
 refine tk 2 (.int .i64 (k:Nat)) (n2 nz) (by kernel_rfl) (Or.inl ⟨by rfl,by intro w a;go_simp⟩) ‹_› ?_
 simp only [Act.put,sit,sc0,scs]
 refine tk 3 (.pointer (some ⟨f,g+k * 12,none⟩)) (n2 (n1 nz)) (by kernel_rfl) (Or.inl ⟨by rfl,by intro w a;go_simp⟩) ‹_› ?_
 simp only [Act.put,sit,sc0,scs]
 refine tk 4 (.pointer (some ⟨f,g+k * 12,none⟩)) (n4 nz) (by kernel_rfl) (Or.inl ⟨by rfl,by intro w a;go_simp⟩) ‹_› ?_
 simp only [Act.put,sit,sc0,scs]
 refine tk 5 (.int .i64 h.pl) (n4 (n1 nz)) (by kernel_rfl) (Or.inl ⟨by rfl,by intro b a;have c:=(show b.cell? ⟨f,g+k * 12,none⟩=some (.int .i64 h.pl) from a.2 0 _ rfl);go_simp⟩) ‹_› ?_
 simp only [Act.put,sit,sc0,scs]
 refine tk 6 (.pointer (some ⟨j,3,none⟩)) (n4 (n2 nz)) (by kernel_rfl) (Or.inl ⟨by rfl,by intro w a;go_simp⟩) ‹_› ?_
 simp only [Act.put,sit,sc0,scs]
 refine tk 7 (.int .i64 d.pl) (n4 (n2 (n1 nz))) (by kernel_rfl) (Or.inl ⟨by rfl,by intro b a;have c:=cell_of_row b (j) 3 _ _ _ a.1;go_simp⟩) ‹_› ?_
 simp only [Act.put,sit,sc0,scs]
 refine tk 8 (.int .i64 (d.pl - 1)) (n8 nz) (by kernel_rfl) (Or.inl ⟨by rfl,by intro b a;first | (go_simp;done) | (go_simp;rw [IntKind.wrap_i64];omega)⟩) ‹_› ?_
 simp only [Act.put,sit,sc0,scs]
 refine wpAnyH_ready (rs:=[9]) (by kernel_rfl) (by simp) ?_
 refine AllReadyH.cons rfl (fun K hK=>?_) AllReadyH.nil
 go_simp
 go_wp2_with (go_at_call 40;with_reducible refine (Zar _ _ _ _).mono ?_;rintro e wE ⟨rfl,rfl⟩)
 try rw [T]
 refine hK.out _ _ (hS _ B) (fun n=>?_)
 clear hK
 refine tk 10 (.bool true) (n8 (n2 nz)) (by kernel_rfl) (Or.inl ⟨by rfl,by intro w a;go_simp⟩) ‹_› ?_
 simp only [Act.put,sit,sc0,scs]
 refine tk 11 (.bool true) (n8 (n2 (n1 nz))) (by kernel_rfl) (Or.inl ⟨by rfl,by intro w a;go_simp⟩) ‹_› ?_
 simp only [Act.put,sit,sc0,scs]
 refine tk 12 (undef) (n8 (n4 nz)) (by kernel_rfl) (Or.inr ⟨by rfl,rfl⟩) ‹_› ?_
 simp only [Act.put,sit,sc0,scs]
 refine tk 13 (undef) (n8 (n4 (n1 nz))) (by kernel_rfl) (Or.inr ⟨by rfl,rfl⟩) ‹_› ?_
 simp only [Act.put,sit,sc0,scs]
 refine tk 14 (undef) (n8 (n4 (n2 nz))) (by kernel_rfl) (Or.inr ⟨by rfl,rfl⟩) ‹_› ?_
 simp only [Act.put,sit,sc0,scs]
 refine tk 15 (undef) (n8 (n4 (n2 (n1 nz)))) (by kernel_rfl) (Or.inr ⟨by rfl,rfl⟩) ‹_› ?_
 simp only [Act.put,sit,sc0,scs]
 refine tk 16 (undef) (n8 (n8 nz)) (by kernel_rfl) (Or.inr ⟨by rfl,rfl⟩) ‹_› ?_
 simp only [Act.put,sit,sc0,scs]
 refine tk 17 (undef) (n8 (n8 (n1 nz))) (by kernel_rfl) (Or.inr ⟨by rfl,rfl⟩) ‹_› ?_
 simp only [Act.put,sit,sc0,scs]
 refine tk 18 (undef) (n8 (n8 (n2 nz))) (by kernel_rfl) (Or.inr ⟨by rfl,rfl⟩) ‹_› ?_
 simp only [Act.put,sit,sc0,scs]
 refine tk 19 (undef) (n8 (n8 (n2 (n1 nz)))) (by kernel_rfl) (Or.inr ⟨by rfl,rfl⟩) ‹_› ?_
 simp only [Act.put,sit,sc0,scs]
 refine tk 20 (undef) (n8 (n8 (n4 nz))) (by kernel_rfl) (Or.inr ⟨by rfl,rfl⟩) ‹_› ?_
 simp only [Act.put,sit,sc0,scs]
 refine tk 21 (undef) (n8 (n8 (n4 (n1 nz)))) (by kernel_rfl) (Or.inr ⟨by rfl,rfl⟩) ‹_› ?_
 simp only [Act.put,sit,sc0,scs]
 refine tk 22 (.bool true) (n8 (n8 (n4 (n2 nz)))) (by kernel_rfl) (Or.inl ⟨by rfl,by intro w a;go_simp⟩) ‹_› ?_
 simp only [Act.put,sit,sc0,scs]
 refine wpAnyH_done (by kernel_rfl) ?_ _
 exact NoPanic.normal (hQ _ _ _ _ _ _ _ _ _ _ _ _ _ _ _ _ _ _ _ _ _ _ _ B)
theorem Zkc {t0 t2 t4 t5 t6 t7 t8 t9 A ai am ap aw ae ah aq af ad ac ar ay Y al Z ao ax av aa an aj ak ab V L R M:Value}{fs:List Deferred}(g f j k:Nat)(n v u O N U C J:Option Addr)(o l x z E X P S D:Nat)(d:Wd)(h:Hm)(H T F:Value)(w:World)(Q:Exit -> Act -> World -> Prop)(hx:w.heap[g]? = some (.cells #[.slice n d.ns.length o,.slice v d.is.length l,.slice u d.ds.length x,.int .i64 d.pl,.slice (some ⟨f,j,none⟩) d.hs.length z,.slice O d.ls.length E,.slice N d.gs.length X,.slice U d.ps.length P,.int .i64 d.nx,.slice C d.ga.length S,.slice J d.tk.length D] 50 (0,0)))(hl:w.rangeAt f (j+k * 12) [.int .i64 h.pl,.int .i64 h.i,H,.int .i64 h.m.p,.int .i64 h.m.s,.int .i64 h.m.e,.int .i64 h.m.d,.int .i64 h.m.t,.int .i64 h.m.q,.int .i64 h.m.r,T,F])(au:f < w.heap.size)(aC:k < d.hs.length)(aB:1 <= d.pl)(aA:d.pl <= 3)(ag:(decide (0 <= h.pl) && decide (h.pl <= d.pl - 1))=true)(pb:Bool)(HC:∀ W,Below w.heap.size w W -> Calls Tryz.prog 79 #[.agg #[.slice n d.ns.length o,.slice v d.is.length l,.slice u d.ds.length x],.agg #[.int .i64 h.i,H,.int .i64 h.m.p,.int .i64 h.m.s,.int .i64 h.m.e,.int .i64 h.m.d,.int .i64 h.m.t,.int .i64 h.m.q,.int .i64 h.m.r,T,F]] W fun e b=>e=.returned (.bool pb)/\Below W.heap.size W b)(hQ:∀ u11 u12 u13 u14 u15 u16 u17 u18 u19 u20 u21 u22 u23 u24 u25 u26 u27 u28 u29 u30 u31 u32 (W:World),Below w.heap.size w W -> Q .normal ⟨#[t0,.pointer (some ⟨g,0,none⟩),t2,.int .i64 (k:Nat),t4,t5,t6,t7,t8,t9,A,u11,u12,u13,u14,u15,u16,u17,u18,u19,u20,u21,u22,u23,u24,u25,u26,u27,u28,u29,u30,u31,u32,.bool (!pb),V,L,R,M],fs⟩ W) :
  (Code.region 4 opr8.toArray true).wp Tryz.prog Q ⟨#[t0,.pointer (some ⟨g,0,none⟩),t2,.int .i64 (k:Nat),t4,t5,t6,t7,t8,t9,A,ai,am,ap,aw,ae,ah,aq,af,ad,ac,ar,ay,Y,al,Z,ao,ax,av,aa,an,aj,ak,ab,V,L,R,M],fs⟩ w:=by
 have hS:∀ b,Below w.heap.size w b -> (b.heap[g]? = some (.cells #[.slice n d.ns.length o,.slice v d.is.length l,.slice u d.ds.length x,.int .i64 d.pl,.slice (some ⟨f,j,none⟩) d.hs.length z,.slice O d.ls.length E,.slice N d.gs.length X,.slice U d.ps.length P,.int .i64 d.nx,.slice C d.ga.length S,.slice J d.tk.length D] 50 (0,0))/\b.rangeAt f (j+k * 12) [.int .i64 h.pl,.int .i64 h.i,H,.int .i64 h.m.p,.int .i64 h.m.s,.int .i64 h.m.e,.int .i64 h.m.d,.int .i64 h.m.t,.int .i64 h.m.q,.int .i64 h.m.r,T,F]):=fun b I=>⟨Zae hx I,Zaf hl I au⟩
 have az:(k:Int) < (d.hs.length:Int):=by omega
 have B:Below w.heap.size w w.drew:=Zaw w
 refine rg hS B (by kernel_rfl) fun y=>?_
 refine tk 0 (.pointer (some ⟨g,4,none⟩)) nz (by kernel_rfl) (Or.inl ⟨by rfl,by intro w a;go_simp⟩) ‹_› ?_
 simp only [Act.put,sit,sc0,scs]
 refine tk 1 (.slice (some ⟨f,j,none⟩) d.hs.length z) (n1 nz) (by kernel_rfl) (Or.inl ⟨by rfl,by intro b a;have c:=cell_of_row b (g) 4 _ _ _ a.1;go_simp⟩) ‹_› ?_
 simp only [Act.put,sit,sc0,scs]
 refine tk 2 (.int .i64 (k:Nat)) (n2 nz) (by kernel_rfl) (Or.inl ⟨by rfl,by intro w a;go_simp⟩) ‹_› ?_
 simp only [Act.put,sit,sc0,scs]
 refine tk 3 (.pointer (some ⟨f,j+k * 12,none⟩)) (n2 (n1 nz)) (by kernel_rfl) (Or.inl ⟨by rfl,by intro w a;go_simp⟩) ‹_› ?_
 simp only [Act.put,sit,sc0,scs]
 refine tk 4 (.pointer (some ⟨f,j+k * 12,none⟩)) (n4 nz) (by kernel_rfl) (Or.inl ⟨by rfl,by intro w a;go_simp⟩) ‹_› ?_
 simp only [Act.put,sit,sc0,scs]
 refine tk 5 (.int .i64 h.pl) (n4 (n1 nz)) (by kernel_rfl) (Or.inl ⟨by rfl,by intro b a;have c:=(show b.cell? ⟨f,j+k * 12,none⟩=some (.int .i64 h.pl) from a.2 0 _ rfl);go_simp⟩) ‹_› ?_
 simp only [Act.put,sit,sc0,scs]
 refine tk 6 (.pointer (some ⟨g,3,none⟩)) (n4 (n2 nz)) (by kernel_rfl) (Or.inl ⟨by rfl,by intro w a;go_simp⟩) ‹_› ?_
 simp only [Act.put,sit,sc0,scs]
 refine tk 7 (.int .i64 d.pl) (n4 (n2 (n1 nz))) (by kernel_rfl) (Or.inl ⟨by rfl,by intro b a;have c:=cell_of_row b (g) 3 _ _ _ a.1;go_simp⟩) ‹_› ?_
 simp only [Act.put,sit,sc0,scs]
 refine tk 8 (.int .i64 (d.pl - 1)) (n8 nz) (by kernel_rfl) (Or.inl ⟨by rfl,by intro b a;first | (go_simp;done) | (go_simp;rw [IntKind.wrap_i64];omega)⟩) ‹_› ?_
 simp only [Act.put,sit,sc0,scs]
 refine wpAnyH_ready (rs:=[9]) (by kernel_rfl) (by simp) ?_
 refine AllReadyH.cons rfl (fun K G=>?_) AllReadyH.nil
 go_simp
 go_wp2_with (go_at_call 40;with_reducible refine (Zar _ _ _ _).mono ?_;rintro e wE ⟨rfl,rfl⟩)
 try rw [ag]
 refine G.out _ _ (hS _ B) (fun y=>?_)
 clear G
 refine tk 10 (.bool false) (n8 (n2 nz)) (by kernel_rfl) (Or.inl ⟨by rfl,by intro w a;go_simp⟩) ‹_› ?_
 simp only [Act.put,sit,sc0,scs]
 refine tk 11 (.bool false) (n8 (n2 (n1 nz))) (by kernel_rfl) (Or.inl ⟨by rfl,by intro w a;go_simp⟩) ‹_› ?_
 simp only [Act.put,sit,sc0,scs]
 refine tk 12 (.pointer (some ⟨g,0,none⟩)) (n8 (n4 nz)) (by kernel_rfl) (Or.inl ⟨by rfl,by intro w a;go_simp⟩) ‹_› ?_
 simp only [Act.put,sit,sc0,scs]
 refine tk 13 (.agg #[.slice n d.ns.length o,.slice v d.is.length l,.slice u d.ds.length x]) (n8 (n4 (n1 nz))) (by kernel_rfl) (yieldsIf_load_mid (by rfl) 44 _ rfl g 0 rfl [.slice n d.ns.length o,.slice v d.is.length l,.slice u d.ds.length x] _ (fun _ h=>World.rangeAt_of_block h.1 0 3) Tryz.underlying44 rfl (by kernel_rfl)) ‹_› ?_
 simp only [Act.put,sit,sc0,scs]
 refine tk 14 (.pointer (some ⟨g,4,none⟩)) (n8 (n4 (n2 nz))) (by kernel_rfl) (Or.inl ⟨by rfl,by intro w a;go_simp⟩) ‹_› ?_
 simp only [Act.put,sit,sc0,scs]
 refine tk 15 (.slice (some ⟨f,j,none⟩) d.hs.length z) (n8 (n4 (n2 (n1 nz)))) (by kernel_rfl) (Or.inl ⟨by rfl,by intro b a;have c:=cell_of_row b (g) 4 _ _ _ a.1;go_simp⟩) ‹_› ?_
 simp only [Act.put,sit,sc0,scs]
 refine tk 16 (.int .i64 (k:Nat)) (n8 (n8 nz)) (by kernel_rfl) (Or.inl ⟨by rfl,by intro w a;go_simp⟩) ‹_› ?_
 simp only [Act.put,sit,sc0,scs]
 refine tk 17 (.pointer (some ⟨f,j+k * 12,none⟩)) (n8 (n8 (n1 nz))) (by kernel_rfl) (Or.inl ⟨by rfl,by intro w a;go_simp⟩) ‹_› ?_
 simp only [Act.put,sit,sc0,scs]
 refine tk 18 (.pointer (some ⟨f,j+k * 12+1,none⟩)) (n8 (n8 (n2 nz))) (by kernel_rfl) (Or.inl ⟨by rfl,by intro w a;go_simp⟩) ‹_› ?_
 simp only [Act.put,sit,sc0,scs]
 refine tk 19 (.agg #[.int .i64 h.i,H,.int .i64 h.m.p,.int .i64 h.m.s,.int .i64 h.m.e,.int .i64 h.m.d,.int .i64 h.m.t,.int .i64 h.m.q,.int .i64 h.m.r,T,F]) (n8 (n8 (n2 (n1 nz)))) (by kernel_rfl) (yieldsIf_load_mid (by rfl) 64 _ rfl f (j+k * 12+1) rfl [.int .i64 h.i,H,.int .i64 h.m.p,.int .i64 h.m.s,.int .i64 h.m.e,.int .i64 h.m.d,.int .i64 h.m.t,.int .i64 h.m.q,.int .i64 h.m.r,T,F] _ (fun _ h=>Zii h.2) Tryz.underlying64 rfl (by kernel_rfl)) ‹_› ?_
 simp only [Act.put,sit,sc0,scs]
 refine wpAnyH_ready (rs:=[20]) (by kernel_rfl) (by simp) ?_
 refine AllReadyH.cons rfl (fun K G=>?_) AllReadyH.nil
 go_simp
 go_wp2_with (go_at_call 79;with_reducible refine (HC _ B).mono ?_;rintro e wE ⟨rfl,I⟩)
 replace B:=B.trans (I.mono B.size)
 clear I
 refine G.out _ _ (hS _ B) (fun y=>?_)
 clear G
 refine tk 21 (.bool (!pb)) (n8 (n8 (n4 (n1 nz)))) (by kernel_rfl) (Or.inl ⟨by rfl,by intro w a;go_simp⟩) ‹_› ?_
 simp only [Act.put,sit,sc0,scs]
 refine tk 22 (.bool (!pb)) (n8 (n8 (n4 (n2 nz)))) (by kernel_rfl) (Or.inl ⟨by rfl,by intro w a;go_simp⟩) ‹_› ?_
 simp only [Act.put,sit,sc0,scs]
 refine wpAnyH_done (by kernel_rfl) ?_ _
 exact NoPanic.normal (hQ _ _ _ _ _ _ _ _ _ _ _ _ _ _ _ _ _ _ _ _ _ _ _ B)
theorem Zj9 {t0 t2 t3 t4 t6 t7 t8 t9 j Y ai au aJ I X aw J E D ay aX m ac n aj aR aF o ak Z aa A aT ae aM ar av S M ap ag af F ax aq U O aH L V aI z aP P l aK al aB aL aN aV ao aE a3 a2 a9 a0 a7 ba a5 aZ a8 a4 a6 q aO aG am an R aS N r ab:Value}{fs:List Deferred}(g f op k:Nat)(G aC ah H aA az v ad:Option Addr)(T u aD aW C aU h aQ y:Nat)(d:Wd)(x:Pd)(w:World)(Q:Exit -> Act -> World -> Prop)(hx:w.heap[g]? = some (.cells #[.slice G d.ns.length T,.slice aC d.is.length u,.slice ah d.ds.length aD,.int .i64 d.pl,.slice H d.hs.length aW,.slice aA d.ls.length C,.slice az d.gs.length aU,.slice (some ⟨f,op,none⟩) d.ps.length h,.int .i64 d.nx,.slice v d.ga.length aQ,.slice ad d.tk.length y] 50 (0,0)))(hl:w.rangeAt f (op+k * 3) [.int .i64 x.p,.int .i64 x.t,.string x.s])(aY:f < w.heap.size)(be:k < d.ps.length)(bf:1 <= d.pl)(bd:d.pl <= 3)(pb:Bool)(a1:(decide (0 <= x.p) && decide (x.p <= d.pl - 1))=pb)(hQ:∀ u65 u66 u67 u68 u69 u70 u71 u72 u73 u74 (W:World),Below w.heap.size w W -> Q .normal ⟨#[t0,.pointer (some ⟨g,0,none⟩),t2,t3,t4,.int .i64 (k:Nat),t6,t7,t8,t9,j,Y,ai,au,aJ,I,X,aw,J,E,D,ay,aX,m,ac,n,aj,aR,aF,o,ak,Z,aa,A,aT,ae,aM,ar,av,S,M,ap,ag,af,F,ax,aq,U,O,aH,L,V,aI,z,aP,P,l,aK,al,aB,aL,aN,aV,ao,aE,u65,u66,u67,u68,u69,u70,u71,u72,u73,u74,.bool (!pb),q,aO,aG,am,an,R,aS,N,r,ab],fs⟩ W) :
  (Code.region 10 (List.toArray (⟨some 65,.fieldAddr 50 (.tmp 1) 5,0, "l13_world.go:58", #[],none⟩ :: ⟨some 66,.load 48 (.tmp 65),48, "l13_world.go:58", #[⟨0,.data⟩],none⟩ :: ⟨some 67,.move (.tmp 5),3, "l13_world.go:58", #[],none⟩ :: ⟨some 68,.indexAddr 48 (.tmp 66) (.tmp 67),0, "l13_world.go:58", #[⟨1,.data⟩,⟨2,.data⟩],none⟩ :: ⟨some 69,.fieldAddr 124 (.tmp 68) 0,0, "l13_world.go:58", #[⟨3,.data⟩],none⟩ :: ⟨some 70,.load 3 (.tmp 69),3, "l13_world.go:58", #[⟨4,.data⟩],none⟩ :: ⟨some 71,.fieldAddr 50 (.tmp 1) 1,0, "l13_world.go:58", #[],none⟩ :: ⟨some 72,.load 3 (.tmp 71),3, "l13_world.go:58", #[⟨6,.data⟩],none⟩ :: ⟨some 73,.binOp .sub 3 (.tmp 72) (.const (.int IntKind.i64 1)) 3,3, "l13_world.go:58", #[⟨7,.data⟩],none⟩ :: ⟨some 74,.call { callee:=.value (.func 40),args:=#[.tmp 70,.const (.int IntKind.i64 0),.tmp 73],argTypes:=#[3,3,3] },4, "l13_world.go:58", #[⟨5,.data⟩,⟨8,.data⟩],none⟩ :: ⟨some 75,.unOp .not 4 (.tmp 74),4, "l13_world.go:58", #[⟨9,.data⟩],none⟩ :: [])) true).wp Tryz.prog Q ⟨#[t0,.pointer (some ⟨g,0,none⟩),t2,t3,t4,.int .i64 (k:Nat),t6,t7,t8,t9,j,Y,ai,au,aJ,I,X,aw,J,E,D,ay,aX,m,ac,n,aj,aR,aF,o,ak,Z,aa,A,aT,ae,aM,ar,av,S,M,ap,ag,af,F,ax,aq,U,O,aH,L,V,aI,z,aP,P,l,aK,al,aB,aL,aN,aV,ao,aE,a3,a2,a9,a0,a7,ba,a5,aZ,a8,a4,a6,q,aO,aG,am,an,R,aS,N,r,ab],fs⟩ w:=by
 have hS:∀ b,Below w.heap.size w b -> (b.heap[g]? = some (.cells #[.slice G d.ns.length T,.slice aC d.is.length u,.slice ah d.ds.length aD,.int .i64 d.pl,.slice H d.hs.length aW,.slice aA d.ls.length C,.slice az d.gs.length aU,.slice (some ⟨f,op,none⟩) d.ps.length h,.int .i64 d.nx,.slice v d.ga.length aQ,.slice ad d.tk.length y] 50 (0,0))/\b.rangeAt f (op+k * 3) [.int .i64 x.p,.int .i64 x.t,.string x.s]):=fun b hb=>⟨Zae hx hb,Zaf hl hb aY⟩
 have bc:(k:Int) < (d.ps.length:Int):=by omega
 have B:Below w.heap.size w w.drew:=Zaw w
 refine rg hS B (by kernel_rfl) fun i=>?_
 refine tk 0 (.pointer (some ⟨g,7,none⟩)) nz (by kernel_rfl) (Or.inl ⟨by rfl,by intro w a;go_simp⟩) ‹_› ?_
 simp only [Act.put,sit,sc0,scs]
 refine tk 1 (.slice (some ⟨f,op,none⟩) d.ps.length h) (n1 nz) (by kernel_rfl) (Or.inl ⟨by rfl,by intro b a;have c:=cell_of_row b (g) 7 _ _ _ a.1;go_simp⟩) ‹_› ?_
 simp only [Act.put,sit,sc0,scs]
 refine tk 2 (.int .i64 (k:Nat)) (n2 nz) (by kernel_rfl) (Or.inl ⟨by rfl,by intro w a;go_simp⟩) ‹_› ?_
 simp only [Act.put,sit,sc0,scs]
 refine tk 3 (.pointer (some ⟨f,op+k * 3,none⟩)) (n2 (n1 nz)) (by kernel_rfl) (Or.inl ⟨by rfl,by intro w a;go_simp⟩) ‹_› ?_
 simp only [Act.put,sit,sc0,scs]
 refine tk 4 (.pointer (some ⟨f,op+k * 3,none⟩)) (n4 nz) (by kernel_rfl) (Or.inl ⟨by rfl,by intro w a;go_simp⟩) ‹_› ?_
 simp only [Act.put,sit,sc0,scs]
 refine tk 5 (.int .i64 x.p) (n4 (n1 nz)) (by kernel_rfl) (Or.inl ⟨by rfl,by intro b a;have c:=(show b.cell? ⟨f,op+k * 3,none⟩=some (.int .i64 x.p) from a.2 0 _ rfl);go_simp⟩) ‹_› ?_
 simp only [Act.put,sit,sc0,scs]
 refine tk 6 (.pointer (some ⟨g,3,none⟩)) (n4 (n2 nz)) (by kernel_rfl) (Or.inl ⟨by rfl,by intro w a;go_simp⟩) ‹_› ?_
 simp only [Act.put,sit,sc0,scs]
 refine tk 7 (.int .i64 d.pl) (n4 (n2 (n1 nz))) (by kernel_rfl) (Or.inl ⟨by rfl,by intro b a;have c:=cell_of_row b (g) 3 _ _ _ a.1;go_simp⟩) ‹_› ?_
 simp only [Act.put,sit,sc0,scs]
 refine tk 8 (.int .i64 (d.pl - 1)) (n8 nz) (by kernel_rfl) (Or.inl ⟨by rfl,by intro b a;first | (go_simp;done) | (go_simp;rw [IntKind.wrap_i64];omega)⟩) ‹_› ?_
 simp only [Act.put,sit,sc0,scs]
 refine wpAnyH_ready (rs:=[9]) (by kernel_rfl) (by simp) ?_
 refine AllReadyH.cons rfl (fun K hK=>?_) AllReadyH.nil
 go_simp
 go_wp2_with (go_at_call 40;with_reducible refine (Zar _ _ _ _).mono ?_;rintro e wE ⟨rfl,rfl⟩)
 try rw [a1]
 refine hK.out _ _ (hS _ B) (fun i=>?_)
 clear hK
 refine tk 10 (.bool (!pb)) (n8 (n2 nz)) (by kernel_rfl) (Or.inl ⟨by rfl,by intro w a;go_simp⟩) ‹_› ?_
 simp only [Act.put,sit,sc0,scs]
 refine wpAnyH_done (by kernel_rfl) ?_ _
 exact NoPanic.normal (hQ _ _ _ _ _ _ _ _ _ _ _ B)
end Go.Proofs.YtfeodlbpnghakaaGreatDoor
