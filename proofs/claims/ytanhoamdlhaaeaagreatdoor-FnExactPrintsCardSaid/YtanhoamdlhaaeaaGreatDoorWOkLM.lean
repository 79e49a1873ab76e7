/-
  Contracts of impl's linksFit and spec's l13Links. No condition but that there are 1 to 3 places.
-/
import Derived.Test.YtanhoamdlhaaeaaGreatDoorWOkRM
import Derived.Test.YtanhoamdlhaaeaaGreatDoorLkOkSM
set_option maxRecDepth 100000
set_option maxHeartbeats 6400000
namespace Go.Proofs.YtanhoamdlhaaeaaGreatDoor
open Go.Proofs.Tryz
open Go.RowKit
def lkB (ga tk:List (List ByteArray))(p:Lk × Nat):Bool:=Zbe p.1 && (decide (((ga.getD p.2 []).length:Int)=p.1.sent) && decide (((tk.getD p.2 []).length:Int)=p.1.got))
def lksB (d:Wd):Bool:=(decide ((d.ls.length:Int)=d.pl * d.pl) && (decide ((d.ga.length:Int)=d.pl * d.pl) && decide ((d.tk.length:Int)=d.pl * d.pl))) && d.ls.zipIdx.all (lkB d.ga d.tk)
theorem Zkk {α:Type}{a:List α}{k:Nat}{x:α}(h:a[k]? = some x):a.zipIdx[k]? = some (x,k):=by
 rw [List.getElem?_zipIdx,h];simp
theorem Zi9 {α:Type}(a:List α):a.zipIdx.length=a.length:=by simp
theorem ZeR (vn vi vf vh vl vg vp va vt:Value)(d:Wd)(B:Nat)(w:World)(R:WR B w vn vi vf vh vl vg vp va vt d)(aF:1 <= d.pl)(aG:d.pl <= 3) :
  Calls prog 69 #[.agg #[vn,vi,vf,.int .i64 d.pl,vh,vl,vg,vp,.int .i64 d.nx,va,vt]] w fun e w'=>e=.returned (.bool (lksB d))/\Below w.heap.size w w':=by
 have R0:=R;obtain ⟨⟨s,D,rfl⟩,⟨r,A,rfl⟩,⟨m,v,rfl⟩,⟨o,z,rfl⟩,⟨U,C,rfl⟩,⟨n,y,rfl⟩,⟨t,E,rfl⟩,⟨T,u,rfl⟩,⟨V,F,rfl⟩⟩:=R.form;have L:=Zaw w (Obj.cells #[.slice s d.ns.length D,.slice r d.is.length A,.slice m d.ds.length v,.int .i64 d.pl,.slice o d.hs.length z,.slice U d.ls.length C,.slice n d.gs.length y,.slice t d.ps.length E,.int .i64 d.nx,.slice T d.ga.length u,.slice V d.tk.length F] 51);have af:=cg w (Obj.cells #[.slice s d.ns.length D,.slice r d.is.length A,.slice m d.ds.length v,.int .i64 d.pl,.slice o d.hs.length z,.slice U d.ls.length C,.slice n d.gs.length y,.slice t d.ps.length E,.int .i64 d.nx,.slice T d.ga.length u,.slice V d.tk.length F] 51)
 obtain ⟨q,hq⟩:∃ q:Nat,(q:Int)=d.pl * d.pl:=by
  have K:d.pl=1 \/ d.pl=2 \/ d.pl=3:=by omega
  rcases K with h | h | h
  ·exact ⟨1,by rw [h];rfl⟩
  ·exact ⟨4,by rw [h];rfl⟩
  ·exact ⟨9,by rw [h];rfl⟩
 have aH:q <= 9:=by
  have K:d.pl=1 \/ d.pl=2 \/ d.pl=3:=by omega
  rcases K with h | h | h <;> rw [h] at hq <;> omega
 have au:d.pl * d.pl=(q:Int):=hq.symm;have HL:Hid (lksB d=((decide ((d.ls.length:Int)=(q:Int)) && (decide ((d.ga.length:Int)=(q:Int)) && decide ((d.tk.length:Int)=(q:Int)))) && d.ls.zipIdx.all (lkB d.ga d.tk))):=by unfold Hid lksB;rw [au]
 clear hq;have c3:(w.alloc (Obj.cells #[.slice s d.ns.length D,.slice r d.is.length A,.slice m d.ds.length v,.int .i64 d.pl,.slice o d.hs.length z,.slice U d.ls.length C,.slice n d.gs.length y,.slice t d.ps.length E,.int .i64 d.nx,.slice T d.ga.length u,.slice V d.tk.length F] 51)).cell? ⟨w.heap.size,0+3,none⟩=some (.int .i64 d.pl):=cd _ _ 3 _ _ _ af
 go_enter func69,ntmps69
 by_cases J:d.ls.length=q
 ·by_cases S:d.ga.length=q
  ·by_cases K:d.tk.length=q
   ·have Q:Hid (lksB d=d.ls.zipIdx.all (lkB d.ga d.tk)):=by unfold Hid;rw [HL.out];simp [J,S,K]
    have n1:((d.ls.length:Int) != (q:Int))=false:=by simp [J]
    have n2:((d.ga.length:Int) != (q:Int))=false:=by simp [S]
    have n3:((d.tk.length:Int) != (q:Int))=false:=by simp [K]
    replace J:Hid (d.ls.length=q):=J;replace S:Hid (d.ga.length=q):=S;replace K:Hid (d.tk.length=q):=K;clear HL;go_wp2_with fail;generalize w.alloc (Obj.cells #[.slice s d.ns.length D,.slice r d.is.length A,.slice m d.ds.length v,.int .i64 d.pl,.slice o d.hs.length z,.slice U d.ls.length C,.slice n d.gs.length y,.slice t d.ps.length E,.int .i64 d.nx,.slice T d.ga.length u,.slice V d.tk.length F] 51)=w0 at *;have aI:=ZbT af;obtain ⟨aB,ax,an,_,_,c⟩:=R0.rl;obtain ⟨aA,aw,am,_,_,b⟩:=R0.ra;obtain ⟨aC,ay,ao,_,_,f⟩:=R0.rt;simp only [Value.slice.injEq] at an am ao;obtain ⟨rfl,_,rfl⟩:=an;obtain ⟨rfl,_,rfl⟩:=am;obtain ⟨rfl,_,rfl⟩:=ao
    go_loopw [33] (fun i wr=>∃ k:Nat,k <= q/\i=.int .i64 k/\Hid ((d.ls.zipIdx.take k).all (lkB d.ga d.tk)=true)/\Below w0.heap.size w0 wr) (fun i _=>q - (intOf i).toNat)
    case atStart=>exact ⟨0,by omega,rfl,by simp [Hid],cf _ _⟩
    case round =>
     obtain ⟨k,hk,rfl,HK,hb⟩:=hrel;have X:=L.trans (hb.mono L.size);have hx:=Zaf af hb
     by_cases I:k < q
     ·have aD:k < d.ls.length:=by rw [J.out];exact I
      have Y:k < d.ga.length:=by rw [S.out];exact I
      have Z:k < d.tk.length:=by rw [K.out];exact I
      obtain ⟨gl,ol,rfl,_,aj,c⟩:=c (by intro e;have hh:=J.out;rw [e] at hh;simp at hh;omega);obtain ⟨ga,oa,rfl,_,ah,b⟩:=b (by intro e;have hh:=S.out;rw [e] at hh;simp at hh;omega);obtain ⟨gt,ot,rfl,_,ak,f⟩:=f (by intro e;have hh:=K.out;rw [e] at hh;simp at hh;omega);obtain ⟨l,hl⟩:∃ x,d.ls[k]? = some x:=⟨d.ls[k]'(by rw [J.out];exact I),List.getElem?_eq_getElem _⟩;obtain ⟨ta,ad⟩:∃ x,d.ga[k]? = some x:=⟨d.ga[k]'(by rw [S.out];exact I),List.getElem?_eq_getElem _⟩;obtain ⟨tt,ae⟩:∃ x,d.tk[k]? = some x:=⟨d.tk[k]'(by rw [K.out];exact I),List.getElem?_eq_getElem _⟩;obtain ⟨cs,ar,hr,vq,vh,hc,L1,L2,_,_⟩:=c k l hl;obtain ⟨ca,_,ap,ua,rfl,A1,_⟩:=b k ta ad;obtain ⟨ct,_,aq,ut,rfl,T1,_⟩:=f k tt ae;obtain ⟨pq,qq,rfl⟩:=L1.small;obtain ⟨ph,qh,rfl⟩:=L2.small;obtain ⟨pa,qa,rfl⟩:=A1.small
      obtain ⟨pt,qt,rfl⟩:=T1.small;obtain rfl:cs=(#[.int .i64 l.sent,.int .i64 l.acked,.slice pq l.q.length qq,.int .i64 l.got,.slice ph l.h.length qh]:Array Value).toList:=congrArg Array.toList hc;have HZ:Hid (d.ls.zipIdx[k]? = some (l,k)):=Zkk hl
      have j:Hid (lkB d.ga d.tk (l,k)=(Zbe l && (decide ((ta.length:Int)=l.sent) && decide ((tt.length:Int)=l.got)))):=by
       unfold Hid lkB;simp [List.getD_eq_getElem?_getD,ad,ae]
      have az:=cm aj X.size;have ai:=cm ah X.size;have al:=cm ak X.size;replace hr:=Zab hr X aj;have ka:=Zbc (Zab ap X ah);have kt:=Zbc (Zab aq X ak);rw [Nat.mul_one] at ka kt;clear c b f hl ad ae hc ar ap aq;have G:=Zaw wr (Obj.cells #[.int .i64 l.sent,.int .i64 l.acked,.slice pq l.q.length qq,.int .i64 l.got,.slice ph l.h.length qh] 120);have M:(wr.alloc (Obj.cells #[.int .i64 l.sent,.int .i64 l.acked,.slice pq l.q.length qq,.int .i64 l.got,.slice ph l.h.length qh] 120)).heap[wr.heap.size]? = some (Obj.cells #[.int .i64 l.sent,.int .i64 l.acked,.slice pq l.q.length qq,.int .i64 l.got,.slice ph l.h.length qh] 120):=cg _ _;have N:=Zaf hx G;have a:=X.trans (G.mono X.size);have ab:=hb.trans (G.mono hb.size);have O:=(G.cell (p:=⟨ga,oa+k,none⟩) ai).trans ka;have P:=(G.cell (p:=⟨gt,ot+k,none⟩) al).trans kt;have av:=G.size
      obtain ⟨W3,ag⟩:∃ W3,Hid (wr.alloc (Obj.cells #[.int .i64 l.sent,.int .i64 l.acked,.slice pq l.q.length qq,.int .i64 l.got,.slice ph l.h.length qh] 120)=W3):=⟨_,rfl⟩
      go_wp2_with (refine wpList_load_mid rfl 120 _ rfl gl (ol+k * 5) rfl _ _ hr underlying120 rfl (by kernel_rfl) ?_)
      rw [ag.out] at G M N a ab O P av ⊢;clear ag hr G ka kt;cases H:Zbe l with
      | false =>
       have HF:lkB d.ga d.tk (l,k)=false:=by rw [j.out,H];rfl
       refine Zkt w.heap.size wr.heap.size ga oa gt ot k ta.length tt.length pa pt qa qt s r m o (some ⟨gl,ol,none⟩) n t D A v z C y E u F d l _ _ W3 _ N M (by omega) (by omega) O P Y Z (fun W g=>by have h:=ZbI _ _ l W (L1.below (a.trans (g.mono a.size))) (L2.below (a.trans (g.mono a.size)));rw [H] at h;exact h) ?_;intro u38 u39 u40 u41 u42 u43 u44 u45 u46 u47 u48 u49 u50 u51 u52 u53 u54 u55 u56 u57 u58 u59 u60 u61 W g;have HR:Hid (d.ls.zipIdx.all (lkB d.ga d.tk)=false):=Zar HZ.out HF;clear HK HZ j;go_wp2;go_ret;exact ⟨by rw [Q.out,HR.out];rfl,a.trans (g.mono a.size)⟩
      | true =>
       cases e1:((ta.length:Int) != l.sent) with
       | true =>
        have HF:lkB d.ga d.tk (l,k)=false:=by rw [j.out,H];simp at e1;simp [e1]
        refine Zks w.heap.size wr.heap.size ga oa gt ot k ta.length tt.length pa pt qa qt s r m o (some ⟨gl,ol,none⟩) n t D A v z C y E u F d l _ _ W3 _ N M (by omega) (by omega) O P Y Z (fun W g=>by have h:=ZbI _ _ l W (L1.below (a.trans (g.mono a.size))) (L2.below (a.trans (g.mono a.size)));rw [H] at h;exact h) e1 ?_;intro u38 u39 u40 u41 u42 u43 u44 u45 u46 u47 u48 u49 u50 u51 u52 u53 u54 u55 u56 u57 u58 u59 u60 u61 W g;have HR:Hid (d.ls.zipIdx.all (lkB d.ga d.tk)=false):=Zar HZ.out HF;clear HK HZ j;go_wp2;go_ret;exact ⟨by rw [Q.out,HR.out];rfl,a.trans (g.mono a.size)⟩
       | false =>
        cases e2:((tt.length:Int) != l.got) with
        | true =>
         have HF:lkB d.ga d.tk (l,k)=false:=by rw [j.out,H];simp at e2;simp [e2]
         refine Zif w.heap.size wr.heap.size ga oa gt ot k ta.length tt.length pa pt qa qt s r m o (some ⟨gl,ol,none⟩) n t D A v z C y E u F d l _ _ W3 _ N M (by omega) (by omega) O P Y Z (fun W g=>by have h:=ZbI _ _ l W (L1.below (a.trans (g.mono a.size))) (L2.below (a.trans (g.mono a.size)));rw [H] at h;exact h) true e1 e2 ?_;intro u38 u39 u40 u41 u42 u43 u44 u45 u46 u47 u48 u49 u50 u51 u52 u53 u54 u55 u56 u57 u58 u59 u60 u61 W g;have HR:Hid (d.ls.zipIdx.all (lkB d.ga d.tk)=false):=Zar HZ.out HF;clear HK HZ j;go_wp2;go_ret;exact ⟨by rw [Q.out,HR.out];rfl,a.trans (g.mono a.size)⟩
        | false =>
         have HF:lkB d.ga d.tk (l,k)=true:=by rw [j.out,H];simp at e1 e2;simp [e1,e2]
         refine Zif w.heap.size wr.heap.size ga oa gt ot k ta.length tt.length pa pt qa qt s r m o (some ⟨gl,ol,none⟩) n t D A v z C y E u F d l _ _ W3 _ N M (by omega) (by omega) O P Y Z (fun W g=>by have h:=ZbI _ _ l W (L1.below (a.trans (g.mono a.size))) (L2.below (a.trans (g.mono a.size)));rw [H] at h;exact h) false e1 e2 ?_;intro u38 u39 u40 u41 u42 u43 u44 u45 u46 u47 u48 u49 u50 u51 u52 u53 u54 u55 u56 u57 u58 u59 u60 u61 W g;have aa:Hid ((d.ls.zipIdx.take (k+1)).all (lkB d.ga d.tk)=true):=Za5 HK.out HZ.out HF;have ac:=ab.trans (g.mono ab.size);clear HK HZ j;go_wp2
         go_roundw
         case rel=>first | exact ⟨k+1,by omega,by go_num,aa,ac⟩ | exact ⟨_,⟨k+1,by omega,by go_num,aa,ac⟩,rfl⟩ | exact ⟨_,_,⟨k+1,by omega,by go_num,aa,ac⟩,rfl,rfl⟩
         case measure=>simp [intOf];omega
     ·have HR:Hid (d.ls.zipIdx.all (lkB d.ga d.tk)=true):=Zbv HK.out (by rw [Zi9,J.out];omega)
      have aE:¬ k < d.ls.length:=by rw [J.out];exact I
      clear HK c b f;go_wp2;go_ret;exact ⟨by rw [Q.out,HR.out];rfl,X⟩
   ·have Q:Hid (lksB d=false):=by unfold Hid;rw [HL.out];simp [show ¬ ((d.tk.length:Int)=(q:Int)) by omega]
    have n1:((d.ls.length:Int) != (q:Int))=false:=by simp [J]
    have n2:((d.ga.length:Int) != (q:Int))=false:=by simp [S]
    have n3:((d.tk.length:Int) != (q:Int))=true:=by simp;omega
    clear HL J S K;go_wp2;go_ret;exact ⟨by rw [Q.out];rfl,L⟩
  ·have Q:Hid (lksB d=false):=by unfold Hid;rw [HL.out];simp [show ¬ ((d.ga.length:Int)=(q:Int)) by omega]
   have n1:((d.ls.length:Int) != (q:Int))=false:=by simp [J]
   have n2:((d.ga.length:Int) != (q:Int))=true:=by simp;omega
   clear HL J S;go_wp2;go_ret;exact ⟨by rw [Q.out];rfl,L⟩
 ·have Q:Hid (lksB d=false):=by unfold Hid;rw [HL.out];simp [show ¬ ((d.ls.length:Int)=(q:Int)) by omega]
  have n1:((d.ls.length:Int) != (q:Int))=true:=by simp;omega
  clear HL J;go_wp2;go_ret;exact ⟨by rw [Q.out];rfl,L⟩
theorem Zff (vn vi vf vh vl vg vp va vt:Value)(d:Wd)(B:Nat)(w:World)(R:WR B w vn vi vf vh vl vg vp va vt d)(az:1 <= d.pl)(aA:d.pl <= 3) :
  Calls prog 54 #[.agg #[vn,vi,vf,.int .i64 d.pl,vh,vl,vg,vp,.int .i64 d.nx,va,vt]] w fun e w'=>e=.returned (.bool (lksB d))/\Below w.heap.size w w':=by
 have R0:=R;obtain ⟨⟨r,C,rfl⟩,⟨p,z,rfl⟩,⟨m,u,rfl⟩,⟨o,y,rfl⟩,⟨Q,A,rfl⟩,⟨n,v,rfl⟩,⟨s,D,rfl⟩,⟨P,t,rfl⟩,⟨S,E,rfl⟩⟩:=R.form;have M:=Zaw w (Obj.cells #[.slice r d.ns.length C,.slice p d.is.length z,.slice m d.ds.length u,.int .i64 d.pl,.slice o d.hs.length y,.slice Q d.ls.length A,.slice n d.gs.length v,.slice s d.ps.length D,.int .i64 d.nx,.slice P d.ga.length t,.slice S d.tk.length E] 51);have ae:=cg w (Obj.cells #[.slice r d.ns.length C,.slice p d.is.length z,.slice m d.ds.length u,.int .i64 d.pl,.slice o d.hs.length y,.slice Q d.ls.length A,.slice n d.gs.length v,.slice s d.ps.length D,.int .i64 d.nx,.slice P d.ga.length t,.slice S d.tk.length E] 51)
 obtain ⟨q,hq⟩:∃ q:Nat,(q:Int)=d.pl * d.pl:=by
  have L:d.pl=1 \/ d.pl=2 \/ d.pl=3:=by omega
  rcases L with h | h | h
  ·exact ⟨1,by rw [h];rfl⟩
  ·exact ⟨4,by rw [h];rfl⟩
  ·exact ⟨9,by rw [h];rfl⟩
 have aB:q <= 9:=by
  have L:d.pl=1 \/ d.pl=2 \/ d.pl=3:=by omega
  rcases L with h | h | h <;> rw [h] at hq <;> omega
 have ap:d.pl * d.pl=(q:Int):=hq.symm;have X:Hid (lksB d=((decide ((d.ls.length:Int)=(q:Int)) && (decide ((d.ga.length:Int)=(q:Int)) && decide ((d.tk.length:Int)=(q:Int)))) && d.ls.zipIdx.all (lkB d.ga d.tk))):=by unfold Hid lksB;rw [ap]
 clear hq;have c3:(w.alloc (Obj.cells #[.slice r d.ns.length C,.slice p d.is.length z,.slice m d.ds.length u,.int .i64 d.pl,.slice o d.hs.length y,.slice Q d.ls.length A,.slice n d.gs.length v,.slice s d.ps.length D,.int .i64 d.nx,.slice P d.ga.length t,.slice S d.tk.length E] 51)).cell? ⟨w.heap.size,0+3,none⟩=some (.int .i64 d.pl):=cd _ _ 3 _ _ _ ae
 go_enter func54,ntmps54
 by_cases H:d.ls.length=q
 ·by_cases O:d.ga.length=q
  ·by_cases L:d.tk.length=q
   ·have N:Hid (lksB d=d.ls.zipIdx.all (lkB d.ga d.tk)):=by unfold Hid;rw [X.out];simp [H,O,L]
    have n1:((d.ls.length:Int) != (q:Int))=false:=by simp [H]
    have n2:((d.ga.length:Int) != (q:Int))=false:=by simp [O]
    have n3:((d.tk.length:Int) != (q:Int))=false:=by simp [L]
    replace H:Hid (d.ls.length=q):=H;replace O:Hid (d.ga.length=q):=O;replace L:Hid (d.tk.length=q):=L;clear X;go_wp2_with fail;generalize w.alloc (Obj.cells #[.slice r d.ns.length C,.slice p d.is.length z,.slice m d.ds.length u,.int .i64 d.pl,.slice o d.hs.length y,.slice Q d.ls.length A,.slice n d.gs.length v,.slice s d.ps.length D,.int .i64 d.nx,.slice P d.ga.length t,.slice S d.tk.length E] 51)=w0 at *;have aC:=ZbT ae;obtain ⟨aw,ar,ak,_,_,c⟩:=R0.rl;obtain ⟨av,aq,aj,_,_,b⟩:=R0.ra;obtain ⟨ax,au,al,_,_,f⟩:=R0.rt;simp only [Value.slice.injEq] at ak aj al;obtain ⟨rfl,_,rfl⟩:=ak;obtain ⟨rfl,_,rfl⟩:=aj;obtain ⟨rfl,_,rfl⟩:=al
    go_loopw [4] (fun i wr=>∃ k:Nat,k <= q/\i=.int .i64 k/\Hid ((d.ls.zipIdx.take k).all (lkB d.ga d.tk)=true)/\Below w0.heap.size w0 wr) (fun i _=>q - (intOf i).toNat)
    case atStart=>exact ⟨0,by omega,rfl,by simp [Hid],cf _ _⟩
    case round =>
     obtain ⟨k,hk,rfl,HK,hb⟩:=hrel;have Z:=M.trans (hb.mono M.size);have hx:=Zaf ae hb
     by_cases G:k < q
     ·have T:k < d.ls.length:=by rw [H.out];exact G
      have U:k < d.ga.length:=by rw [O.out];exact G
      have V:k < d.tk.length:=by rw [L.out];exact G
      obtain ⟨gl,ol,rfl,_,ah,c⟩:=c (by intro e;have hh:=H.out;rw [e] at hh;simp at hh;omega);obtain ⟨ga,oa,rfl,_,ag,b⟩:=b (by intro e;have hh:=O.out;rw [e] at hh;simp at hh;omega);obtain ⟨gt,ot,rfl,_,ai,f⟩:=f (by intro e;have hh:=L.out;rw [e] at hh;simp at hh;omega);obtain ⟨l,hl⟩:∃ x,d.ls[k]? = some x:=⟨d.ls[k]'(by rw [H.out];exact G),List.getElem?_eq_getElem _⟩;obtain ⟨ta,ac⟩:∃ x,d.ga[k]? = some x:=⟨d.ga[k]'(by rw [O.out];exact G),List.getElem?_eq_getElem _⟩;obtain ⟨tt,ad⟩:∃ x,d.tk[k]? = some x:=⟨d.tk[k]'(by rw [L.out];exact G),List.getElem?_eq_getElem _⟩;obtain ⟨cs,ao,hr,vq,vh,hc,L1,L2,_,_⟩:=c k l hl;obtain ⟨ca,_,am,ua,rfl,A1,_⟩:=b k ta ac;obtain ⟨ct,_,an,ut,rfl,T1,_⟩:=f k tt ad;obtain ⟨pq,qq,rfl⟩:=L1.small;obtain ⟨ph,qh,rfl⟩:=L2.small;obtain ⟨pa,qa,rfl⟩:=A1.small
      obtain ⟨pt,qt,rfl⟩:=T1.small;obtain rfl:cs=(#[.int .i64 l.sent,.int .i64 l.acked,.slice pq l.q.length qq,.int .i64 l.got,.slice ph l.h.length qh]:Array Value).toList:=congrArg Array.toList hc;have Y:Hid (d.ls.zipIdx[k]? = some (l,k)):=Zkk hl
      have j:Hid (lkB d.ga d.tk (l,k)=(Zbe l && (decide ((ta.length:Int)=l.sent) && decide ((tt.length:Int)=l.got)))):=by
       unfold Hid lkB;simp [List.getD_eq_getElem?_getD,ac,ad]
      have J:=cm ah Z.size;have I:=cm ag Z.size;have K:=cm ai Z.size;replace hr:=Zab hr Z ah;have ka:=Zbc (Zab am Z ag);have kt:=Zbc (Zab an Z ai);rw [Nat.mul_one] at ka kt;clear c b f hl ac ad hc ao am an;have af:=hb;have a:=Z;go_wp2_with fail;cases F:Zbe l with
      | false =>
       have HF:lkB d.ga d.tk (l,k)=false:=by rw [j.out,F];rfl
       refine ZjN w.heap.size gl ol ga oa gt ot k ta.length tt.length pa pt qa qt r p m o n s C z u y A v D t E d l _ _ wr _ hx hr J T I K ka kt U V (fun W g=>by have h:=ZbM _ _ l W (L1.below (a.trans (g.mono a.size))) (L2.below (a.trans (g.mono a.size)));rw [F] at h;exact h) ?_;intro u34 u35 u36 u37 u38 u39 u40 u41 u42 u43 u44 u45 u46 u47 u48 u49 u50 u51 u52 u53 u54 u55 u56 u57 u58 u59 u60 u61 u62 u63 u64 u65 u66 u67 u68 u69 W g;have HR:Hid (d.ls.zipIdx.all (lkB d.ga d.tk)=false):=Zar Y.out HF;clear HK Y j;go_wp2;go_ret;exact ⟨by rw [N.out,HR.out];rfl,a.trans (g.mono a.size)⟩
      | true =>
       cases e1:((ta.length:Int) != l.sent) with
       | true =>
        have HF:lkB d.ga d.tk (l,k)=false:=by rw [j.out,F];simp at e1;simp [e1]
        refine ZjM w.heap.size gl ol ga oa gt ot k ta.length tt.length pa pt qa qt r p m o n s C z u y A v D t E d l _ _ wr _ hx hr J T I K ka kt U V (fun W g=>by have h:=ZbM _ _ l W (L1.below (a.trans (g.mono a.size))) (L2.below (a.trans (g.mono a.size)));rw [F] at h;exact h) e1 ?_;intro u34 u35 u36 u37 u38 u39 u40 u41 u42 u43 u44 u45 u46 u47 u48 u49 u50 u51 u52 u53 u54 u55 u56 u57 u58 u59 u60 u61 u62 u63 u64 u65 u66 u67 u68 u69 W g;have HR:Hid (d.ls.zipIdx.all (lkB d.ga d.tk)=false):=Zar Y.out HF;clear HK Y j;go_wp2;go_ret;exact ⟨by rw [N.out,HR.out];rfl,a.trans (g.mono a.size)⟩
       | false =>
        cases e2:((tt.length:Int) != l.got) with
        | true =>
         have HF:lkB d.ga d.tk (l,k)=false:=by rw [j.out,F];simp at e2;simp [e2]
         refine Zgy w.heap.size gl ol ga oa gt ot k ta.length tt.length pa pt qa qt r p m o n s C z u y A v D t E d l _ _ wr _ hx hr J T I K ka kt U V (fun W g=>by have h:=ZbM _ _ l W (L1.below (a.trans (g.mono a.size))) (L2.below (a.trans (g.mono a.size)));rw [F] at h;exact h) true e1 e2 ?_;intro u34 u35 u36 u37 u38 u39 u40 u41 u42 u43 u44 u45 u46 u47 u48 u49 u50 u51 u52 u53 u54 u55 u56 u57 u58 u59 u60 u61 u62 u63 u64 u65 u66 u67 u68 u69 W g;have HR:Hid (d.ls.zipIdx.all (lkB d.ga d.tk)=false):=Zar Y.out HF;clear HK Y j;go_wp2;go_ret;exact ⟨by rw [N.out,HR.out];rfl,a.trans (g.mono a.size)⟩
        | false =>
         have HF:lkB d.ga d.tk (l,k)=true:=by rw [j.out,F];simp at e1 e2;simp [e1,e2]
         refine Zgy w.heap.size gl ol ga oa gt ot k ta.length tt.length pa pt qa qt r p m o n s C z u y A v D t E d l _ _ wr _ hx hr J T I K ka kt U V (fun W g=>by have h:=ZbM _ _ l W (L1.below (a.trans (g.mono a.size))) (L2.below (a.trans (g.mono a.size)));rw [F] at h;exact h) false e1 e2 ?_;intro u34 u35 u36 u37 u38 u39 u40 u41 u42 u43 u44 u45 u46 u47 u48 u49 u50 u51 u52 u53 u54 u55 u56 u57 u58 u59 u60 u61 u62 u63 u64 u65 u66 u67 u68 u69 W g;have aa:Hid ((d.ls.zipIdx.take (k+1)).all (lkB d.ga d.tk)=true):=Za5 HK.out Y.out HF;have ab:=af.trans (g.mono af.size);clear HK Y j;go_wp2
         go_roundw
         case rel=>first | exact ⟨k+1,by omega,by go_num,aa,ab⟩ | exact ⟨_,⟨k+1,by omega,by go_num,aa,ab⟩,rfl⟩ | exact ⟨_,_,⟨k+1,by omega,by go_num,aa,ab⟩,rfl,rfl⟩
         case measure=>simp [intOf];omega
     ·have HR:Hid (d.ls.zipIdx.all (lkB d.ga d.tk)=true):=Zbv HK.out (by rw [Zi9,H.out];omega)
      have ay:¬ k < d.ls.length:=by rw [H.out];exact G
      clear HK c b f;go_wp2;go_ret;exact ⟨by rw [N.out,HR.out];rfl,Z⟩
   ·have N:Hid (lksB d=false):=by unfold Hid;rw [X.out];simp [show ¬ ((d.tk.length:Int)=(q:Int)) by omega]
    have n1:((d.ls.length:Int) != (q:Int))=false:=by simp [H]
    have n2:((d.ga.length:Int) != (q:Int))=false:=by simp [O]
    have n3:((d.tk.length:Int) != (q:Int))=true:=by simp;omega
    clear X H O L;go_wp2;go_ret;exact ⟨by rw [N.out];rfl,M⟩
  ·have N:Hid (lksB d=false):=by unfold Hid;rw [X.out];simp [show ¬ ((d.ga.length:Int)=(q:Int)) by omega]
   have n1:((d.ls.length:Int) != (q:Int))=false:=by simp [H]
   have n2:((d.ga.length:Int) != (q:Int))=true:=by simp;omega
   clear X H O;go_wp2;go_ret;exact ⟨by rw [N.out];rfl,M⟩
 ·have N:Hid (lksB d=false):=by unfold Hid;rw [X.out];simp [show ¬ ((d.ls.length:Int)=(q:Int)) by omega]
  have n1:((d.ls.length:Int) != (q:Int))=true:=by simp;omega
  clear X H;go_wp2;go_ret;exact ⟨by rw [N.out];rfl,M⟩
end Go.Proofs.YtanhoamdlhaaeaaGreatDoor
