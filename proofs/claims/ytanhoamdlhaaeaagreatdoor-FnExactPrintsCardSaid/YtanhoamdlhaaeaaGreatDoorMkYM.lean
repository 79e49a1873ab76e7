/-
  Texts that stood by themselves, laid into one.
-/
import Derived.Test.YtanhoamdlhaaeaaGreatDoorMkTM
import Derived.Test.YtanhoamdlhaaeaaGreatDoorMkDM
/-
  Marks of lists of homes, links and lists of texts that lie apart. No condition.
-/
set_option maxRecDepth 100000
set_option maxHeartbeats 3200000
namespace Go.Proofs.YtanhoamdlhaaeaaGreatDoor
open Go.Proofs.Tryz
open Go.RowKit
theorem ZfV (v:Value)(k:Int)(lo hi n:Nat)(w:World)(h:HI lo hi w v n)(hm:n <= 1048576)(ay:0 <= k)(hk:k <= 1152921504606846976) :
  Calls prog 37 #[v,.int .i64 k] w fun e w'=>∃ r:Int,e=.returned (.int .i64 r)/\k <= r/\r <= k+16777216 * n/\HI lo hi w' v n/\TT (fun x=>x=70 \/ x=176 \/ x=9) lo hi w w':=by
 obtain ⟨ap,o0,m,y⟩:=id h;rcases o0.2 with ⟨rfl,h0⟩ | ⟨g,d,aq,rfl,hb,hg,ak,ag,ah,z⟩
 ·subst h0
  go_enter func37,ntmps37
  go_wp2;refine wp_loop_rounds 1 ?_;rw [rounds_succ];go_wp2;go_ret;exact ⟨k,rfl,by omega,by omega,h,TT.refl _ _ _ _⟩
 ·clear hg ah z y o0 hb ak ag
  go_enter func37,ntmps37
  go_wp2
  go_loopw [1,5] (fun q i wr=>∃ (j:Nat) (r:Int),j <= n/\i=.int .i64 j/\q=.int .i64 r/\k <= r/\r <= k+16777216 * (j:Int)/\HI lo hi wr (.slice (some ⟨g,0,none⟩) n d) n/\TT (fun x=>x=70 \/ x=176 \/ x=9) lo hi w wr) (fun _ i _=>n - (intOf i).toNat)
  case atStart=>exact ⟨0,k,by omega,rfl,rfl,by omega,by omega,h,TT.refl _ _ _ _⟩
  case round =>
   clear h;obtain ⟨j,r,hj,rfl,rfl,az,aA,⟨cs,a,_,l⟩,hT⟩:=hrel
   by_cases aj:j < n
   ·obtain ⟨v0,f,v1,A,v2,J,O,Z,l0,P,t1,l1,e2,t2,l2⟩:=l j aj
    have aw:=a.1;have ax:g < wr.heap.size:=(a.lt g rfl).2;have R0:=TT.refl (fun x=>x=70 \/ x=176 \/ x=9) lo hi wr;obtain ⟨a0,q0,rfl⟩:∃ F d,v0=.slice F f d:=by obtain ⟨⟨_,o⟩,_⟩:=Z;exact Zad o
    obtain ⟨a1,q1,rfl⟩:∃ F d,v1=.slice F A d:=by obtain ⟨⟨_,o⟩,_⟩:=t1;exact Zad o
    obtain ⟨a2,q2,rfl⟩:∃ F d,v2=.slice F J d:=by obtain ⟨⟨_,o⟩,_⟩:=t2;exact Zad o
    obtain ⟨u0,c0⟩:∃ u,(wr.cell? ⟨g,j * 12,none⟩)=some u:=⟨_,(a.cellAt (j * 12) (by omega)).trans (List.getElem?_eq_getElem (by first | omega | (simp only [List.length_set];omega)))⟩;have f0:=a.frozenAt (j * 12);obtain ⟨u1,c1⟩:∃ u,(wr.cell? ⟨g,j * 12+1,none⟩)=some u:=⟨_,(a.cellAt (j * 12+1) (by omega)).trans (List.getElem?_eq_getElem (by first | omega | (simp only [List.length_set];omega)))⟩;have f1:=a.frozenAt (j * 12+1);have Q:=a.stored (j * 12) (.int .i64 (r));have T0:=R0.trans ((TT.of_grown a Q.1 Q.2 m).mono (fun x b=>by subst b;exact Or.inl rfl));have R:=Q.1.stored (j * 12+1) (.int .i64 (r+1));have T1:=T0.trans ((TT.of_grown Q.1 R.1 R.2 m).mono (fun x b=>by subst b;exact Or.inl rfl))
    have d2:=(R.1.cellAt (j * 12+2) (by omega)).trans (show _=some (Value.slice a0 f q0) by rw [List.getElem?_set_ne (by omega)];rw [List.getElem?_set_ne (by omega)];exact O);have g2:=(a.cellAt (j * 12+2) (by omega)).trans (show _=some (Value.slice a0 f q0) by exact O);obtain ⟨⟨al,B⟩,ad⟩:=Z.kept T1.kept;go_wp2_with fail;refine (Zc5 _ (r+1+1) lo f _ _ B (by omega) (by omega) (by omega)).mono ?_;rintro e E ⟨rfl,⟨ar,K⟩,G⟩;have p:=TT.of_grown B K G ad;have c:=p.own R.1 (show ¬ ((70:TypeId)=176) by decide);have Q0:=T1.trans (p.mono (fun x b=>by subst b;exact Or.inr (Or.inl rfl)));clear c0 f0 c1 f1 g2 d2 B K G p;obtain ⟨u3,c3⟩:∃ u,(E.cell? ⟨g,j * 12+3,none⟩)=some u:=⟨_,(c.cellAt (j * 12+3) (by omega)).trans (List.getElem?_eq_getElem (by first | omega | (simp only [List.length_set];omega)))⟩;have f3:=c.frozenAt (j * 12+3)
    obtain ⟨u4,c4⟩:∃ u,(E.cell? ⟨g,j * 12+4,none⟩)=some u:=⟨_,(c.cellAt (j * 12+4) (by omega)).trans (List.getElem?_eq_getElem (by first | omega | (simp only [List.length_set];omega)))⟩;have f4:=c.frozenAt (j * 12+4);obtain ⟨u5,c5⟩:∃ u,(E.cell? ⟨g,j * 12+5,none⟩)=some u:=⟨_,(c.cellAt (j * 12+5) (by omega)).trans (List.getElem?_eq_getElem (by first | omega | (simp only [List.length_set];omega)))⟩;have f5:=c.frozenAt (j * 12+5);obtain ⟨u6,c6⟩:∃ u,(E.cell? ⟨g,j * 12+6,none⟩)=some u:=⟨_,(c.cellAt (j * 12+6) (by omega)).trans (List.getElem?_eq_getElem (by first | omega | (simp only [List.length_set];omega)))⟩;have f6:=c.frozenAt (j * 12+6)
    obtain ⟨u7,c7⟩:∃ u,(E.cell? ⟨g,j * 12+7,none⟩)=some u:=⟨_,(c.cellAt (j * 12+7) (by omega)).trans (List.getElem?_eq_getElem (by first | omega | (simp only [List.length_set];omega)))⟩;have f7:=c.frozenAt (j * 12+7);obtain ⟨u8,c8⟩:∃ u,(E.cell? ⟨g,j * 12+8,none⟩)=some u:=⟨_,(c.cellAt (j * 12+8) (by omega)).trans (List.getElem?_eq_getElem (by first | omega | (simp only [List.length_set];omega)))⟩;have f8:=c.frozenAt (j * 12+8);obtain ⟨u9,c9⟩:∃ u,(E.cell? ⟨g,j * 12+9,none⟩)=some u:=⟨_,(c.cellAt (j * 12+9) (by omega)).trans (List.getElem?_eq_getElem (by first | omega | (simp only [List.length_set];omega)))⟩;have f9:=c.frozenAt (j * 12+9);have S:=c.stored (j * 12+3) (.int .i64 (r+1+1+5 * (f:Int)));have T3:=Q0.trans ((TT.of_grown c S.1 S.2 m).mono (fun x b=>by subst b;exact Or.inl rfl))
    have T:=S.1.stored (j * 12+4) (.int .i64 (r+1+1+5 * (f:Int)+1));have T4:=T3.trans ((TT.of_grown S.1 T.1 T.2 m).mono (fun x b=>by subst b;exact Or.inl rfl));have U:=T.1.stored (j * 12+5) (.int .i64 (r+1+1+5 * (f:Int)+1+1));have T5:=T4.trans ((TT.of_grown T.1 U.1 U.2 m).mono (fun x b=>by subst b;exact Or.inl rfl));have V:=U.1.stored (j * 12+6) (.int .i64 (r+1+1+5 * (f:Int)+1+1+1));have T6:=T5.trans ((TT.of_grown U.1 V.1 V.2 m).mono (fun x b=>by subst b;exact Or.inl rfl));have W:=V.1.stored (j * 12+7) (.int .i64 (r+1+1+5 * (f:Int)+1+1+1+1));have T7:=T6.trans ((TT.of_grown V.1 W.1 W.2 m).mono (fun x b=>by subst b;exact Or.inl rfl));have X:=W.1.stored (j * 12+8) (.int .i64 (r+1+1+5 * (f:Int)+1+1+1+1+1))
    have T8:=T7.trans ((TT.of_grown W.1 X.1 X.2 m).mono (fun x b=>by subst b;exact Or.inl rfl));have Y:=X.1.stored (j * 12+9) (.int .i64 (r+1+1+5 * (f:Int)+1+1+1+1+1+1));have T9:=T8.trans ((TT.of_grown X.1 Y.1 Y.2 m).mono (fun x b=>by subst b;exact Or.inl rfl));have aa:=(Y.1.cellAt (j * 12+10) (by omega)).trans (show _=some (Value.slice a1 A q1) by rw [List.getElem?_set_ne (by omega)];rw [List.getElem?_set_ne (by omega)];rw [List.getElem?_set_ne (by omega)];rw [List.getElem?_set_ne (by omega)];rw [List.getElem?_set_ne (by omega)];rw [List.getElem?_set_ne (by omega)];rw [List.getElem?_set_ne (by omega)];rw [List.getElem?_set_ne (by omega)];rw [List.getElem?_set_ne (by omega)];exact P)
    have ac:=(c.cellAt (j * 12+10) (by omega)).trans (show _=some (Value.slice a1 A q1) by rw [List.getElem?_set_ne (by omega)];rw [List.getElem?_set_ne (by omega)];exact P);obtain ⟨⟨am,C⟩,ae⟩:=t1.kept T9.kept;go_wp2_with fail;refine (Zb5 _ (r+1+1+5 * (f:Int)+1+1+1+1+1+1+1) lo A _ _ C (by omega) (by omega) (by omega)).mono ?_;rintro e w1 ⟨rfl,⟨au,L⟩,H⟩;have s:=TT.of_grown C L H ae;have O1:=s.own Y.1 (show ¬ ((70:TypeId)=9) by decide);have Q1:=T9.trans (s.mono (fun x b=>by subst b;exact Or.inr (Or.inr rfl)));clear c3 f3 c4 f4 c5 f5 c6 f6 c7 f7 c8 f8 c9 f9 ac aa C L H s
    have ab:=(O1.cellAt (j * 12+11) (by omega)).trans (show _=some (Value.slice a2 J q2) by rw [List.getElem?_set_ne (by omega)];rw [List.getElem?_set_ne (by omega)];rw [List.getElem?_set_ne (by omega)];rw [List.getElem?_set_ne (by omega)];rw [List.getElem?_set_ne (by omega)];rw [List.getElem?_set_ne (by omega)];rw [List.getElem?_set_ne (by omega)];rw [List.getElem?_set_ne (by omega)];rw [List.getElem?_set_ne (by omega)];exact e2);obtain ⟨⟨an,D⟩,af⟩:=t2.kept Q1.kept;go_wp2_with fail;refine (Zb5 _ (r+1+1+5 * (f:Int)+1+1+1+1+1+1+1+(A:Int)) lo J _ _ D (by omega) (by omega) (by omega)).mono ?_;rintro e w2 ⟨rfl,⟨av,M⟩,I⟩;have t:=TT.of_grown D M I af;have O2:=t.own O1 (show ¬ ((70:TypeId)=9) by decide);have N:=Q1.trans (t.mono (fun x b=>by subst b;exact Or.inr (Or.inr rfl)));clear ab D M I t;go_wp2
    go_roundw
    case rel =>
     refine ⟨j+1,_,by omega,by go_num,rfl,by omega,by omega,⟨_,O2,m,fun i ai=>?_⟩,hT.trans N⟩;obtain ⟨v0,f,v1,A,v2,J,O,Z,l0,P,t1,l1,e2,t2,l2⟩:=l i ai
     exact ⟨v0,f,v1,A,v2,J,(by rw [List.getElem?_set_ne (by omega)];rw [List.getElem?_set_ne (by omega)];rw [List.getElem?_set_ne (by omega)];rw [List.getElem?_set_ne (by omega)];rw [List.getElem?_set_ne (by omega)];rw [List.getElem?_set_ne (by omega)];rw [List.getElem?_set_ne (by omega)];rw [List.getElem?_set_ne (by omega)];rw [List.getElem?_set_ne (by omega)];exact O),Z.kept N.kept,l0,(by rw [List.getElem?_set_ne (by omega)];rw [List.getElem?_set_ne (by omega)];rw [List.getElem?_set_ne (by omega)];rw [List.getElem?_set_ne (by omega)];rw [List.getElem?_set_ne (by omega)];rw [List.getElem?_set_ne (by omega)];rw [List.getElem?_set_ne (by omega)];rw [List.getElem?_set_ne (by omega)];rw [List.getElem?_set_ne (by omega)];exact P),t1.kept N.kept,l1,(by rw [List.getElem?_set_ne (by omega)];rw [List.getElem?_set_ne (by omega)];rw [List.getElem?_set_ne (by omega)];rw [List.getElem?_set_ne (by omega)];rw [List.getElem?_set_ne (by omega)];rw [List.getElem?_set_ne (by omega)];rw [List.getElem?_set_ne (by omega)];rw [List.getElem?_set_ne (by omega)];rw [List.getElem?_set_ne (by omega)];exact e2),t2.kept N.kept,l2⟩
    case measure=>simp [intOf];omega
   ·go_wp2
    go_ret;have:j=n:=by omega
    subst this;exact ⟨r,rfl,by omega,by omega,⟨cs,a,m,l⟩,hT⟩
theorem ZfW (v:Value)(k:Int)(lo hi n:Nat)(w:World)(h:LI lo hi w v n)(hm:n <= 1048576)(ai:0 <= k)(hk:k <= 1152921504606846976) :
  Calls prog 38 #[v,.int .i64 k] w fun e w'=>∃ r:Int,e=.returned (.int .i64 r)/\k <= r/\r <= k+16777216 * n/\LI lo hi w' v n/\TT (fun x=>x=120 \/ x=9 \/ x=122) lo hi w w':=by
 obtain ⟨ac,o0,D,p⟩:=id h;rcases o0.2 with ⟨rfl,h0⟩ | ⟨g,b,ad,rfl,hb,hg,V,R,S,s⟩
 ·subst h0
  go_enter func38,ntmps38
  go_wp2;refine wp_loop_rounds 1 ?_;rw [rounds_succ];go_wp2;go_ret;exact ⟨k,rfl,by omega,by omega,h,TT.refl _ _ _ _⟩
 ·clear hg S s p o0 hb V R
  go_enter func38,ntmps38
  go_wp2
  go_loopw [1,5] (fun q i wr=>∃ (j:Nat) (r:Int),j <= n/\i=.int .i64 j/\q=.int .i64 r/\k <= r/\r <= k+16777216 * (j:Int)/\LI lo hi wr (.slice (some ⟨g,0,none⟩) n b) n/\TT (fun x=>x=120 \/ x=9 \/ x=122) lo hi w wr) (fun _ i _=>n - (intOf i).toNat)
  case atStart=>exact ⟨0,k,by omega,rfl,rfl,by omega,by omega,h,TT.refl _ _ _ _⟩
  case round =>
   clear h;obtain ⟨j,r,hj,rfl,rfl,aj,ak,⟨cs,a,_,c⟩,hT⟩:=hrel
   by_cases U:j < n
   ·obtain ⟨W,f,X,z,G,L,l0,H,M,l1⟩:=c j U
    have ag:=a.1;have ah:g < wr.heap.size:=(a.lt g rfl).2;have R0:=TT.refl (fun x=>x=120 \/ x=9 \/ x=122) lo hi wr;obtain ⟨a0,q0,rfl⟩:∃ O b,W=.slice O f b:=by obtain ⟨⟨_,o⟩,_⟩:=L;exact Zad o
    obtain ⟨a1,q1,rfl⟩:∃ O b,X=.slice O z b:=by obtain ⟨⟨_,o⟩,_⟩:=M;exact Zad o
    obtain ⟨u0,c0⟩:∃ u,(wr.cell? ⟨g,j * 5,none⟩)=some u:=⟨_,(a.cellAt (j * 5) (by omega)).trans (List.getElem?_eq_getElem (by first | omega | (simp only [List.length_set];omega)))⟩;have f0:=a.frozenAt (j * 5);obtain ⟨u1,c1⟩:∃ u,(wr.cell? ⟨g,j * 5+1,none⟩)=some u:=⟨_,(a.cellAt (j * 5+1) (by omega)).trans (List.getElem?_eq_getElem (by first | omega | (simp only [List.length_set];omega)))⟩;have f1:=a.frozenAt (j * 5+1);have I:=a.stored (j * 5) (.int .i64 (r));have T0:=R0.trans ((TT.of_grown a I.1 I.2 D).mono (fun x d=>by subst d;exact Or.inl rfl));have J:=I.1.stored (j * 5+1) (.int .i64 (r+1));have Y:=T0.trans ((TT.of_grown I.1 J.1 J.2 D).mono (fun x d=>by subst d;exact Or.inl rfl))
    have d2:=(J.1.cellAt (j * 5+2) (by omega)).trans (show _=some (Value.slice a0 f q0) by rw [List.getElem?_set_ne (by omega)];rw [List.getElem?_set_ne (by omega)];exact G);have g2:=(a.cellAt (j * 5+2) (by omega)).trans (show _=some (Value.slice a0 f q0) by exact G);obtain ⟨⟨aa,t⟩,P⟩:=L.kept Y.kept;go_wp2_with fail;refine (Zb5 _ (r+1+1) lo f _ _ t (by omega) (by omega) (by omega)).mono ?_;rintro e w0 ⟨rfl,⟨ae,E⟩,B⟩;have l:=TT.of_grown t E B P;have A:=l.own J.1 (show ¬ ((120:TypeId)=9) by decide);have Q0:=Y.trans (l.mono (fun x d=>by subst d;exact Or.inr (Or.inl rfl)));clear c0 f0 c1 f1 g2 d2 t E B l;obtain ⟨u3,c3⟩:∃ u,(w0.cell? ⟨g,j * 5+3,none⟩)=some u:=⟨_,(A.cellAt (j * 5+3) (by omega)).trans (List.getElem?_eq_getElem (by first | omega | (simp only [List.length_set];omega)))⟩;have f3:=A.frozenAt (j * 5+3)
    have K:=A.stored (j * 5+3) (.int .i64 (r+1+1+(f:Int)));have Z:=Q0.trans ((TT.of_grown A K.1 K.2 D).mono (fun x d=>by subst d;exact Or.inl rfl));have d4:=(K.1.cellAt (j * 5+4) (by omega)).trans (show _=some (Value.slice a1 z q1) by rw [List.getElem?_set_ne (by omega)];rw [List.getElem?_set_ne (by omega)];rw [List.getElem?_set_ne (by omega)];exact H);have g4:=(A.cellAt (j * 5+4) (by omega)).trans (show _=some (Value.slice a1 z q1) by rw [List.getElem?_set_ne (by omega)];rw [List.getElem?_set_ne (by omega)];exact H);obtain ⟨⟨ab,y⟩,Q⟩:=M.kept Z.kept;go_wp2_with fail;refine (ZeT _ (r+1+1+(f:Int)+1) lo z _ _ y (by omega) (by omega) (by omega)).mono ?_;rintro e w1 ⟨rfl,⟨af,F⟩,C⟩;have m:=TT.of_grown y F C Q;have O1:=m.own K.1 (show ¬ ((120:TypeId)=122) by decide)
    have N:=Z.trans (m.mono (fun x d=>by subst d;exact Or.inr (Or.inr rfl)));clear c3 f3 g4 d4 y F C m;go_wp2
    go_roundw
    case rel =>
     refine ⟨j+1,_,by omega,by go_num,rfl,by omega,by omega,⟨_,O1,D,fun i T=>?_⟩,hT.trans N⟩;obtain ⟨W,f,X,z,G,L,l0,H,M,l1⟩:=c i T;exact ⟨W,f,X,z,(by rw [List.getElem?_set_ne (by omega)];rw [List.getElem?_set_ne (by omega)];rw [List.getElem?_set_ne (by omega)];exact G),L.kept N.kept,l0,(by rw [List.getElem?_set_ne (by omega)];rw [List.getElem?_set_ne (by omega)];rw [List.getElem?_set_ne (by omega)];exact H),M.kept N.kept,l1⟩
    case measure=>simp [intOf];omega
   ·go_wp2
    go_ret;have:j=n:=by omega
    subst this;exact ⟨r,rfl,by omega,by omega,⟨cs,a,D,c⟩,hT⟩
theorem ZeU (v:Value)(k:Int)(lo hi n:Nat)(w:World)(h:SI lo hi w v n)(hm:n <= 1048576)(aa:0 <= k)(hk:k <= 1152921504606846976) :
  Calls prog 41 #[v,.int .i64 k] w fun e M=>∃ r:Int,e=.returned (.int .i64 r)/\k <= r/\r <= k+16777216 * n/\SI lo hi M v n/\TT (fun x=>x=9) lo hi w M:=by
 obtain ⟨R,L,J,f⟩:=id h;rcases L.2 with ⟨rfl,V⟩ | ⟨g,d,S,rfl,W,Y,E,A,B,l⟩
 ·subst V
  go_enter func41,ntmps41
  go_wp2;refine wp_loop_rounds 1 ?_;rw [rounds_succ];go_wp2;go_ret;exact ⟨k,rfl,by omega,by omega,h,TT.refl _ _ _ _⟩
 ·clear Y B l f L W E A
  go_enter func41,ntmps41
  go_wp2
  go_loopw [1,5] (fun q i wr=>∃ (j:Nat) (r:Int),j <= n/\i=.int .i64 j/\q=.int .i64 r/\k <= r/\r <= k+16777216 * (j:Int)/\SI lo hi wr (.slice (some ⟨g,0,none⟩) n d) n/\TT (fun x=>x=9) lo hi w wr) (fun _ i _=>n - (intOf i).toNat)
  case atStart=>exact ⟨0,k,by omega,rfl,rfl,by omega,by omega,h,TT.refl _ _ _ _⟩
  case round =>
   clear h;obtain ⟨j,r,hj,rfl,rfl,ab,ac,⟨cs,a,_,b⟩,I⟩:=hrel
   by_cases D:j < n
   ·obtain ⟨F,s,y,u,K⟩:=b j D
    have X:=a.1;have Z:g < wr.heap.size:=(a.lt g rfl).2;have H:=TT.refl (fun x=>x=9) lo hi wr;obtain ⟨O,q0,rfl⟩:∃ P d,F=.slice P s d:=by obtain ⟨⟨_,o⟩,_⟩:=u;exact Zad o
    have U:=(a.cellAt (j) (by omega)).trans (show _=some (Value.slice O s q0) by exact y);obtain ⟨⟨Q,m⟩,z⟩:=u.kept H.kept;go_wp2_with fail;refine (Zb5 _ (r) lo s _ _ m (by omega) (by omega) (by omega)).mono ?_;rintro e w0 ⟨rfl,⟨T,t⟩,p⟩;have c:=TT.of_grown m t p z;have N:=c.own a (show ¬ ((37:TypeId)=9) by decide);have G:=H.trans (c.mono (fun x hx=>by subst hx;exact rfl));clear U m t p c;go_wp2
    go_roundw
    case rel =>
     refine ⟨j+1,_,by omega,by go_num,rfl,by omega,by omega,⟨_,N,J,fun i C=>?_⟩,I.trans G⟩;obtain ⟨F,s,y,u,K⟩:=b i C;exact ⟨F,s,(by exact y),u.kept G.kept,K⟩
    case measure=>simp [intOf];omega
   ·go_wp2
    go_ret;have:j=n:=by omega
    subst this;exact ⟨r,rfl,by omega,by omega,⟨cs,a,J,b⟩,I⟩
theorem Zha (T U V:Value)(k:Int)(lo hi a b c:Nat)(w:World)(L:Tg lo hi w 176 5 T a)(M:Tg lo hi w 163 4 U b)(N:Tg lo hi w 157 3 V c)(O:hi <= w.heap.size)(l1:a <= 1048576)(l2:b <= 1048576)(l3:c <= 1048576)(F:0 <= k)(hk:k <= 1152921504606846976) :
  Calls prog 36 #[.agg #[T,U,V],.int .i64 k] w fun e G=>e=.returned (.int .i64 (k+5 * a+4 * b+3 * c))/\TT (fun x=>x=176 \/ x=163 \/ x=157) lo hi w G:=by
 obtain ⟨g,i,rfl⟩:=L.form;obtain ⟨p,r,rfl⟩:=M.form;obtain ⟨q,s,rfl⟩:=N.form;have m:(w.alloc (Obj.cells #[.slice g a i,.slice p b r,.slice q c s] 45)).heap[w.heap.size]? = some (Obj.cells #[.slice g a i,.slice p b r,.slice q c s] 45):=cg _ _;have d:Below w.heap.size w (w.alloc (Obj.cells #[.slice g a i,.slice p b r,.slice q c s] 45)):=(cf _ _).alloc (ce _) _
 have Z:∀ W:World,Tg lo hi W 176 5 (.slice g a i) a -> Calls prog 80 #[.agg #[.slice g a i],.int .i64 k] W fun e G=>e=.returned (.int .i64 (k+5 * a))/\TT (fun x=>x=176) lo hi W G:=fun W ht=>by
  have j:Below W.heap.size W (W.alloc (Obj.cells #[.slice g a i] 41)):=(cf _ _).alloc (ce _) _;obtain ⟨⟨cs,o⟩,hg⟩:=ht.below j
  go_enter func80,ntmps80
  go_wp2_with fail;refine (Zc5 _ k lo a cs _ o (by omega) F (by omega)).mono ?_;rintro e w2 ⟨rfl,⟨cz,P⟩,K⟩;have T2:=(TT.of_below (fun x=>x=176) lo hi j).trans (TT.of_grown o P K hg);clear K P o;go_wp2;go_ret;exact ⟨rfl,T2⟩
 have S:=L.below d;have H:=TT.of_below (fun x=>x=176 \/ x=163 \/ x=157) lo hi d
 go_enter func36,ntmps36
 go_wp2_with fail;refine (Z _ S).mono ?_;rintro e X ⟨rfl,z⟩;have f:=z.hib m O;have v:=H.trans (z.mono (fun x l=>Or.inl l));obtain ⟨⟨B,t⟩,D⟩:=M.kept v.kept;clear H z m d S;have e1:X.cell? ⟨w.heap.size,0+1,none⟩=some (.slice p b r):=cd X _ 1 _ _ _ f;go_wp2_with fail;refine (ZeS _ (k+5 * a) lo b B _ t t.1 (by omega) (by omega) (by omega)).mono ?_;rintro e Y ⟨rfl,Q,I⟩;have A:=TT.of_grown t Q I D;have n:=A.hib f O;have y:=v.trans (A.mono (fun x l=>Or.inr (Or.inl l)));obtain ⟨⟨C,u⟩,E⟩:=N.kept y.kept;clear v A f e1 Q I t;have e2:Y.cell? ⟨w.heap.size,0+2,none⟩=some (.slice q c s):=cd Y _ 2 _ _ _ n;go_wp2_with fail;refine (Zhb _ (k+5 * a+4 * b) lo c C _ u u.1 (by omega) (by omega) (by omega)).mono ?_;rintro e wc ⟨rfl,R,J⟩;have TC:=y.trans ((TT.of_grown u R J E).mono (fun x l=>Or.inr (Or.inr l)));clear y n e2 R J u;go_wp2;go_ret
 exact ⟨rfl,TC⟩
theorem ZfX (v1 v2 v3 vh vl vg vp va vt:Value)(pl nx k:Int)(lo hi f i j B C d m A D:Nat)(w:World)(S:WI lo hi w v1 v2 v3 vh vl vg vp va vt f i j B C d m A D)(o:hi <= w.heap.size)(ak:0 <= k)(hk:k <= 1048576) :
  Calls prog 10 #[.agg #[v1,v2,v3,.int .i64 pl,vh,vl,vg,vp,.int .i64 nx,va,vt],.int .i64 k] w fun e w'=>∃ r:Int,e=.returned (.int .i64 r)/\k <= r/\TT (fun _=>True) lo hi w w':=by
 obtain ⟨L,U,rfl⟩:=S.c1.form;obtain ⟨M,V,rfl⟩:=S.c2.form;obtain ⟨N,W,rfl⟩:=S.c3.form;obtain ⟨Q,Z,rfl⟩:=S.h.form;obtain ⟨R,cl,rfl⟩:=S.l.form;obtain ⟨P,Y,rfl⟩:=S.g.form;obtain ⟨T,cp,rfl⟩:=S.p.form;obtain ⟨O,X,rfl⟩:=S.a.form;obtain ⟨c,ct,rfl⟩:=S.t.form;have b1:=S.l1;have b2:=S.l2;have b3:=S.l3;have b4:=S.lh;have b5:=S.ll;have b6:=S.lg;have b7:=S.lp;have b8:=S.la;have b9:=S.lt;have s:(w.alloc (Obj.cells #[.slice L f U,.slice M i V,.slice N j W,.int .i64 pl,.slice Q B Z,.slice R C cl,.slice P d Y,.slice T m cp,.int .i64 nx,.slice O A X,.slice c D ct] 51)).heap[w.heap.size]? = some (Obj.cells #[.slice L f U,.slice M i V,.slice N j W,.int .i64 pl,.slice Q B Z,.slice R C cl,.slice P d Y,.slice T m cp,.int .i64 nx,.slice O A X,.slice c D ct] 51):=cg _ _
 have b:Below w.heap.size w (w.alloc (Obj.cells #[.slice L f U,.slice M i V,.slice N j W,.int .i64 pl,.slice Q B Z,.slice R C cl,.slice P d Y,.slice T m cp,.int .i64 nx,.slice O A X,.slice c D ct] 51)):=(cf _ _).alloc (ce _) _;have ac:hi <= (w.alloc (Obj.cells #[.slice L f U,.slice M i V,.slice N j W,.int .i64 pl,.slice Q B Z,.slice R C cl,.slice P d Y,.slice T m cp,.int .i64 nx,.slice O A X,.slice c D ct] 51)).heap.size:=Nat.le_trans o b.size;have G:=TT.of_below (fun _=>True) lo hi b;have I0:=S.h.tt (TT.of_below (fun _=>False) lo hi b) (fun h=>h);have J0:=S.l.tt (TT.of_below (fun _=>False) lo hi b) (fun h=>h);have K0:=S.a.tt (TT.of_below (fun _=>False) lo hi b) (fun h=>h);have L0:=S.t.tt (TT.of_below (fun _=>False) lo hi b) (fun h=>h)
 go_enter func10,ntmps10
 go_wp2_with (refine Zag rfl 45 _ rfl w.heap.size 0 rfl _ 51 #[.slice L f U,.slice M i V,.slice N j W] _ s rfl underlying45 rfl ZlK ?_)
 refine (Zha _ _ _ k lo hi f i j _ (S.c1.kept G.kept) (S.c2.kept G.kept) (S.c3.kept G.kept) ac b1 b2 b3 ak (by omega)).mono ?_;rintro e wa ⟨rfl,n⟩;have u:=n.hib s o;have TA:=G.trans n.any;have I1:=I0.tt n (by decide);have J1:=J0.tt n (by decide);have K1:=K0.tt n (by decide);have L1:=L0.tt n (by decide);clear s b ac G I0 J0 K0 L0 n;have q4:wa.cell? ⟨w.heap.size,0+4,none⟩=some (.slice Q B Z):=cd wa _ 4 _ _ _ u;obtain ⟨r1,q⟩:∃ r1,Hid (k+5 * (f:Int)+4 * (i:Int)+3 * (j:Int)=r1):=⟨_,rfl⟩;have g1:k <= r1/\r1 <= k+12582912:=by have:=q.out;omega
 rw [q.out];clear q;go_wp2_with fail;refine (ZfV _ r1 lo hi B _ I1 b4 (by omega) (by omega)).mono ?_;rintro e wb ⟨r2,rfl,g2,aq,_,E⟩;have v:=E.hib u o;have TB:=TA.trans E.any;have J2:=J1.tt E (by decide);have F:=K1.tt E (by decide);have L2:=L1.tt E (by decide);clear u TA I1 J1 K1 L1 E q4;have q5:wb.cell? ⟨w.heap.size,0+5,none⟩=some (.slice R C cl):=cd wb _ 5 _ _ _ v;go_wp2_with fail;refine (ZfW _ r2 lo hi C _ J2 b5 (by omega) (by omega)).mono ?_;rintro e wc ⟨r3,rfl,g3,ar,_,H⟩;have x:=H.hib v o;have TC:=TB.trans H.any;have K3:=F.tt H (by decide);have L3:=L2.tt H (by decide);obtain ⟨⟨af,og⟩,aj⟩:=S.g.kept TC.kept;clear v TB J2 F L2 H q5;have q6:wc.cell? ⟨w.heap.size,0+6,none⟩=some (.slice P d Y):=cd wc _ 6 _ _ _ x;go_wp2_with fail;refine (ZfU _ r3 lo d af _ og (by omega) (by omega) (by omega)).mono ?_;rintro e wd ⟨rfl,⟨cz,oz⟩,gz⟩
 have I:=TT.of_grown og oz gz aj;have y:=I.hib x o;have TD:=TC.trans I.any;have K4:=K3.tt I (show ¬ ((37:TypeId)=124) by decide);have L4:=L3.tt I (show ¬ ((37:TypeId)=124) by decide);obtain ⟨⟨ai,op⟩,am⟩:=S.p.kept TD.kept;clear x TC K3 L3 og oz gz I q6;have q7:wd.cell? ⟨w.heap.size,0+7,none⟩=some (.slice T m cp):=cd wd _ 7 _ _ _ y;go_wp2_with fail;refine (Zea _ (r3+5 * (d:Int)) lo m ai _ op (by omega) (by omega) (by omega)).mono ?_;rintro e we ⟨rfl,⟨ao,ae⟩,ab⟩;have J:=TT.of_grown op ae ab am;have z:=J.hib y o;have TE:=TD.trans J.any;have K5:=K4.tt J (show ¬ ((37:TypeId)=126) by decide);have L5:=L4.tt J (show ¬ ((37:TypeId)=126) by decide);clear y TD K4 L4 op ae ab J q7;have q9:we.cell? ⟨w.heap.size,0+9,none⟩=some (.slice O A X):=cd we _ 9 _ _ _ z;go_wp2_with fail
 refine (ZeU _ (r3+5 * (d:Int)+3 * (m:Int)) lo hi A _ K5 b8 (by omega) (by omega)).mono ?_;rintro e wf ⟨r6,rfl,g6,au,_,Tf⟩;have ad:=Tf.hib z o;have TF:=TE.trans Tf.any;have L6:=L5.tt Tf (by decide);clear z TE K5 L5 Tf q9;have an:wf.cell? ⟨w.heap.size,0+10,none⟩=some (.slice c D ct):=cd wf _ 10 _ _ _ ad;go_wp2_with fail;refine (ZeU _ r6 lo hi D _ L6 b9 (by omega) (by omega)).mono ?_;rintro e wg ⟨r7,rfl,g7,av,_,K⟩;have TG:=TF.trans K.any;clear ad TF L6 K an;go_wp2;go_ret;exact ⟨r7,rfl,by omega,TG⟩
end Go.Proofs.YtanhoamdlhaaeaaGreatDoor
